/-
  What the reference's sector returns: a contract by a walk. Condition: bounded lengths.
-/
import Derived.Test.YtfclifolniefpaaGreatDoorStJ
import Derived.Test.YtfclifolniefpaaGreatDoorStRef
set_option linter.unusedSimpArgs false
set_option linter.unusedVariables false
namespace Go.Proofs.YtfclifolniefpaaGreatDoor
open Go.RowKit

/-- A row of 256 bytes, the first ones filled. -/
def fil (l : List UInt8) : List Value := bvs l ++ List.replicate (256 - l.length) (.int .u8 0)
theorem fil_set (l : List UInt8) (x : UInt8) (h : l.length < 256) : (fil l).set l.length (bv x) = fil (l ++ [x]) := by
  unfold fil
  rw [List.set_append_right _ _ (by rw [bvs_length]; omega), bvs_length, Nat.sub_self, List.length_append, bvs_append, List.append_assoc]
  congr 1
  show _ = bv x :: List.replicate (256 - (l.length + 1)) (Value.int .u8 0)
  rw [show 256 - l.length = (256 - (l.length + 1)) + 1 by omega, List.replicate_succ]
  rfl
theorem fil_len (l : List UInt8) (h : l.length ≤ 256) : (fil l).length = 256 := by
  unfold fil
  rw [List.length_append, bvs_length, List.length_replicate]
  omega
theorem fil_pad (l : List UInt8) (h : l.length ≤ 256) (l' : List UInt8) (h' : l = l'.take 256) : fil l = bvs (stPad l') := by
  unfold fil stPad
  subst h'
  unfold bvs
  rw [List.take_append, List.map_append, List.take_replicate, List.map_replicate, List.length_take]
  congr 2
  omega
set_option maxRecDepth 100000 in
set_option maxHeartbeats 4000000 in
theorem rsector_any (A : Option Addr) (n c k : Nat) (l : List UInt8) (w : World) (hr : Reads w w.heap.size 1 A n (bvs l)) (hn : n ≤ 3000) (hk : k ≤ 100) :
    Calls Tryz.prog 44 #[.slice A n c, .int .i64 (k : Int)] w (TellsS (stSec (l.drop (256 * k))) w) := by
  have HLN := Lib.hid hr.bytes_len
  obtain ⟨m, hm⟩ : ∃ m, m = l.drop (256 * k) := ⟨_, rfl⟩
  have HM : Hid (m.length = n - 256 * k) := Lib.hid (by rw [hm, List.length_drop, HLN.out])
  have HCL : Hid (∀ (i : Nat) (h : 256 * k + i < n), ∃ ad x, A = some ad ∧ ad.block < w.heap.size ∧ m[i]? = some x ∧ w.cell? (ad.add (256 * k + i)) = some (.int .u8 (x.toNat : Int))) := Lib.hid fun i h => by
    obtain ⟨ad, e, hb, hc⟩ := hr.2 (by omega)
    have hl : 256 * k + i < l.length := by rw [HLN.out]; exact h
    refine ⟨ad, l[256 * k + i], e, hb, by rw [hm, List.getElem?_drop, List.getElem?_eq_getElem hl], hc _ _ ?_⟩
    unfold bvs
    rw [List.getElem?_map, List.getElem?_eq_getElem hl]
    rfl
  rw [← hm]
  have HE : Hid (stSec m = ⟨(stPad m).toArray⟩) := Lib.hid rfl
  have HPL := Lib.hid (stPad_len m)
  clear hr hm
  generalize stSec m = E at *
  go_enter Tryz.func44, Tryz.ntmps44
  go_wp2_with (with_reducible refine wpList_make_row (o := ⟨some 7, _, _, _, _, _⟩) rfl _ _ _ rfl 5 Tryz.underlying76 (.int .u8 0) rfl 1 info_u8 .i64 .i64 256 256 rfl rfl (by omega) (by omega) (by omega) ?_; intro w1 hrow1 hs1 hg1)
  have hbel : Below w.heap.size w w1 := grown_below hg1 (Nat.le_refl _) (by simp)
  clear hg1
  go_loopg [6] 256 (fun g s6 wr => ∃ i : Nat, Hid (i + g = 256) ∧ i ≤ 256 ∧ s6 = .int .i64 (i : Int) ∧ Hid (i ≤ m.length) ∧ Row wr w.heap.size 5 (fil (m.take i)) ∧ Below w.heap.size w wr)
  case atStart => exact ⟨0, by show _ = _; omega, by omega, rfl, Nat.zero_le _, hrow1, hbel⟩
  case round =>
    obtain ⟨i, HI, hi, rfl, HIM, hrow, hbelr⟩ := hrel
    by_cases hlt : i < 256
    · by_cases hin : 256 * k + i < n
      · obtain ⟨ad, x, rfl, hab, hx, hc⟩ := HCL.out i hin
        have hc0 := (hbelr.cell (by rw [block_of_add]; exact hab)).trans hc
        have HX := Lib.hid hx
        have HTL : Hid ((m.take i).length = i) := Lib.hid (by rw [List.length_take]; exact Nat.min_eq_left HIM.out)
        have HFL : Hid ((fil (m.take i)).length = 256) := Lib.hid (fil_len _ (by rw [HTL.out]; exact hi))
        have HST : Hid ((fil (m.take i)).set i (bv x) = fil (m.take (i + 1))) := Lib.hid (by
          have e := fil_set (m.take i) x (by rw [HTL.out]; exact hlt)
          rw [HTL.out] at e
          rw [e, List.take_add_one, hx]
          rfl)
        have HIM2 : Hid (i + 1 ≤ m.length) := Lib.hid (by rw [HM.out]; omega)
        clear hc hx HCL
        generalize fil (m.take i) = R0 at *
        go_wp2_with (first
          | ((with_reducible refine wpList_at ⟨none, .store _ (.tmp 30) _, _, _, _, _⟩ ?_); refine wpList_store_elem rfl _ _ _ rfl w.heap.size i rfl _ _ hrow (bv x) rfl rfl (by rw [HFL.out]; exact hlt) (by kernel_rfl) ?_; intro w3 hrow3 hg3; have hb3 : Below w.heap.size w w3 := below_kept hbelr hg3 hbelr.size (by rintro k hk; cases hk; omega); clear hg3))
        go_roundg (gk - 1)
        case measure => have := HI.out; omega
        case rel =>
          refine ⟨i + 1, by have := HI.out; show _ = _; omega, by omega, by go_num, HIM2, ?_, hb3⟩
          rw [← HST.out]
          exact hrow3
      · have HT : Hid (fil (m.take i) = bvs (stPad m)) := Lib.hid (by
          have : m.length ≤ i := by rw [HM.out]; omega
          refine fil_pad _ (by rw [List.length_take]; omega) m ?_
          rw [List.take_of_length_le this, List.take_of_length_le (by omega)])
        rw [HT.out] at hrow
        clear HT HCL HIM
        generalize stPad m = PD at *
        have hrd := hrow.reads (size := 1) (n := 256) (by rw [bvs_length, HPL.out])
        go_wp2_with (first
          | ((with_reducible refine wpList_at ⟨some 32, _, _, _, _, _⟩ ?_); refine wpList_valueG rfl _ (by exact exec_string_of _ _ _ _ _ rfl Tryz.underlying76 Tryz.underlying5 Tryz.underlying9 rfl hrd) ?_))
        go_ret
        exact ⟨by rw [HE.out]; rfl, hbelr⟩
    · have HT : Hid (fil (m.take i) = bvs (stPad m)) := Lib.hid (by
        have : i = 256 := by omega
        subst this
        exact fil_pad _ (by rw [List.length_take]; exact Nat.min_le_left _ _) m rfl)
      rw [HT.out] at hrow
      clear HT HCL HIM
      generalize stPad m = PD at *
      have hrd := hrow.reads (size := 1) (n := 256) (by rw [bvs_length, HPL.out])
      go_wp2_with (first
        | ((with_reducible refine wpList_at ⟨some 32, _, _, _, _, _⟩ ?_); refine wpList_valueG rfl _ (by exact exec_string_of _ _ _ _ _ rfl Tryz.underlying76 Tryz.underlying5 Tryz.underlying9 rfl hrd) ?_))
      go_ret
      exact ⟨by rw [HE.out]; rfl, hbelr⟩
end Go.Proofs.YtfclifolniefpaaGreatDoor

/-
  What the reference's Save returns: contracts by walks. Condition: bounded lengths.
-/
namespace Go.Proofs.YtfclifolniefpaaGreatDoor
open Go.RowKit

set_option maxRecDepth 100000 in
set_option maxHeartbeats 4000000 in
theorem rsave_out (g : Nat) (rec : Int) (x : ByteArray) (c : Cu) (hin : stIn rec = false) (w : World) (hrow : Row w g 68 c.cs) :
    Calls Tryz.prog 26 #[.pointer (some ⟨g, 0, none⟩), .int .i64 rec, .string x] w (GivesC g c (⟨em, 0, 1⟩ : StO).v w) := by
  have HF := fun W => Lib.hid (rfirst_any rec 0 W)
  rw [stFirst_no (.inl hin)] at HF
  have hgl := hrow.lt
  go_enter Tryz.func26, Tryz.ntmps26
  go_wp2_with (with_reducible refine wpList_alloc_row (o := ⟨some 6, _, _, _, _, _⟩) rfl _ rfl zeroO zero_so ?_; intro w1 z1 s1 g1; have b1 : Below w.heap.size w w1 := grown_below g1 (Nat.le_refl _) (by simp); have r1 := hrow.on b1)
  refine ((HF _).out).mono ?_
  rintro e _ ⟨rfl, rfl⟩
  go_wp2_with ((with_reducible refine wpList_at ⟨none, .store _ (.tmp 6) _, _, _, _, _⟩ ?_); refine wpList_store_all rfl _ _ _ rfl w.heap.size rfl _ _ z1 ((⟨em, 0, 1⟩ : StO).cs) rfl (StO.cs_one _) rfl (by kernel_rfl) ?_; intro wz zz gz; have rz := r1.kept gz (by simp; omega))
  exact bodyPost_ret (results_cell1 Tryz.results26 _ _ _ _ rfl (load_so (a := ⟨em, 0, 1⟩) zz)) rfl ⟨rfl, rz, grown_new (below_grownBy b1 (some g)) gz (Nat.le_refl _)⟩
set_option maxRecDepth 100000 in
set_option maxHeartbeats 4000000 in
theorem rsave_big (g : Nat) (rec : Int) (x : ByteArray) (c : Cu) (hin : stIn rec = true) (hx : ¬ x.size ≤ 2000) (hx2 : x.size ≤ 1000000) (w : World) (hrow : Row w g 68 c.cs) :
    Calls Tryz.prog 26 #[.pointer (some ⟨g, 0, none⟩), .int .i64 rec, .string x] w (GivesC g c (⟨em, 0, 19⟩ : StO).v w) := by
  have HF := fun W => Lib.hid (rfirst_any rec 0 W)
  rw [stFirst_ok hin (by omega) (by omega)] at HF
  have hrb := stIn_iff.1 hin
  obtain ⟨hr0, hr3⟩ := hrb
  have hgl := hrow.lt
  go_enter Tryz.func26, Tryz.ntmps26
  go_wp2_with (with_reducible refine wpList_alloc_row (o := ⟨some 6, _, _, _, _, _⟩) rfl _ rfl zeroO zero_so ?_; intro w1 z1 s1 g1; have b1 : Below w.heap.size w w1 := grown_below g1 (Nat.le_refl _) (by simp); have r1 := hrow.on b1)
  refine ((HF _).out).mono ?_
  rintro e _ ⟨rfl, rfl⟩
  go_wp2_with ((with_reducible refine wpList_at ⟨none, .store _ (.tmp 6) _, _, _, _, _⟩ ?_); refine wpList_store_all rfl _ _ _ rfl w.heap.size rfl _ _ z1 ((⟨em, 0, 19⟩ : StO).cs) rfl (StO.cs_one _) rfl (by kernel_rfl) ?_; intro wz zz gz; have rz := r1.kept gz (by simp; omega))
  exact bodyPost_ret (results_cell1 Tryz.results26 _ _ _ _ rfl (load_so (a := ⟨em, 0, 19⟩) zz)) rfl ⟨rfl, rz, grown_new (below_grownBy b1 (some g)) gz (Nat.le_refl _)⟩
set_option maxRecDepth 100000 in
set_option maxHeartbeats 4000000 in
theorem rsave_few (g : Nat) (A : Option Addr) (n d : Nat) (acc : Nat → StA) (rec : Int) (x : ByteArray) (l : List StR) (hin : stIn rec = true) (hx : x.size ≤ 2000) (hacc : ∀ j, j < 16 → acc j = stRead rec j) (w : World) (hrow : Row w g 68 (cuS A n d acc 0).cs) (hr : Reads w w.heap.size 2 A n (rcs l)) (hA : 0 < n → ∀ ad, A = some ad → ad.block ≠ g) (hn : n ≤ 1000) (hs : ∀ r ∈ l, r.s.size ≤ 400) (h16 : n < 16) :
    Calls Tryz.prog 26 #[.pointer (some ⟨g, 0, none⟩), .int .i64 rec, .string x] w (GivesC g ⟨A, n, d, n, stRead rec n, true⟩ (noO).v w) := by
  have HF := fun W => Lib.hid (rfirst_any rec 0 W)
  rw [stFirst_ok hin (by omega) (by omega)] at HF
  have hrb := stIn_iff.1 hin
  obtain ⟨hr0, hr3⟩ := hrb
  have hgl := hrow.lt
  have HCU : ∀ W : World, Row W g 68 (cuS A n d acc 0).cs → Below w.heap.size w W → Hid (Calls Tryz.prog 35 #[.pointer (some ⟨g, 0, none⟩), .int .i64 rec] W (GivesC g (cuS A n d acc 16) (.tuple #[.int .i64 (cuCur rec n (l.map StR.s)).1, .int .i64 (cuCur rec n (l.map StR.s)).2.1, .string (cuCur rec n (l.map StR.s)).2.2]) W)) := fun W hR hB =>
    Lib.hid (ccur_any g A n d acc rec l hin hacc W hR (hr.on hB) hA hn hs)
  rw [cuS_few h16, cuCur_few h16] at HCU
  rw [hacc n h16] at HCU
  clear hr hA hs hacc hin
  go_enter Tryz.func26, Tryz.ntmps26
  go_wp2_with (with_reducible refine wpList_alloc_row (o := ⟨some 6, _, _, _, _, _⟩) rfl _ rfl zeroO zero_so ?_; intro w1 z1 s1 g1; have b1 : Below w.heap.size w w1 := grown_below g1 (Nat.le_refl _) (by simp); have r1 := hrow.on b1)
  refine ((HF _).out).mono ?_
  rintro e _ ⟨rfl, rfl⟩
  go_wp2_with fail
  refine ((HCU w1 r1 b1).out).mono ?_
  rintro e w2 ⟨rfl, r2, g2⟩
  have z2 := z1.kept g2 (by simp; omega)
  have hs2 := g2.size
  have c6 : w2.cell? ⟨g, 6, none⟩ = some (.bool true) := r2.cell (j := 6) rfl
  go_wp2_with ((with_reducible refine wpList_at ⟨none, .store _ (.tmp 6) _, _, _, _, _⟩ ?_); refine wpList_store_all rfl _ _ _ rfl w.heap.size rfl _ _ z2 ((noO).cs) rfl (StO.cs_one _) rfl (by kernel_rfl) ?_; intro wz zz gz; have rz := r2.kept gz (by simp; omega))
  exact bodyPost_ret (results_cell1 Tryz.results26 _ _ _ _ rfl (load_so (a := noO) zz)) rfl ⟨rfl, rz, grown_new (grown_trans (below_grownBy b1 (some g)) g2) gz (Nat.le_refl _)⟩
set_option maxRecDepth 100000 in
set_option maxHeartbeats 4000000 in
theorem rsave_full (g : Nat) (A : Option Addr) (n d : Nat) (acc : Nat → StA) (rec : Int) (x : ByteArray) (l : List StR) (hin : stIn rec = true) (hx : x.size ≤ 2000) (hacc : ∀ j, j < 16 → acc j = stRead rec j) (w : World) (hrow : Row w g 68 (cuS A n d acc 0).cs) (hr : Reads w w.heap.size 2 A n (rcs l)) (hA : 0 < n → ∀ ad, A = some ad → ad.block ≠ g) (hn : n ≤ 1000) (hs : ∀ r ∈ l, r.s.size ≤ 400) (h16 : ¬ n < 16) (hm : (stCur rec (l.map StR.s)).1 = 1099511627776) :
    Calls Tryz.prog 26 #[.pointer (some ⟨g, 0, none⟩), .int .i64 rec, .string x] w (GivesC g ⟨A, n, d, 16, noA, false⟩ (⟨em, 0, 19⟩ : StO).v w) := by
  have HF := fun W => Lib.hid (rfirst_any rec 0 W)
  rw [stFirst_ok hin (by omega) (by omega)] at HF
  have hrb := stIn_iff.1 hin
  obtain ⟨hr0, hr3⟩ := hrb
  have hgl := hrow.lt
  have HCU : ∀ W : World, Row W g 68 (cuS A n d acc 0).cs → Below w.heap.size w W → Hid (Calls Tryz.prog 35 #[.pointer (some ⟨g, 0, none⟩), .int .i64 rec] W (GivesC g (cuS A n d acc 16) (.tuple #[.int .i64 (cuCur rec n (l.map StR.s)).1, .int .i64 (cuCur rec n (l.map StR.s)).2.1, .string (cuCur rec n (l.map StR.s)).2.2]) W)) := fun W hR hB =>
    Lib.hid (ccur_any g A n d acc rec l hin hacc W hR (hr.on hB) hA hn hs)
  rw [cuS_16 h16] at HCU
  have HCC : cuCur rec n (l.map StR.s) = (1 - stTgt rec (l.map StR.s), (stCur rec (l.map StR.s)).1, mk (stCur rec (l.map StR.s)).2) := if_neg h16
  rw [HCC] at HCU
  clear HCC
  rw [hm] at HCU
  generalize 1 - stTgt rec (l.map StR.s) = X at *
  generalize mk (stCur rec (l.map StR.s)).2 = Y at *
  clear hr hA hs hacc hin hm
  go_enter Tryz.func26, Tryz.ntmps26
  go_wp2_with (with_reducible refine wpList_alloc_row (o := ⟨some 6, _, _, _, _, _⟩) rfl _ rfl zeroO zero_so ?_; intro w1 z1 s1 g1; have b1 : Below w.heap.size w w1 := grown_below g1 (Nat.le_refl _) (by simp); have r1 := hrow.on b1)
  refine ((HF _).out).mono ?_
  rintro e _ ⟨rfl, rfl⟩
  go_wp2_with fail
  refine ((HCU w1 r1 b1).out).mono ?_
  rintro e w2 ⟨rfl, r2, g2⟩
  have z2 := z1.kept g2 (by simp; omega)
  have hs2 := g2.size
  have c6 : w2.cell? ⟨g, 6, none⟩ = some (.bool false) := r2.cell (j := 6) rfl
  go_wp2_with ((with_reducible refine wpList_at ⟨none, .store _ (.tmp 6) _, _, _, _, _⟩ ?_); refine wpList_store_all rfl _ _ _ rfl w.heap.size rfl _ _ z2 ((⟨em, 0, 19⟩ : StO).cs) rfl (StO.cs_one _) rfl (by kernel_rfl) ?_; intro wz zz gz; have rz := r2.kept gz (by simp; omega))
  exact bodyPost_ret (results_cell1 Tryz.results26 _ _ _ _ rfl (load_so (a := ⟨em, 0, 19⟩) zz)) rfl ⟨rfl, rz, grown_new (grown_trans (below_grownBy b1 (some g)) g2) gz (Nat.le_refl _)⟩
end Go.Proofs.YtfclifolniefpaaGreatDoor
