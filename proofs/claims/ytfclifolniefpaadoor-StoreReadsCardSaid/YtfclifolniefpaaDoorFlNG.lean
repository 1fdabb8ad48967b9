/-
  What strings.Repeat returns at 256 zero bytes: the library's contract laid at this program. No condition.
-/
import Derived.Test.YtfclifolniefpaaDoorFlG
import Derived.Shelf.Strings.Repeat
import Derived.Laws.CopyOwn
import Derived.Deep.DeepMust
namespace Go.Proofs.YtfclifolniefpaaDoor
open Go.RowKit

/-- The library's numbers at this program. -/
def repRen : Go.Shelf.Ren :=
  ⟨fun n => match n with | 99 => 39 | 105 => 26 | 165 => 40 | 166 => 41 | 169 => 43 | 170 => 42 | 206 => 56 | 212 => 38 | 240 => 57 | 241 => 58 | 263 => 54 | 264 => 55 | 276 => 71 | 277 => 72 | n => n,
   fun n => match n with | 0 => 0 | 3 => 3 | 4 => 4 | 5 => 5 | 9 => 9 | 20 => 20 | 37 => 42 | 46 => 78 | 51 => 108 | 53 => 102 | 70 => 82 | 72 => 84 | 75 => 87 | 76 => 88 | 80 => 91 | 109 => 79 | 127 => 113 | 146 => 109 | 148 => 111 | 164 => 127 | n => n, fun n => n⟩
set_option maxRecDepth 1000000 in
theorem laysRep : Lays.n105 Tryd.prog repRen :=
  { mixed := by kernel_rfl,
    f99 := by kernel_rfl,
    f105 := by kernel_rfl,
    f165 := by kernel_rfl,
    f166 := by kernel_rfl,
    f169 := by kernel_rfl,
    f170 := by kernel_rfl,
    f206 := by kernel_rfl,
    f212 := by kernel_rfl,
    f240 := by kernel_rfl,
    f241 := by kernel_rfl,
    f263 := by kernel_rfl,
    f264 := by kernel_rfl,
    f276 := by kernel_rfl,
    f277 := by kernel_rfl,
    t0 := by kernel_rfl,
    a0 := fun w => by kernel_rfl,
    z0 := fun w => by kernel_rfl,
    v0 := fun w => by kernel_rfl,
    t3 := by kernel_rfl,
    a3 := fun w => by kernel_rfl,
    z3 := fun w => by kernel_rfl,
    v3 := fun w => by kernel_rfl,
    t4 := by kernel_rfl,
    a4 := fun w => by kernel_rfl,
    z4 := fun w => by kernel_rfl,
    v4 := fun w => by kernel_rfl,
    t5 := by kernel_rfl,
    a5 := fun w => by kernel_rfl,
    z5 := fun w => by kernel_rfl,
    v5 := fun w => by kernel_rfl,
    t9 := by kernel_rfl,
    a9 := fun w => by kernel_rfl,
    z9 := fun w => by kernel_rfl,
    v9 := fun w => by kernel_rfl,
    t20 := by kernel_rfl,
    a20 := fun w => by kernel_rfl,
    z20 := fun w => by kernel_rfl,
    v20 := fun w => by kernel_rfl,
    t37 := by kernel_rfl,
    a37 := fun w => by kernel_rfl,
    z37 := fun w => by kernel_rfl,
    v37 := fun w => by kernel_rfl,
    t46 := by kernel_rfl,
    a46 := fun w => by kernel_rfl,
    z46 := fun w => by kernel_rfl,
    v46 := fun w => by kernel_rfl,
    t51 := by kernel_rfl,
    a51 := fun w => by kernel_rfl,
    z51 := fun w => by kernel_rfl,
    v51 := fun w => by kernel_rfl,
    t53 := by kernel_rfl,
    a53 := fun w => by kernel_rfl,
    z53 := fun w => by kernel_rfl,
    v53 := fun w => by kernel_rfl,
    t70 := by kernel_rfl,
    a70 := fun w => by kernel_rfl,
    z70 := fun w => by kernel_rfl,
    v70 := fun w => by kernel_rfl,
    t72 := by kernel_rfl,
    a72 := fun w => by kernel_rfl,
    z72 := fun w => by kernel_rfl,
    v72 := fun w => by kernel_rfl,
    t75 := by kernel_rfl,
    a75 := fun w => by kernel_rfl,
    z75 := fun w => by kernel_rfl,
    v75 := fun w => by kernel_rfl,
    t76 := by kernel_rfl,
    a76 := fun w => by kernel_rfl,
    z76 := fun w => by kernel_rfl,
    v76 := fun w => by kernel_rfl,
    t109 := by kernel_rfl,
    a109 := fun w => by kernel_rfl,
    z109 := fun w => by kernel_rfl,
    v109 := fun w => by kernel_rfl,
    t127 := by kernel_rfl,
    a127 := fun w => by kernel_rfl,
    z127 := fun w => by kernel_rfl,
    v127 := fun w => by kernel_rfl,
    t146 := by kernel_rfl,
    a146 := fun w => by kernel_rfl,
    z146 := fun w => by kernel_rfl,
    v146 := fun w => by kernel_rfl,
    t148 := by kernel_rfl,
    a148 := fun w => by kernel_rfl,
    z148 := fun w => by kernel_rfl,
    v148 := fun w => by kernel_rfl,
    t164 := by kernel_rfl,
    a164 := fun w => by kernel_rfl,
    z164 := fun w => by kernel_rfl,
    v164 := fun w => by kernel_rfl }
set_option maxRecDepth 1000000 in
theorem extraRep : Builder.Extra Tryd.prog repRen :=
  { sizeBuilder := by kernel_rfl, liesBuilder := by kernel_rfl, t5 := by kernel_rfl, a5 := fun w => by kernel_rfl, z5 := fun w => by kernel_rfl, v5 := fun w => by kernel_rfl, infoByte := by kernel_rfl, cellsByte := by kernel_rfl, sizeByte := by kernel_rfl, neB5 := by decide }
theorem zeros_any (w : World) : Calls Tryd.prog 26 #[.string ⟨#[0]⟩, .int .i64 256] w (TellsS (fullS 0) w) := by
  refine (Any.strings_Repeat laysRep extraRep ⟨#[0]⟩ 256 w (by omega) (by decide)).mono ?_
  rintro e w' ⟨rfl, h⟩
  refine ⟨?_, h⟩
  have e1 : Lib.repeatL [0] 256 = List.replicate 256 0 := Lib.repeatL_replicate 0 1 256
  rw [show (ByteArray.mk #[(0 : UInt8)]).data.toList = [0] from rfl, e1]
  rfl
end Go.Proofs.YtfclifolniefpaaDoor

/-
  What slices.Repeat returns at one string, and flash.New: contracts by walks. Condition: bounded counts.
-/
namespace Go.Proofs.YtfclifolniefpaaDoor
open Go.RowKit

/-- A row of n strings of which the first m are set. -/
def repRow (s : ByteArray) (n m : Nat) : List Value := List.replicate m (.string s) ++ List.replicate (n - m) (.string ⟨#[]⟩)
theorem repRow_0 (s : ByteArray) (n : Nat) : repRow s n 0 = List.replicate n (.string ⟨#[]⟩) := by unfold repRow; rw [List.replicate_zero, List.nil_append, Nat.sub_zero]
theorem repRow_len (s : ByteArray) {n m : Nat} (h : m ≤ n) : (repRow s n m).length = n := by unfold repRow; rw [List.length_append, List.length_replicate, List.length_replicate]; omega
theorem repRow_all (s : ByteArray) (n : Nat) : repRow s n n = svs (List.replicate n s) := by unfold repRow svs; rw [Nat.sub_self, List.replicate_zero, List.append_nil, List.map_replicate]
theorem repRow_at (s : ByteArray) (n : Nat) {m j : Nat} (h : j < m) : (repRow s n m)[j]? = some (.string s) := by
  unfold repRow
  rw [List.getElem?_append_left (by rw [List.length_replicate]; exact h), List.getElem?_replicate, if_pos h]
theorem repRow_splice (s : ByteArray) {n m k : Nat} (h : m + k ≤ n) : splice (repRow s n m) m (List.replicate k (.string s)) = repRow s n (m + k) := by
  unfold splice repRow
  have h1 : (List.replicate m (Value.string s)).length = m := List.length_replicate
  rw [List.take_left' h1, List.length_replicate, List.drop_append, h1, List.drop_of_length_le (by rw [h1]; omega), List.nil_append, List.drop_replicate, ← List.append_assoc, List.replicate_append_replicate]
  congr 2
  omega

theorem rep_src {W : World} {ad : Addr} {s : ByteArray} {k : Nat} {CS : List Value} (h : CS = List.replicate k (Value.string s)) (hk : k ≤ 1) (hc : W.cell? (ad.add 0) = some (.string s)) : ∀ (j : Nat) (v : Value), CS[j]? = some v → W.cell? (ad.add j) = some v := by
  intro j v hv
  rw [h, List.getElem?_replicate] at hv
  split at hv
  · obtain rfl : j = 0 := by omega
    rw [hc, hv]
  · cases hv
theorem rep_min {n m : Nat} : Nat.min m (n - m) ≤ m ∧ Nat.min m (n - m) ≤ n - m := ⟨Nat.min_le_left _ _, Nat.min_le_right _ _⟩
theorem mul_any (a b : Nat) (ha : a ≤ 1000) (hb : b ≤ 1000) (w : World) : Calls Tryd.prog 38 #[.int .u64 (a : Int), .int .u64 (b : Int)] w fun e w' => e = .returned (.tuple #[.int .u64 0, .int .u64 ((a * b : Nat) : Int)]) ∧ w' = w := by
  have hm : a * b ≤ 1000 * 1000 := Nat.mul_le_mul ha hb
  have h := Any.bits_Mul (P := Tryd.prog) (ρ := repRen) { laysRep with } a b (by omega) (by omega) w
  rw [Nat.div_eq_of_lt (by omega), Nat.mod_eq_of_lt (by omega)] at h
  exact h

set_option maxRecDepth 100000 in
set_option maxHeartbeats 4000000 in
theorem repeat_any (A : Option Addr) (c : Nat) (s : ByteArray) (n : Nat) (hn : n ≤ 1000) (w : World) (hr : Reads w w.heap.size 1 A 1 (svs [s])) :
    Calls Tryd.prog 27 #[.slice A 1 c, .int .i64 (n : Int)] w fun e w' => ∃ A c, e = .returned (.slice A n c) ∧ n ≤ c ∧ w'.ownsRow w.heap.size 9 1 (.slice A n c) n (svs (List.replicate n s)) ∧ Below w.heap.size w w' := by
  have HM := fun W => Lib.hid (mul_any 1 n (by omega) hn W)
  rw [Nat.one_mul] at HM
  obtain ⟨ad, s', rfl, hlt, hs, hc⟩ := hr.str_at (i := 0) (by omega)
  cases hs
  go_enter Tryd.func27, Tryd.ntmps27
  go_wp2_with fail
  refine (HM w).out.mono ?_
  rintro e w0 ⟨rfl, rfl⟩
  obtain ⟨k0, hk0⟩ : ∃ k0, k0 = Nat.min 1 n := ⟨_, rfl⟩
  have HK0 : Hid (k0 ≤ n ∧ k0 ≤ 1 ∧ (n = 0 ∨ 0 < k0)) := Lib.hid (by rw [hk0]; show min 1 n ≤ n ∧ min 1 n ≤ 1 ∧ (n = 0 ∨ 0 < min 1 n); omega)
  have HKM := Lib.hid hk0
  obtain ⟨CS, hCS⟩ : ∃ CS, CS = List.replicate k0 (Value.string s) := ⟨_, rfl⟩
  have HCS := Lib.hid hCS
  have HCL : Hid (CS.length = k0) := Lib.hid (by rw [hCS, List.length_replicate])
  clear hCS hk0
  go_wp2_with (first
    | (with_reducible refine wpList_make_row (o := ⟨some 30, _, _, _, _, _⟩) rfl _ _ _ rfl 9 Tryd.underlying26 (.string ⟨#[]⟩) rfl 16 (by kernel_rfl) .i64 .i64 n n rfl rfl (Nat.le_refl _) (by omega) (by omega) ?_; intro w1 r1 s1 g1; have b1 := grown_below g1 (Nat.le_refl _) (by simp); have hc1 := (b1.cell (by rw [block_of_add]; exact hlt)).trans hc)
    | ((with_reducible refine wpList_at ⟨some 33, _, _, _, _, _⟩ ?_); go_must (refine wpList_copy_splice rfl (.tmp 31) (.tmp 32) _ _ rfl 9 Tryd.underlying26 (by kernel_rfl) _ _ _ _ _ _ rfl rfl w0.heap.size 0 (List.replicate n (.string ⟨#[]⟩)) 9 r1 CS (by rw [HCL.out, HKM.out]) (fun _ => ⟨rfl, ad, rfl, rep_src HCS.out HK0.out.2.1 hc1⟩) (by rw [HCL.out, List.length_replicate]; have := HK0.out; omega) (by rw [HCS.out]; intro v hv; rw [List.eq_of_mem_replicate hv]; rfl) w0.heap.size w0 b1 (Nat.le_refl _) ?_); intro w2 r2 b2))
  have R2 : Row w2 w0.heap.size 9 (repRow s n CS.length) := by
    have h := r2.out
    rw [← repRow_0 s n, HCS.out, repRow_splice s (by have := HK0.out; omega), Nat.zero_add] at h
    rw [HCL.out]
    exact h
  clear r2 r1 g1 hc1
  go_loopg [8] n (fun g s8 wr => ∃ m : Nat, Hid (n ≤ m + g) ∧ m ≤ n ∧ Hid (n = 0 ∨ 0 < m) ∧ s8 = .int .i64 (m : Int) ∧ Row wr w0.heap.size 9 (repRow s n m) ∧ Below w0.heap.size w0 wr)
  case atStart =>
    have h0 := HK0.out
    exact ⟨CS.length, by show n ≤ CS.length + n; omega, by rw [HCL.out]; omega, Lib.hid (by rw [HCL.out]; exact h0.2.2), rfl, R2, b2⟩
  case round =>
    obtain ⟨m, HM2, hm, HP, rfl, hR, hB⟩ := hrel
    by_cases hlt2 : m < n
    · have hpos : 0 < m := by have := HP.out; omega
      obtain ⟨kk, hkk⟩ : ∃ kk, kk = Nat.min m (n - m) := ⟨_, rfl⟩
      have HKK : Hid (kk ≤ m ∧ kk ≤ n - m ∧ 0 < kk) := Lib.hid (by rw [hkk]; show min m (n - m) ≤ m ∧ min m (n - m) ≤ n - m ∧ 0 < min m (n - m); omega)
      have HKN := Lib.hid hkk
      obtain ⟨DS, hDS⟩ : ∃ DS, DS = List.replicate kk (Value.string s) := ⟨_, rfl⟩
      have HDS := Lib.hid hDS
      have HDL : Hid (DS.length = kk) := Lib.hid (by rw [hDS, List.length_replicate])
      have HDT : Hid (DS.length ≤ 1000) := Lib.hid (by rw [HDL.out]; have := HKK.out; omega)
      clear hDS hkk
      go_wp2_with fail
      refine wp_region_plan (fun _ => True) (.take 0 <| .take 1 <| .take 2 <| .take 3 <| .take 4 <| .take 5 <| .take 6 <| .one 7 <| .take 8 <| .take 9 <| .done) (by kernel_rfl) (by kernel_rfl) (by kernel_rfl) (fun _ _ _ _ _ h => h) trivial ?_
      repeat (refine plan_take _ rfl ?_; (go_big_quiet_step ((intros; rfl)); refine wpQuiet_nil ?_))
      refine plan_one _ rfl fun K hK => ?_
      refine step_copy_splice rfl (.tmp 41) (.tmp 44) _ _ rfl 9 Tryd.underlying26 (by kernel_rfl) _ _ _ _ _ _ rfl rfl w0.heap.size m (repRow s n m) 9 hR.drew DS (by rw [HDL.out, HKN.out]) ?_ (by rw [HDL.out, repRow_len s hm]; have := HKK.out; omega) (by rw [HDS.out]; intro v hv; rw [List.eq_of_mem_replicate hv]; rfl) w0.heap.size w0 hB.drew (Nat.le_refl _) ?_
      · intro _
        refine ⟨rfl, _, rfl, fun j v hv => ?_⟩
        rw [HDS.out, List.getElem?_replicate] at hv
        split at hv
        · rw [← hv]
          exact hR.drew.cells j _ (repRow_at s n (by have := HKK.out; omega))
        · cases hv
      intro w3 r3 b3
      have R3 : Row w3 w0.heap.size 9 (repRow s n (m + DS.length)) := by
        have h := r3.out
        rw [HDS.out, repRow_splice s (by have := HKK.out; omega)] at h
        rw [HDL.out]
        exact h
      clear r3
      refine hK _ _ trivial ?_
      clear hK K
      have hdt := HDT.out
      simp only [Act.put, goInt, List.setIfInBounds_toArray, List.set_cons_zero, List.set_cons_succ]
      repeat (refine plan_take _ rfl ?_; (go_big_quiet_step ((intros; rfl)); refine wpQuiet_nil ?_))
      refine plan_done ?_
      go_wp2_with fail
      go_roundg (gk - DS.length)
      case measure => have := HM2.out; have := HKK.out; have := HDL.out; omega
      case rel => exact ⟨m + DS.length, by have := HM2.out; have := HKK.out; have := HDL.out; show n ≤ _; omega, by have := HKK.out; have := HDL.out; omega, Lib.hid (.inr (by omega)), by go_num, R3, b3⟩
    · obtain rfl : m = n := by omega
      go_wp2_with fail
      go_ret
      have hRl := repRow_len s (n := m) (m := m) (Nat.le_refl _)
      rw [repRow_all] at hR hRl
      refine ⟨_, _, rfl, Nat.le_refl _, ⟨by rw [hRl, Nat.mul_one], .inr ⟨w0.heap.size, m, _, rfl, Nat.le_refl _, hR, Nat.le_refl _, by unfold maxLen; omega, by simpa using hRl, ?_⟩⟩, hB⟩
      rw [Nat.mul_one]
      exact List.take_of_length_le (Nat.le_of_eq hRl)

set_option maxRecDepth 100000 in
set_option maxHeartbeats 4000000 in
theorem lnew_in (k : Int) (w : World) : Calls Tryd.prog 17 #[.int .i64 k] w (GivesLX (fun _ => False) (flNew k) (flNewE k) w) := by
  unfold GivesLX flv
  by_cases h0 : k < 0
  · have hno : flNewOk k = false := by unfold flNewOk; rw [decide_eq_false (by omega)]; rfl
    have HE := Lib.hid (flNew_no (n := k) (hno)).1
    have HO := Lib.hid (flNew_no (n := k) (hno)).2
    clear hno
    generalize flNew k = E at *
    generalize flNewE k = O at *
    go_enter Tryd.func17, Tryd.ntmps17
    go_wp2_with (first
      | (with_reducible refine wpList_alloc_row (o := ⟨some 2, _, _, _, _, _⟩) rfl _ rfl [.slice none 0 0] (by kernel_rfl) ?_; intro w1 r1 s1 g1)
      | ((with_reducible refine wpList_at ⟨none, .store _ (.tmp 2) _, _, _, _, _⟩ ?_); refine wpList_store_all rfl _ _ _ rfl w.heap.size rfl _ _ r1 [.slice none 0 0] rfl (slice_one _ _ _) rfl (by kernel_rfl) ?_; intro w6 r6 g6))
    have hload := run_loadVar_at (P := Tryd.prog) w6 28 ⟨w.heap.size, 0, none⟩ [.slice none 0 0] r6.cells _ Tryd.underlying28 rfl (by kernel_rfl)
    refine bodyPost_ret (results_cellE Tryd.results17 _ _ _ _ rfl hload) rfl ⟨none, 0, 0, by rw [HO.out]; rfl, ⟨by rw [HE.out]; exact Reads.nil_, Nat.le_refl _, Nat.zero_le _, by rw [HE.out]; intro s hs; cases hs⟩, LIn.nil_, below_kept (grown_below g1 (Nat.le_refl _) (by simp)) g6 (Nat.le_of_lt s1) (by rintro q hq; cases hq; exact Nat.le_refl _)⟩
  · by_cases h1 : 128 < k
    · have hno : flNewOk k = false := by unfold flNewOk; rw [decide_eq_false (p := k ≤ 128) (by omega), Bool.and_false]
      have HE := Lib.hid (flNew_no (n := k) (hno)).1
      have HO := Lib.hid (flNew_no (n := k) (hno)).2
      clear hno
      generalize flNew k = E at *
      generalize flNewE k = O at *
      go_enter Tryd.func17, Tryd.ntmps17
      go_wp2_with (first
        | (with_reducible refine wpList_alloc_row (o := ⟨some 2, _, _, _, _, _⟩) rfl _ rfl [.slice none 0 0] (by kernel_rfl) ?_; intro w1 r1 s1 g1)
        | ((with_reducible refine wpList_at ⟨none, .store _ (.tmp 2) _, _, _, _, _⟩ ?_); refine wpList_store_all rfl _ _ _ rfl w.heap.size rfl _ _ r1 [.slice none 0 0] rfl (slice_one _ _ _) rfl (by kernel_rfl) ?_; intro w6 r6 g6))
      have hload := run_loadVar_at (P := Tryd.prog) w6 28 ⟨w.heap.size, 0, none⟩ [.slice none 0 0] r6.cells _ Tryd.underlying28 rfl (by kernel_rfl)
      refine bodyPost_ret (results_cellE Tryd.results17 _ _ _ _ rfl hload) rfl ⟨none, 0, 0, by rw [HO.out]; rfl, ⟨by rw [HE.out]; exact Reads.nil_, Nat.le_refl _, Nat.zero_le _, by rw [HE.out]; intro s hs; cases hs⟩, LIn.nil_, below_kept (grown_below g1 (Nat.le_refl _) (by simp)) g6 (Nat.le_of_lt s1) (by rintro q hq; cases hq; exact Nat.le_refl _)⟩
    · obtain ⟨n, rfl⟩ : ∃ n : Nat, k = (n : Int) := ⟨k.toNat, by omega⟩
      have hn : n ≤ 128 := by omega
      have HE := Lib.hid (flNew_nat hn).1
      have HO := Lib.hid (flNew_nat hn).2
      have HZ := fun W => Lib.hid (zeros_any W)
      have HRP := fun A c W h => Lib.hid (repeat_any A c (fullS 0) n (by omega) W h)
      have HSM : Hid (∀ s ∈ List.replicate n (fullS 0), s.size ≤ 9223372036854775807) := Lib.hid fun s hs => by
        rw [List.eq_of_mem_replicate hs, fullS_size]; omega
      generalize flNew n = E at *
      generalize flNewE n = O at *
      generalize fullS 0 = Z at *
      go_enter Tryd.func17, Tryd.ntmps17
      go_wp2_with (with_reducible refine wpList_alloc_row (o := ⟨some 2, _, _, _, _, _⟩) rfl _ rfl [.slice none 0 0] (by kernel_rfl) ?_; intro w1 r1 s1 g1)
      refine (HZ w1).out.mono ?_
      rintro e w2 ⟨rfl, b2⟩
      have r2 := r1.on b2
      have b1 := grown_below g1 (Nat.le_refl _) (by simp)
      have B2 := b1.trans (b2.mono b1.size)
      go_wp2_with fail
      have b3 : Below w2.heap.size w2 (w2.alloc (.cells [.string Z].toArray 9)) := (Below.refl _ _).alloc (Nat.le_refl _) _
      have r3 := r2.on b3
      have B3 := B2.trans (b3.mono B2.size)
      refine (HRP (some ⟨w2.heap.size, 0, none⟩) 1 _ ((row_alloc w2 9 [.string Z]).reads rfl)).out.mono ?_
      rintro e w4 ⟨A4, c4, rfl, hnc, hR, b4⟩
      have r4 := r3.on b4
      have B4 := B3.trans (b4.mono B3.size)
      go_wp2_with ((with_reducible refine wpList_at ⟨none, .store _ (.tmp 2) _, _, _, _, _⟩ ?_); refine wpList_store_all rfl _ _ _ rfl w.heap.size rfl _ _ r4 [.slice A4 n c4] rfl (slice_one _ _ _) rfl (by kernel_rfl) ?_; intro w6 r6 g6)
      have hload := run_loadVar_at (P := Tryd.prog) w6 28 ⟨w.heap.size, 0, none⟩ [.slice A4 n c4] r6.cells _ Tryd.underlying28 rfl (by kernel_rfl)
      refine bodyPost_ret (results_cellE Tryd.results17 _ _ _ _ rfl hload) rfl ⟨A4, n, c4, by rw [HO.out]; rfl, ⟨by rw [HE.out]; exact Reads.of_own (own_kept_lt hR g6 (by have := r3.lt; exact this)), hnc, by unfold maxLen; omega, by rw [HE.out]; exact HSM.out⟩, (fun h0 ad e => .inr (by have := own_block hR h0 ad e; have := r3.lt; omega)), below_kept B4 g6 B4.size (by rintro q hq; cases hq; exact Nat.le_refl _)⟩
theorem lnew_any (k : Int) (w : World) : Calls Tryd.prog 17 #[.int .i64 k] w (GivesLE (flNew k) (flNewE k) w) := by
  refine (lnew_in k w).mono ?_
  rintro e w' ⟨A', n', c', rfl, ho, _, hB⟩
  exact ⟨A', n', c', rfl, ho, hB⟩
end Go.Proofs.YtfclifolniefpaaDoor
