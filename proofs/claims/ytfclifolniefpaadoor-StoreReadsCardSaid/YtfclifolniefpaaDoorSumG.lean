/-
  What sha.initial, (sha.state).blocks, lastBlocks, (sha.state).bytes and sha.Sum return: contracts by walks. Conditions: the table of constants as laid; at most 10^9 bytes.
-/
import Derived.Test.YtfclifolniefpaaDoorRSum
import Derived.Test.YtfclifolniefpaaDoorBase
import Derived.Deep.DeepCutAuto
namespace Go.Proofs.YtfclifolniefpaaDoor
open Go.RowKit

theorem w8_wvs (s : St) : (Tryd.prog.info? 137).map (·.size) = some (wvs s.list).length := w8_size _ rfl
theorem w8_same (s t : St) : (wvs s.list).length = (wvs t.list).length := rfl

set_option maxRecDepth 100000 in
set_option maxHeartbeats 1000000 in
theorem initial_any (w : World) : Calls Tryd.prog 85 #[] w (GivesV (.agg (wvs first8.list).toArray) w) := by
  go_enter Tryd.func85, Tryd.ntmps85
  go_wp2_with (first
    | (with_reducible refine wpList_alloc_row (o := ⟨some 0, _, _, _, _, _⟩) rfl _ rfl zeros8 zero_w8 ?_; intro w1 hrow1 hs1 hg1)
    | (with_reducible refine wpList_store_all (o := ⟨none, _, _, _, _, _⟩) rfl _ _ _ rfl w.heap.size rfl _ _ hrow1 (wvs first8.list) rfl (wvs_one _) rfl (w8_size _ rfl) ?_; intro w2 hrow2 hg2))
  have hload := run_loadVar_at (P := Tryd.prog) w2 137 ⟨w.heap.size, 0, none⟩ _ hrow2.cells _ Tryd.underlying137 rfl (w8_size _ rfl)
  exact bodyPost_ret (results_cell1 Tryd.results85 _ _ _ _ rfl hload) rfl ⟨rfl, below_kept (grown_below hg1 (Nat.le_refl _) (by simp)) hg2 (by omega) (by rintro k hk; cases hk; exact Nat.le_refl _)⟩

set_option maxRecDepth 100000 in
set_option maxHeartbeats 2000000 in
theorem blocks_any (s : St) (A : Option Addr) (c : Nat) (l : List UInt8) (k : Nat) (w : World) (hk : Consts w) (hr : Reads w w.heap.size 1 A (64 * k) (bvs l)) (hc : 64 * k ≤ c) (hb : 64 * k ≤ 2000000000) :
    Calls Tryd.prog 86 #[.agg (wvs s.list).toArray, .slice A (64 * k) c] w (GivesV (.agg (wvs (blocksN s l k).list).toArray) w) := by
  go_enter Tryd.func86, Tryd.ntmps86
  go_wp2_with (first
    | (with_reducible refine wpList_box_row (o := ⟨some 2, _, _, _, _, _⟩) rfl _ _ rfl (wvs s.list) rfl ?_; intro w1 hrow1 hs1 hg1)
    | (with_reducible refine wpList_alloc_row (o := ⟨some 4, _, _, _, _, _⟩) rfl _ rfl zeros8 zero_w8 ?_; intro w2 hrow2 hs2 hg2))
  have hb2 : Below w.heap.size w w2 := below_kept (grown_below hg1 (Nat.le_refl _) (by simp)) hg2 (by omega) (by simp)
  have hrS2 := hrow1.kept hg2 (by simp)
  have hs22 := hrow2.lt
  clear hrow1 hg1 hg2
  go_loopg [5] k (fun g s5 wr => ∃ m : Nat, Hid (m + g = k) ∧ m ≤ k ∧ s5 = .int .i64 ((64 * m : Nat) : Int) ∧ Row wr w.heap.size 137 (wvs (blocksN s l m).list) ∧ Row wr w1.heap.size 137 zeros8 ∧ Below w.heap.size w wr)
  case atStart => exact ⟨0, by show _ = _; omega, by omega, rfl, by rw [blocksN_zero]; exact hrS2, hrow2, hb2⟩
  case round =>
    obtain ⟨m, HM, hm, rfl, hrS, hrR, hbel⟩ := hrel
    by_cases hlt : m < k
    · have hr4 := (hr.below hbel).more (B' := wr.heap.size) hbel.size
      have hsub := hr4.sub (u := 64 * m) (m := 64) (c := c) (by omega) hc
      rw [Nat.mul_one, if_neg (show ¬ c = 64 * m by omega)] at hsub
      obtain ⟨a4, rfl⟩ : ∃ a4, A = some a4 := by
        obtain ⟨ad, h, _⟩ := hr4.2 (by omega)
        exact ⟨ad, h⟩
      have HB := Lib.hid (blocksN_succ s l m)
      have hsub2 : Reads wr.drew wr.drew.heap.size 1 (some (a4.add (64 * m))) 64 (bvs ((l.drop (64 * m)).take 64)) := hsub.drew
      have hcon := fun c' => Lib.hid (compress_any (blocksN s l m) _ c' _ wr.drew ((hk.on hbel).drewN 1) hsub2)
      clear hsub hsub2
      go_wp2_with fail
      refine wp_region_plan (fun _ => True) (.take 1 <| .take 2 <| .take 3 <| .take 4 <| .take 5 <| .one 0 <| .one 6 <| .one 7 .done) (by kernel_rfl) (by kernel_rfl) (by kernel_rfl) (fun _ _ _ _ _ h => h) trivial ?_
      repeat (refine plan_take _ rfl ?_; go_big_quiet_step ((intros; rfl)); refine wpQuiet_nil ?_)
      refine plan_one _ rfl fun K hK => step_load_all rfl _ _ rfl w.heap.size rfl _ (wvs (blocksN s l m).list) hrS.drew _ Tryd.underlying137 rfl (w8_wvs _) ?_
      refine hK _ _ trivial ?_
      clear hK K
      simp only [Act.put, List.setIfInBounds_toArray, List.set_cons_zero, List.set_cons_succ]
      refine plan_one _ rfl fun K hK => ?_
      go_simp
      refine (hcon _).out.mono ?_
      rintro e w3 ⟨rfl, hb3⟩
      refine hK _ _ trivial ?_
      clear hK K
      refine plan_one _ rfl fun K hK => step_store_all rfl _ _ _ rfl w.heap.size rfl _ (wvs (blocksN s l m).list) (hrS.drew.on hb3) (wvs (compr (blocksN s l m) ((l.drop (64 * m)).take 64)).list) rfl (wvs_one _) (w8_same _ _) (w8_wvs _) ?_
      intro w4 hrow4 hg4
      refine hK _ _ trivial ?_
      clear hK K
      refine plan_done ?_
      simp only [Act.put]
      have hrR4 := (hrR.drew.on hb3).kept hg4 (by simp; omega)
      have hb34 : Below w.heap.size w w4 := below_kept (hbel.drew.trans (hb3.mono hbel.size)) hg4 (Nat.le_trans hbel.size hb3.size) (by rintro k hk; cases hk; exact Nat.le_refl _)
      have hrow5 : Row w4 w.heap.size 137 (wvs (blocksN s l (m + 1)).list) := by rw [HB.out]; exact hrow4
      clear hrow4 hg4 hb3
      go_wp2_with fail
      go_roundg (gk - 1)
      case measure => have := HM.out; omega
      case rel => exact ⟨m + 1, by have := HM.out; show _ = _; omega, by omega, by go_num, hrow5, hrR4, hb34⟩
    · have HMK : Hid (m = k) := by show _ = _; omega
      rw [HMK.out] at hrS
      generalize blocksN s l k = t at *
      go_wp2_with (first
        | (with_reducible refine wpList_load_all (o := ⟨some 19, _, _, _, _, _⟩) rfl _ _ rfl w.heap.size rfl _ _ hrS _ Tryd.underlying137 rfl (w8_wvs t) ?_)
        | (with_reducible refine wpList_store_all (o := ⟨none, _, _, _, _, _⟩) rfl _ _ _ rfl w1.heap.size rfl _ _ hrR (wvs t.list) rfl (wvs_one _) rfl (w8_wvs t) ?_; intro w7 hrow7 hg7))
      have hload := run_loadVar_at (P := Tryd.prog) w7 137 ⟨w1.heap.size, 0, none⟩ _ hrow7.cells _ Tryd.underlying137 rfl (w8_wvs t)
      exact bodyPost_ret (results_cell1 Tryd.results86 _ _ _ _ rfl hload) rfl ⟨rfl, below_kept hbel hg7 hbel.size (by rintro k hk; cases hk; omega)⟩

/-! ## lastBlocks -/
theorem zeros_more2 (size n j : Nat) (h : n % 64 = size % 64) (hj : j ≤ zerosN size) : (n + 1 + j) % 64 = 56 ↔ j = zerosN size := by unfold zerosN at *; omega
theorem be_val2 (n k : Nat) : Value.int IntKind.u8 ((n : Int) * 8 / 2 ^ (56 - 8 * k) % 256) = bv (UInt8.ofNat (8 * n / 2 ^ (56 - 8 * k))) := by
  unfold bv
  rw [UInt8.toNat_ofNat', Nat.mul_comm 8 n]
  congr 1
set_option maxRecDepth 100000 in
set_option maxHeartbeats 2000000 in
theorem lastBlocks_any (A : Option Addr) (c : Nat) (r : List UInt8) (n size : Nat) (w : World) (hr : Reads w w.heap.size 1 A n (bvs r)) (hn : n ≤ 1000000000) (hsz : size ≤ 1000000000) (hmod : size % 64 = n % 64) :
    Calls Tryd.prog 87 #[.slice A n c, .int .i64 (size : Int)] w (Gives (r ++ padding size) w) := by
  obtain ⟨i0, hi0, hz0, hz1, hz2⟩ := info_parts info_u8
  have HL := Lib.hid hr.bytes_len
  go_enter Tryd.func87, Tryd.ntmps87
  go_wp2_with (first
    | (refine wpList_make_own _ (o := ⟨some 8, _, _, _, _, _⟩) rfl _ _ _ rfl w.heap.size 5 i0 _ 1 Tryd.underlying42 hi0 hz0 hz1 .i64 .i64 128 128 rfl rfl rfl (by rw [hz2]; omega) (by unfold maxLen; omega) (Nat.le_refl _) ?_; intro w1 hown1 hg1)
    | (at_builtin
       refine wpList_append_src _ rfl (.tmp 9) (.tmp 10) _ _ rfl w.heap.size 5 i0 _ 1 1 Tryd.underlying42 hi0 hz0 hz1 hz2 rfl _ _ _ rfl hown1 n _ (Src.ofReads _ Tryd.underlying42 (hr.kept hg1 (Nat.le_refl _) (by simp)) (bvs_one _)) (by unfold maxLen; omega) (by omega) (by have := hg1.size; omega) ?_
       intro v2 w2 hown2 hb2
       clear hown1
       simp only [Nat.zero_add, List.nil_append] at hown2)
    | (at_builtin
       refine wpList_append_src _ rfl (.tmp 12) (.tmp 13) _ _ rfl w.heap.size 5 i0 _ 1 1 Tryd.underlying42 hi0 hz0 hz1 hz2 rfl _ _ _ rfl (hown2.alloc _) 1 _ (Src.box Tryd.underlying42 _ _ _ rfl _) (by unfold maxLen; omega) (by omega) (by have := hg1.size; have := hb2.size; simp; omega) ?_
       intro v3 w3 hown3 hb3))
  have hbel3 : Below w.heap.size w w3 := (grown_below hg1 (Nat.le_refl _) (by simp)).trans (hb2.trans (((Below.refl _ _).alloc (by have := hg1.size; have := hb2.size; omega) _).trans hb3))
  have hown : w3.ownsRow w.heap.size 5 1 v3 (n + 1 + 0) (bvs (r ++ [128] ++ List.replicate 0 0)) := by
    simp only [bvs_append, List.replicate_zero, List.append_nil, Nat.add_zero]
    exact hown3
  clear hown3 hown2 hb2 hb3 hg1
  go_loopg [5] (zerosN size) (fun g s3 wr => ∃ j : Nat, Hid (j + g = zerosN size) ∧ j ≤ zerosN size ∧ wr.ownsRow w.heap.size 5 1 s3 (n + 1 + j) (bvs (r ++ [128] ++ List.replicate j 0)) ∧ Below w.heap.size w wr)
  case atStart => exact ⟨0, by show _ = _; omega, by omega, hown, hbel3⟩
  case round =>
    obtain ⟨j, HJ, hj, hown, hbel⟩ := hrel
    have hz := zeros_lt size
    have hzm := zeros_more2 size n j hmod.symm hj
    have hbs := hbel.size
    obtain ⟨A3, c3, rfl, hc3, _, hr3⟩ := own_form hown
    by_cases hlt : j < zerosN size
    · have hq : (((n : Int) + 1 + (j : Int)) % 64 == 56) = false := by simp; omega
      have hq2 : (((n : Int) + 1 + (j : Int)) % 64 != 56) = true := by simp; omega
      clear hzm
      go_wp2_with (at_builtin; refine wpList_append_src _ rfl (.tmp 19) (.tmp 20) _ _ rfl w.heap.size 5 i0 _ 1 1 Tryd.underlying42 hi0 hz0 hz1 hz2 rfl _ _ _ rfl (hown.alloc _) 1 _ (Src.box Tryd.underlying42 _ _ _ rfl _) (by unfold maxLen; omega) (by omega) (by simp; omega) ?_; intro v4 w4 hown4 hb4)
      go_roundg (gk - 1)
      case measure => have := HJ.out; omega
      case rel =>
        refine ⟨j + 1, by have := HJ.out; show _ = _; omega, by omega, ?_, hbel.trans (((Below.refl _ _).alloc hbs _).trans hb4)⟩
        rw [List.replicate_succ', ← List.append_assoc, bvs_append]
        exact hown4
    · have hjz : Hid (j = zerosN size) := by show _ = _; omega
      have hq : (((n : Int) + 1 + (j : Int)) % 64 == 56) = true := by simp; omega
      have hq2 : (((n : Int) + 1 + (j : Int)) % 64 != 56) = false := by simp; omega
      clear hzm
      go_wp2_with fail
      clear hq hq2
      obtain ⟨M0, hM0⟩ : ∃ M0, M0 = r ++ [128] ++ List.replicate (zerosN size) 0 := ⟨_, rfl⟩
      obtain ⟨q, hq⟩ : ∃ q, q = n + 1 + zerosN size := ⟨_, rfl⟩
      have hqb : q ≤ 1000000100 := by omega
      have hown0 : wr.ownsRow w.heap.size 5 1 (.slice A3 (n + 1 + j) c3) (q + 0) (bvs (M0 ++ beK (8 * size) 0)) := by
        refine own_len (n := n + 1 + j) ?_ (by have := hjz.out; omega)
        rw [show beK (8 * size) 0 = [] from rfl, List.append_nil, hM0, ← hjz.out]
        exact hown
      have HM0 := Lib.hid hM0
      have HQ := Lib.hid hq
      clear hM0 hr3 hjz HJ hown hq
      obtain ⟨wo, rfl⟩ : ∃ wo : World, wo = wr := ⟨_, rfl⟩
      obtain ⟨g0, rfl⟩ : ∃ g0 : Nat, g0 = gk := ⟨_, rfl⟩
      go_loopg [5, 7] 8 (fun g s3 s5 wr => ∃ k : Nat, Hid (k + g = 8) ∧ k ≤ 8 ∧ s5 = .int .i64 (56 - 8 * (k : Int)) ∧ wr.ownsRow w.heap.size 5 1 s3 (q + k) (bvs (M0 ++ beK (8 * size) k)) ∧ Below w.heap.size w wr)
      case atStart => exact ⟨0, rfl, by omega, by simp, hown0, hbel⟩
      case round =>
        obtain ⟨k, HK, hk, rfl, hown, hbel⟩ := hrel
        have hbs := hbel.size
        obtain ⟨A4, c4, rfl, hc4, _, hr4⟩ := own_form hown
        by_cases hlt : k < 8
        · go_wp2_with (at_builtin; refine wpList_append_src _ rfl (.tmp 29) (.tmp 34) _ _ rfl w.heap.size 5 i0 _ 1 1 Tryd.underlying42 hi0 hz0 hz1 hz2 rfl _ _ _ rfl (hown.alloc _) 1 _ (Src.box Tryd.underlying42 _ _ _ rfl _) (by unfold maxLen; omega) (by omega) (by simp; omega) ?_; intro v4 w4 hown4 hb4)
          go_roundg (gk - 1)
          case measure => have := HK.out; omega
          case rel =>
            refine ⟨k + 1, by have := HK.out; show _ = _; omega, by omega, by go_num, ?_, hbel.trans (((Below.refl _ _).alloc hbs _).trans hb4)⟩
            rw [beK_succ, ← List.append_assoc, bvs_append]
            rw [be_val2 size k] at hown4
            exact hown4
        · have hk8 : Hid (k = 8) := by show _ = _; omega
          go_wp2_with fail
          go_ret
          refine ⟨_, rfl, ?_, hbel⟩
          refine own_len (n := q + k) ?_ (by rw [List.length_append, padding_len, HQ.out, hk8.out, HL.out]; omega)
          have e : r ++ padding size = M0 ++ beK (8 * size) k := by rw [HM0.out, hk8.out]; unfold padding; rw [be64_eq]; simp
          rw [e]
          exact hown
end Go.Proofs.YtfclifolniefpaaDoor

/-
  What (sha.state).bytes and sha.Sum return: contracts by walks. Conditions: the table of constants as laid; at most 10^9 bytes.
-/
namespace Go.Proofs.YtfclifolniefpaaDoor
open Go.RowKit

theorem size_u32 : ∀ w, (sizeOf 108).run Tryd.prog w = .ok 1 w := fun _ => by kernel_rfl
theorem size_u8b : ∀ w, (sizeOf 5).run Tryd.prog w = .ok 1 w := fun _ => by kernel_rfl
def word4K (s : St) (i : Nat) : List UInt8 := (s.list.take i).flatMap word4
theorem word4K_succ (s : St) (i : Nat) (h : i < 8) : word4K s (i + 1) = word4K s i ++ word4 (s.list.getD i 0) := by
  unfold word4K
  have hl : i < s.list.length := h
  rw [List.take_add_one, List.getElem?_eq_getElem hl, List.flatMap_append, List.getD, List.getElem?_eq_getElem hl]
  simp
theorem word4K_len (s : St) : ∀ i, i ≤ 8 → (word4K s i).length = 4 * i
  | 0, _ => rfl
  | i + 1, h => by rw [word4K_succ s i (by omega), List.length_append, word4K_len s i (by omega)]; simp [word4]; omega
theorem word4K_8 (s : St) : word4K s 8 = s.bytes := by
  unfold word4K St.bytes
  rw [List.take_of_length_le (by rw [St.list_len]; exact Nat.le_refl _)]

theorem set4_fill (l : List Value) (z a b c d : Value) (n : Nat) (hn : 4 ≤ n) :
    ((((l ++ List.replicate n z).set l.length a).set (l.length + 1) b).set (l.length + 2) c).set (l.length + 3) d = l ++ [a, b, c, d] ++ List.replicate (n - 4) z := by
  rw [set_fill l z a n (by omega)]
  have e1 := set_fill (l ++ [a]) z b (n - 1) (by omega)
  rw [List.length_append, List.length_singleton] at e1
  rw [e1]
  have e2 := set_fill (l ++ [a] ++ [b]) z c (n - 1 - 1) (by omega)
  rw [List.length_append, List.length_append, List.length_singleton, List.length_singleton] at e2
  rw [show l.length + 2 = l.length + 1 + 1 from rfl, e2]
  have e3 := set_fill (l ++ [a] ++ [b] ++ [c]) z d (n - 1 - 1 - 1) (by omega)
  rw [List.length_append, List.length_append, List.length_append, List.length_singleton, List.length_singleton, List.length_singleton] at e3
  rw [show l.length + 3 = l.length + 1 + 1 + 1 from rfl, e3, show n - 1 - 1 - 1 - 1 = n - 4 by omega]
  simp
theorem byte_val0 (x : UInt32) (m : Int) (n : Nat) (h : m = (n : Int)) : Value.int IntKind.u8 (wi x / m % 256) = bv (UInt8.ofNat (x.toNat / n)) := by
  subst h
  unfold bv wi
  rw [UInt8.toNat_ofNat']
  congr 1
theorem word4_vals (x : UInt32) : bvs (word4 x) = [.int .u8 (wi x / 16777216 % 256), .int .u8 (wi x / 65536 % 256), .int .u8 (wi x / 256 % 256), .int .u8 (wi x % 256)] := by
  rw [byte_val0 x 16777216 16777216 rfl, byte_val0 x 65536 65536 rfl, byte_val0 x 256 256 rfl]
  have e := byte_val0 x 1 1 rfl
  rw [Int.ediv_one, Nat.div_one] at e
  rw [e]
  rfl

set_option maxRecDepth 100000 in
set_option maxHeartbeats 2000000 in
theorem bytesOf_any (s : St) (w : World) : Calls Tryd.prog 88 #[.agg (wvs s.list).toArray] w (GivesV (.agg (bvs s.bytes).toArray) w) := by
  go_enter Tryd.func88, Tryd.ntmps88
  go_wp2_with (first
    | (with_reducible refine wpList_box_row (o := ⟨some 1, _, _, _, _, _⟩) rfl _ _ rfl (wvs s.list) rfl ?_; intro w1 hrow1 hs1 hg1)
    | (with_reducible refine wpList_alloc_row (o := ⟨some 2, _, _, _, _, _⟩) rfl _ rfl zeros32 zero_b32 ?_; intro w2 hrow2 hs2 hg2)
    | (with_reducible refine wpList_alloc_row (o := ⟨some 3, _, _, _, _, _⟩) rfl _ rfl zeros32 zero_b32 ?_; intro w3 hrow3 hs3 hg3; have hrow1' := (hrow1.kept hg2 (by simp)).kept hg3 (by simp))
    | (with_reducible refine wpList_load_all (o := ⟨some 7, _, _, _, _, _⟩) rfl _ _ rfl w.heap.size rfl _ _ hrow1' _ Tryd.underlying137 rfl (w8_wvs s) ?_))
  have hbel3 : Below w.heap.size w w3 := below_kept (below_kept (grown_below hg1 (Nat.le_refl _) (by simp)) hg2 (by omega) (by simp)) hg3 (by omega) (by simp)
  have hrow2' := hrow2.kept hg3 (by simp)
  have hs33 := hrow3.lt
  clear hrow1 hrow1' hrow2 hg1 hg2 hg3
  go_loopg [4, 5, 6, 8] 8 (fun g s4 s5 s6 s8 wr => ∃ i : Nat, Hid (i + g = 8) ∧ i ≤ 8 ∧ s8 = .int .i64 (i : Int) ∧ Row wr w2.heap.size 106 (bvs (word4K s i) ++ List.replicate (32 - 4 * i) (.int .u8 0)) ∧ Row wr w1.heap.size 106 zeros32 ∧ Below w.heap.size w wr)
  case atStart => exact ⟨0, rfl, by omega, rfl, hrow3, hrow2', hbel3⟩
  case round =>
    obtain ⟨i, HI, hi, rfl, hrow, hrow0, hbel⟩ := hrel
    by_cases hlt : i < 8
    · have hsi : (wvs s.list)[i]? = some (wv (s.list.getD i 0)) := by
        have hl : i < s.list.length := hlt
        unfold wvs; rw [List.getElem?_map, List.getElem?_eq_getElem hl, List.getD, List.getElem?_eq_getElem hl]; rfl
      have HS := Lib.hid hsi
      have HW := Lib.hid (word4K_succ s i hlt)
      have HLT := Lib.hid (word4K_len s i (by omega))
      clear hsi
      generalize s.list.getD i 0 = x at *
      unfold wv at HS
      have hl0 : (bvs (word4K s i) ++ List.replicate (32 - 4 * i) (Value.int .u8 0)).length = 32 := by rw [List.length_append, bvs_length, HLT.out, List.length_replicate]; omega
      have HL0 := Lib.hid hl0
      clear hl0
      go_wp2_with (first
        | (with_reducible refine wpList_at ⟨some 11, _, _, _, _, _⟩ ?_; refine wpList_index_agg rfl _ _ _ rfl 108 8 .u32 Tryd.underlying137 Tryd.underlying108 size_u32 (wvs s.list) rfl .i64 i rfl hlt (.int .u32 (wi x)) HS.out ?_)
        | (with_reducible refine wpList_at ⟨none, .store 5 (.tmp 32) (.tmp 23), _, _, _, _⟩ ?_; refine wpList_store_elem rfl _ _ _ rfl w2.heap.size (4 * i) rfl _ _ hrow (.int .u8 (wi x / 16777216 % 256)) rfl rfl (by rw [HL0.out]; omega) (by kernel_rfl) ?_; intro w4 hrow4 hg4; clear hrow)
        | (with_reducible refine wpList_at ⟨none, .store 5 (.tmp 33) (.tmp 26), _, _, _, _⟩ ?_; refine wpList_store_elem rfl _ _ _ rfl w2.heap.size (4 * i + 1) rfl _ _ hrow4 (.int .u8 (wi x / 65536 % 256)) rfl rfl (by rw [List.length_set, HL0.out]; omega) (by kernel_rfl) ?_; intro w5 hrow5 hg5; clear hrow4)
        | (with_reducible refine wpList_at ⟨none, .store 5 (.tmp 34) (.tmp 29), _, _, _, _⟩ ?_; refine wpList_store_elem rfl _ _ _ rfl w2.heap.size (4 * i + 2) rfl _ _ hrow5 (.int .u8 (wi x / 256 % 256)) rfl rfl (by rw [List.length_set, List.length_set, HL0.out]; omega) (by kernel_rfl) ?_; intro w6 hrow6 hg6; clear hrow5)
        | (with_reducible refine wpList_at ⟨none, .store 5 (.tmp 35) (.tmp 31), _, _, _, _⟩ ?_; refine wpList_store_elem rfl _ _ _ rfl w2.heap.size (4 * i + 3) rfl _ _ hrow6 (.int .u8 (wi x % 256)) rfl rfl (by rw [List.length_set, List.length_set, List.length_set, HL0.out]; omega) (by kernel_rfl) ?_; intro w7 hrow7 hg7; clear hrow6))
      have hrow0' := (((hrow0.kept hg4 (by simp; omega)).kept hg5 (by simp; omega)).kept hg6 (by simp; omega)).kept hg7 (by simp; omega)
      have hz := hbel.size
      have k4 : ∀ k, some w2.heap.size = some k → w.heap.size ≤ k := by rintro k hk; cases hk; omega
      have hb7 := below_kept (below_kept (below_kept (below_kept hbel hg4 hz k4) hg5 (by have := hg4.size; omega) k4) hg6 (by have := hg4.size; have := hg5.size; omega) k4) hg7 (by have := hg4.size; have := hg5.size; have := hg6.size; omega) k4
      have HR : Hid (Row w7 w2.heap.size 106 (bvs (word4K s (i + 1)) ++ List.replicate (32 - 4 * (i + 1)) (.int .u8 0))) := by
        show Row _ _ _ _
        have e := set4_fill (bvs (word4K s i)) (.int .u8 0) (.int .u8 (wi x / 16777216 % 256)) (.int .u8 (wi x / 65536 % 256)) (.int .u8 (wi x / 256 % 256)) (.int .u8 (wi x % 256)) (32 - 4 * i) (by omega)
        rw [bvs_length, HLT.out] at e
        rw [e] at hrow7
        rw [HW.out, bvs_append, show 32 - 4 * (i + 1) = 32 - 4 * i - 4 by omega, word4_vals]
        exact hrow7
      clear hrow7 hg4 hg5 hg6 hg7
      go_roundg (gk - 1)
      case measure => have := HI.out; omega
      case rel => exact ⟨i + 1, by have := HI.out; show _ = _; omega, by omega, by go_num, HR.out, hrow0', hb7⟩
    · have HI8 : Hid (i = 8) := by show _ = _; omega
      have HSL := Lib.hid (bytes_len s)
      rw [HI8.out, word4K_8, Nat.sub_self, List.replicate_zero, List.append_nil] at hrow
      generalize s.bytes = bs at *
      go_wp2_with (first
        | (with_reducible refine wpList_load_all (o := ⟨some 37, _, _, _, _, _⟩) rfl _ _ rfl w2.heap.size rfl _ _ hrow _ Tryd.underlying106 rfl (b32_size bs HSL.out) ?_)
        | (with_reducible refine wpList_store_all (o := ⟨none, _, _, _, _, _⟩) rfl _ _ _ rfl w1.heap.size rfl _ _ hrow0 _ rfl (bvs_one _) (b32_zeros bs HSL.out) (b32_size bs HSL.out) ?_; intro w9 hrow9 hg9))
      have hload := run_loadVar_at (P := Tryd.prog) w9 106 ⟨w1.heap.size, 0, none⟩ (bvs bs) hrow9.cells _ Tryd.underlying106 rfl (b32_size bs HSL.out)
      exact bodyPost_ret (results_cell1 Tryd.results88 _ _ _ _ rfl hload) rfl ⟨rfl, below_kept hbel hg9 hbel.size (by rintro k hk; cases hk; omega)⟩
end Go.Proofs.YtfclifolniefpaaDoor

/-
  What sha.Sum returns: a contract by a walk. Conditions: the table of constants as laid; at most 10^9 bytes, within the capacity.
-/
namespace Go.Proofs.YtfclifolniefpaaDoor
open Go.RowKit

set_option maxRecDepth 100000 in
set_option maxHeartbeats 2000000 in
theorem sum_any (A : Option Addr) (c : Nat) (l : List UInt8) (n : Nat) (w : World) (hk : Consts w) (hr : Reads w w.heap.size 1 A n (bvs l)) (hc : n ≤ c) (hn : n ≤ 1000000000) :
    Calls Tryd.prog 83 #[.slice A n c] w (GivesV (.agg (bvs (sha l)).toArray) w) := by
  have HL := Lib.hid hr.bytes_len
  go_enter Tryd.func83, Tryd.ntmps83
  go_wp2_with (with_reducible refine wpList_alloc_row (o := ⟨some 2, _, _, _, _, _⟩) rfl _ rfl zeros32 zero_b32 ?_; intro w1 hrow1 hs1 hg1)
  have hr1 := (hr.kept hg1 (Nat.le_refl _) (by simp)).more (B' := w1.heap.size) (by omega)
  have hb1 : Below w.heap.size w w1 := grown_below hg1 (Nat.le_refl _) (by simp)
  have hk1 := hk.on hb1
  clear hg1
  obtain ⟨k, hkk⟩ : ∃ k, k = n / 64 := ⟨_, rfl⟩
  have e64 : (n : Int) - (n : Int) % 64 = 64 * (k : Int) := by omega
  have hk1n : 64 * k ≤ n := by omega
  have hk2n : n < 64 * k + 64 := by omega
  have HKK := Lib.hid hkk
  clear hkk
  have hsub := (hr1.take (k := 64 * k) (by omega))
  rw [Nat.mul_one, show (bvs l).take (64 * k) = bvs (l.take (64 * k)) from (List.map_take ..).symm] at hsub
  have hsubd : ∀ wx, Below w1.heap.size w1 wx → Reads wx wx.heap.size 1 A (64 * k) (bvs (l.take (64 * k))) := fun wx hb => hsub.on hb
  have hcb := fun wx (hb : Below w1.heap.size w1 wx) c' (hc' : 64 * k ≤ c') => Lib.hid (blocks_any first8 A c' (l.take (64 * k)) k wx (hk1.on hb) (hsubd wx hb) hc' (by omega))
  clear hsub
  rw [e64]
  go_cut [4] (fun s4 wc => ∃ g4, s4 = .pointer (some ⟨g4, 0, none⟩) ∧ w1.heap.size ≤ g4 ∧ Row wc g4 137 (wvs (blocksN first8 (l.take (64 * k)) k).list) ∧ Below w1.heap.size w1 wc)
  case first =>
    generalize blocksN first8 (l.take (64 * k)) k = T at *
    refine wp_region_plan (fun _ => True) (.take 1 <| .take 2 <| .take 3 <| .two 0 (.two 4 (.one 5 <| .one 6 <| .done) 5 (.one 4 <| .one 6 <| .done)) 5 (.one 0 <| .one 4 <| .one 6 <| .done)) (by kernel_rfl) (by kernel_rfl) (by kernel_rfl) (fun _ _ _ _ _ h => h) trivial ?_
    repeat (refine plan_take _ rfl ?_; go_big_quiet_step ((intros; rfl)); refine wpQuiet_nil ?_)
    have b0 : Below w1.heap.size w1 w1.drew := (Below.refl _ _).drew
    refine plan_two ?_ ?_
    · refine step_at _ rfl fun K hK => ?_
      go_simp
      refine (initial_any _).mono ?_
      rintro e wa ⟨rfl, h_wa⟩
      refine hK _ _ trivial ?_
      clear hK K
      have ba : Below w1.heap.size w1 wa := b0.trans (h_wa.mono b0.size)
      refine plan_two ?_ ?_
      · refine step_at _ rfl fun K hK => ?_
        go_simp
        refine (hcb _ ba _ (by omega)).out.mono ?_
        rintro e wb ⟨rfl, h_wb⟩
        refine hK _ _ trivial ?_
        clear hK K
        have bb : Below w1.heap.size w1 wb := ba.trans (h_wb.mono ba.size)
        refine plan_one _ rfl fun K hK => step_alloc rfl _ rfl zeros8 zero_w8 ?_
        intro wc r_wc s_wc g_wc
        refine hK _ _ trivial ?_
        clear hK K
        have bc : Below w1.heap.size w1 wc := below_kept bb g_wc bb.size (by simp)
        simp only [Act.put, List.setIfInBounds_toArray, List.set_cons_zero, List.set_cons_succ]
        refine plan_one _ rfl fun K hK => step_store_all rfl _ _ _ rfl wb.heap.size rfl _ zeros8 r_wc (wvs T.list) rfl (wvs_one _) rfl (w8_wvs T) ?_
        intro wz rz gz
        refine hK _ _ trivial ?_
        clear hK K
        refine plan_done ?_
        go_wp2_with fail
        go_meet
        exact ⟨wb.heap.size, rfl, bb.size, rz, below_kept bc gz bc.size (by rintro k hk; cases hk; exact bb.size)⟩
      · refine step_at _ rfl fun K hK => step_alloc rfl _ rfl zeros8 zero_w8 ?_
        intro wb r_wb s_wb g_wb
        refine hK _ _ trivial ?_
        clear hK K
        have bb : Below w1.heap.size w1 wb := below_kept ba g_wb ba.size (by simp)
        simp only [Act.put, List.setIfInBounds_toArray, List.set_cons_zero, List.set_cons_succ]
        refine plan_one _ rfl fun K hK => ?_
        go_simp
        refine (hcb _ bb _ (by omega)).out.mono ?_
        rintro e wc ⟨rfl, h_wc⟩
        refine hK _ _ trivial ?_
        clear hK K
        have bc : Below w1.heap.size w1 wc := bb.trans (h_wc.mono bb.size)
        refine plan_one _ rfl fun K hK => step_store_all rfl _ _ _ rfl wa.heap.size rfl _ zeros8 (r_wb.on h_wc) (wvs T.list) rfl (wvs_one _) rfl (w8_wvs T) ?_
        intro wz rz gz
        refine hK _ _ trivial ?_
        clear hK K
        refine plan_done ?_
        go_wp2_with fail
        go_meet
        exact ⟨wa.heap.size, rfl, ba.size, rz, below_kept bc gz bc.size (by rintro k hk; cases hk; exact ba.size)⟩
    · refine step_at _ rfl fun K hK => step_alloc rfl _ rfl zeros8 zero_w8 ?_
      intro wa r_wa s_wa g_wa
      refine hK _ _ trivial ?_
      clear hK K
      have ba : Below w1.heap.size w1 wa := below_kept b0 g_wa b0.size (by simp)
      simp only [Act.put, List.setIfInBounds_toArray, List.set_cons_zero, List.set_cons_succ]
      refine plan_one _ rfl fun K hK => ?_
      go_simp
      refine (initial_any _).mono ?_
      rintro e wb ⟨rfl, h_wb⟩
      refine hK _ _ trivial ?_
      clear hK K
      have bb : Below w1.heap.size w1 wb := ba.trans (h_wb.mono ba.size)
      refine plan_one _ rfl fun K hK => ?_
      go_simp
      refine (hcb _ bb _ (by omega)).out.mono ?_
      rintro e wc ⟨rfl, h_wc⟩
      refine hK _ _ trivial ?_
      clear hK K
      have bc : Below w1.heap.size w1 wc := bb.trans (h_wc.mono bb.size)
      refine plan_one _ rfl fun K hK => step_store_all rfl _ _ _ rfl w1.heap.size rfl _ zeros8 ((r_wa.on h_wb).on h_wc) (wvs T.list) rfl (wvs_one _) rfl (w8_wvs T) ?_
      intro wz rz gz
      refine hK _ _ trivial ?_
      clear hK K
      refine plan_done ?_
      go_wp2_with fail
      go_meet
      exact ⟨w1.heap.size, rfl, b0.size, rz, below_kept bc gz bc.size (by rintro k hk; cases hk; exact b0.size)⟩
  case rest =>
    obtain ⟨g4, rfl, hg4, hrow4, hbc⟩ := hcut
    go_wp2_with fail
    obtain ⟨T, hT⟩ : ∃ T, T = blocksN first8 (l.take (64 * k)) k := ⟨_, rfl⟩
    rw [← hT] at hrow4
    have HT := Lib.hid hT
    clear hT hcb hsubd
    have hkc := hk1.on hbc
    have hrc := (hr1.on hbc)
    have hrd := hrc.cut (k := 64 * k) (cap := c) hk1n hc
    rw [Nat.mul_one] at hrd
    have hrdd : Reads wc wc.heap.size 1 (if c = 64 * k then A else A.map (·.add (64 * k))) (n - 64 * k) (bvs (l.drop (64 * k))) := by
      have e : bvs (l.drop (64 * k)) = (bvs l).drop (64 * k) := List.map_drop ..
      rw [e]; exact hrd
    clear hrd
    have hcl := fun A' c' (hrA : Reads wc wc.heap.size 1 A' (n - 64 * k) (bvs (l.drop (64 * k)))) => Lib.hid (lastBlocks_any A' c' (l.drop (64 * k)) (n - 64 * k) n wc.drew hrA (by omega) (by omega) (by omega))
    have hpl : (l.drop (64 * k) ++ padding n).length % 64 = 0 := by
      rw [List.length_append, padding_len, List.length_drop, HL.out]
      unfold zerosN; omega
    obtain ⟨k2, hk2⟩ : ∃ k2, k2 = (l.drop (64 * k) ++ padding n).length / 64 := ⟨_, rfl⟩
    have hpb : (l.drop (64 * k) ++ padding n).length ≤ 1000 := by
      rw [List.length_append, padding_len, List.length_drop, HL.out]
      have := zeros_lt n; omega
    have HPL : Hid ((l.drop (64 * k) ++ padding n).length = 64 * k2) := by show _ = _; omega
    have hk2b : 64 * k2 ≤ 1000 := by have := HPL.out; omega
    have HSH : Hid ((blocksN T (l.drop (64 * k) ++ padding n) k2).bytes = sha l) := by
      show _ = _
      rw [sha_parts l k (by rw [HL.out]; exact HKK.out), HT.out, HL.out, hk2]
    have HSL := Lib.hid (sha_len l)
    clear hk2 hpl hpb
    by_cases hcap : c = 64 * k
    · rw [if_pos hcap] at hrdd
      have hrd := hrdd
      refine wp_region_plan (fun w' => Row w' g4 137 (wvs T.list)) (.take 0 <| .take 1 <| .take 2 <| .take 3 <| .take 4 <| .one 5 <| .one 6 <| .one 7 <| .one 8 <| .one 9 <| .done) (by kernel_rfl) (by kernel_rfl) (by kernel_rfl) (fun _ _ _ _ _ h => h) hrow4.drew ?_
      refine plan_take _ rfl (wpQuiet_load_all rfl _ _ rfl g4 rfl _ _ (fun _ h => h) _ Tryd.underlying137 rfl (w8_wvs T) (wpQuiet_nil ?_))
      simp only [Act.put, List.setIfInBounds_toArray, List.set_cons_zero, List.set_cons_succ]
      repeat (refine plan_take _ rfl ?_; go_big_quiet_step ((intros; rfl)); refine wpQuiet_nil ?_)
      refine plan_one _ rfl fun K hK => ?_
      go_simp
      refine hK _ _ hrow4.drew ?_
      clear hK K
      refine plan_one _ rfl fun K hK => ?_
      go_simp
      refine (hcl A _ hrd).out.mono ?_
      rintro e wa ⟨va, rfl, howna, hba⟩
      have howna := own_len howna HPL.out
      obtain ⟨Aa, ca, rfl, hca, _, hra⟩ := own_form howna
      have hrowa := hrow4.drew.on hba
      have hka := (hkc.drewN 1).on hba
      refine hK _ _ hrowa ?_
      clear hK K
      refine plan_one _ rfl fun K hK => ?_
      go_simp
      refine (blocks_any T Aa ca _ k2 wa hka hra hca (by omega)).mono ?_
      rintro e wb ⟨rfl, hbb⟩
      refine hK _ _ (hrowa.on hbb) ?_
      clear hK K
      refine plan_one _ rfl fun K hK => ?_
      go_simp
      refine (bytesOf_any _ wb).mono ?_
      rintro e wd ⟨rfl, hbd⟩
      rw [HSH.out]
      refine hK _ _ ((hrowa.on hbb).on hbd) ?_
      clear hK K
      have hrowr := ((((hrow1.below hbc (by omega)).drew).on hba).on hbb).on hbd
      have hbz : Below w.heap.size w wd := (hb1.trans (hbc.mono hb1.size)).drew.trans (((hba.trans (hbb.mono hba.size)).trans (hbd.mono (Nat.le_trans hba.size hbb.size))).mono (Nat.le_trans hb1.size hbc.size))
      refine plan_one _ rfl fun K hK => step_store_all rfl _ _ _ rfl w.heap.size rfl _ zeros32 hrowr (bvs (sha l)) rfl (bvs_one _) (b32_zeros _ HSL.out) (b32_size _ HSL.out) ?_
      intro wz rz gz
      refine hK _ _ (((hrowa.on hbb).on hbd).kept gz (by simp; omega)) ?_
      clear hK K
      refine plan_done ?_
      go_wp2_with fail
      have hload := run_loadVar_at (P := Tryd.prog) wz 106 ⟨w.heap.size, 0, none⟩ (bvs (sha l)) rz.cells _ Tryd.underlying106 rfl (b32_size _ HSL.out)
      exact bodyPost_ret (results_cell1 Tryd.results83 _ _ _ _ rfl hload) rfl ⟨rfl, below_kept hbz gz hbz.size (by rintro k hk; cases hk; exact Nat.le_refl _)⟩
    · rw [if_neg hcap] at hrdd
      rcases A with _ | ad
      · have hrd := hrdd
        simp only [Option.map_none] at hrd
        refine wp_region_plan (fun w' => Row w' g4 137 (wvs T.list)) (.take 0 <| .take 1 <| .take 2 <| .take 3 <| .take 4 <| .one 5 <| .one 6 <| .one 7 <| .one 8 <| .one 9 <| .done) (by kernel_rfl) (by kernel_rfl) (by kernel_rfl) (fun _ _ _ _ _ h => h) hrow4.drew ?_
        refine plan_take _ rfl (wpQuiet_load_all rfl _ _ rfl g4 rfl _ _ (fun _ h => h) _ Tryd.underlying137 rfl (w8_wvs T) (wpQuiet_nil ?_))
        simp only [Act.put, List.setIfInBounds_toArray, List.set_cons_zero, List.set_cons_succ]
        repeat (refine plan_take _ rfl ?_; go_big_quiet_step ((intros; rfl)); refine wpQuiet_nil ?_)
        refine plan_one _ rfl fun K hK => ?_
        go_simp
        refine hK _ _ hrow4.drew ?_
        clear hK K
        refine plan_one _ rfl fun K hK => ?_
        go_simp
        refine (hcl none _ hrd).out.mono ?_
        rintro e wa ⟨va, rfl, howna, hba⟩
        have howna := own_len howna HPL.out
        obtain ⟨Aa, ca, rfl, hca, _, hra⟩ := own_form howna
        have hrowa := hrow4.drew.on hba
        have hka := (hkc.drewN 1).on hba
        refine hK _ _ hrowa ?_
        clear hK K
        refine plan_one _ rfl fun K hK => ?_
        go_simp
        refine (blocks_any T Aa ca _ k2 wa hka hra hca (by omega)).mono ?_
        rintro e wb ⟨rfl, hbb⟩
        refine hK _ _ (hrowa.on hbb) ?_
        clear hK K
        refine plan_one _ rfl fun K hK => ?_
        go_simp
        refine (bytesOf_any _ wb).mono ?_
        rintro e wd ⟨rfl, hbd⟩
        rw [HSH.out]
        refine hK _ _ ((hrowa.on hbb).on hbd) ?_
        clear hK K
        have hrowr := ((((hrow1.below hbc (by omega)).drew).on hba).on hbb).on hbd
        have hbz : Below w.heap.size w wd := (hb1.trans (hbc.mono hb1.size)).drew.trans (((hba.trans (hbb.mono hba.size)).trans (hbd.mono (Nat.le_trans hba.size hbb.size))).mono (Nat.le_trans hb1.size hbc.size))
        refine plan_one _ rfl fun K hK => step_store_all rfl _ _ _ rfl w.heap.size rfl _ zeros32 hrowr (bvs (sha l)) rfl (bvs_one _) (b32_zeros _ HSL.out) (b32_size _ HSL.out) ?_
        intro wz rz gz
        refine hK _ _ (((hrowa.on hbb).on hbd).kept gz (by simp; omega)) ?_
        clear hK K
        refine plan_done ?_
        go_wp2_with fail
        have hload := run_loadVar_at (P := Tryd.prog) wz 106 ⟨w.heap.size, 0, none⟩ (bvs (sha l)) rz.cells _ Tryd.underlying106 rfl (b32_size _ HSL.out)
        exact bodyPost_ret (results_cell1 Tryd.results83 _ _ _ _ rfl hload) rfl ⟨rfl, below_kept hbz gz hbz.size (by rintro k hk; cases hk; exact Nat.le_refl _)⟩
      · have hrd := hrdd
        simp only [Option.map_some] at hrd
        refine wp_region_plan (fun w' => Row w' g4 137 (wvs T.list)) (.take 0 <| .take 1 <| .take 2 <| .take 3 <| .take 4 <| .one 5 <| .one 6 <| .one 7 <| .one 8 <| .one 9 <| .done) (by kernel_rfl) (by kernel_rfl) (by kernel_rfl) (fun _ _ _ _ _ h => h) hrow4.drew ?_
        refine plan_take _ rfl (wpQuiet_load_all rfl _ _ rfl g4 rfl _ _ (fun _ h => h) _ Tryd.underlying137 rfl (w8_wvs T) (wpQuiet_nil ?_))
        simp only [Act.put, List.setIfInBounds_toArray, List.set_cons_zero, List.set_cons_succ]
        repeat (refine plan_take _ rfl ?_; go_big_quiet_step ((intros; rfl)); refine wpQuiet_nil ?_)
        refine plan_one _ rfl fun K hK => ?_
        go_simp
        refine hK _ _ hrow4.drew ?_
        clear hK K
        refine plan_one _ rfl fun K hK => ?_
        go_simp
        refine (hcl (some (ad.add (64 * k))) _ hrd).out.mono ?_
        rintro e wa ⟨va, rfl, howna, hba⟩
        have howna := own_len howna HPL.out
        obtain ⟨Aa, ca, rfl, hca, _, hra⟩ := own_form howna
        have hrowa := hrow4.drew.on hba
        have hka := (hkc.drewN 1).on hba
        refine hK _ _ hrowa ?_
        clear hK K
        refine plan_one _ rfl fun K hK => ?_
        go_simp
        refine (blocks_any T Aa ca _ k2 wa hka hra hca (by omega)).mono ?_
        rintro e wb ⟨rfl, hbb⟩
        refine hK _ _ (hrowa.on hbb) ?_
        clear hK K
        refine plan_one _ rfl fun K hK => ?_
        go_simp
        refine (bytesOf_any _ wb).mono ?_
        rintro e wd ⟨rfl, hbd⟩
        rw [HSH.out]
        refine hK _ _ ((hrowa.on hbb).on hbd) ?_
        clear hK K
        have hrowr := ((((hrow1.below hbc (by omega)).drew).on hba).on hbb).on hbd
        have hbz : Below w.heap.size w wd := (hb1.trans (hbc.mono hb1.size)).drew.trans (((hba.trans (hbb.mono hba.size)).trans (hbd.mono (Nat.le_trans hba.size hbb.size))).mono (Nat.le_trans hb1.size hbc.size))
        refine plan_one _ rfl fun K hK => step_store_all rfl _ _ _ rfl w.heap.size rfl _ zeros32 hrowr (bvs (sha l)) rfl (bvs_one _) (b32_zeros _ HSL.out) (b32_size _ HSL.out) ?_
        intro wz rz gz
        refine hK _ _ (((hrowa.on hbb).on hbd).kept gz (by simp; omega)) ?_
        clear hK K
        refine plan_done ?_
        go_wp2_with fail
        have hload := run_loadVar_at (P := Tryd.prog) wz 106 ⟨w.heap.size, 0, none⟩ (bvs (sha l)) rz.cells _ Tryd.underlying106 rfl (b32_size _ HSL.out)
        exact bodyPost_ret (results_cell1 Tryd.results83 _ _ _ _ rfl hload) rfl ⟨rfl, below_kept hbz gz hbz.size (by rintro k hk; cases hk; exact Nat.le_refl _)⟩
end Go.Proofs.YtfclifolniefpaaDoor
