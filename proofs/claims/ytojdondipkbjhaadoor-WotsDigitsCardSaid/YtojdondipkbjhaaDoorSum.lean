/-
  What sha.initial, (sha.state).blocks, lastBlocks, (sha.state).bytes and sha.Sum return: contracts by walks. Conditions: the table of constants as laid; at most 10^9 bytes.
-/
import Derived.Test.YtojdondipkbjhaaDoorRSum
import Derived.Test.YtojdondipkbjhaaDoorSegs
namespace Go.Proofs.YtojdondipkbjhaaDoor
open Go.RowKit

theorem w8_wvs (s : St) : (Tryd.prog.info? 64).map (·.size) = some (wvs s.list).length := w8_size _ rfl
theorem w8_same (s t : St) : (wvs s.list).length = (wvs t.list).length := rfl

set_option maxRecDepth 100000 in
set_option maxHeartbeats 1000000 in
theorem initial_any (w : World) : Calls Tryd.prog 43 #[] w (GivesV (.agg (wvs first8.list).toArray) w) := by
  go_enter Tryd.func43, Tryd.ntmps43
  go_wp2_with (first
    | (with_reducible refine wpList_alloc_row (o := ⟨some 0, _, _, _, _, _⟩) rfl _ rfl zeros8 zero_w8 ?_; intro w1 hrow1 hs1 hg1)
    | (with_reducible refine wpList_store_all (o := ⟨none, _, _, _, _, _⟩) rfl _ _ _ rfl w.heap.size rfl _ _ hrow1 (wvs first8.list) rfl (wvs_one _) rfl (w8_size _ rfl) ?_; intro w2 hrow2 hg2))
  have hload := run_loadVar_at (P := Tryd.prog) w2 64 ⟨w.heap.size, 0, none⟩ _ hrow2.cells _ Tryd.underlying64 rfl (w8_size _ rfl)
  exact bodyPost_ret (results_cell1 Tryd.results43 _ _ _ _ rfl hload) rfl ⟨rfl, below_kept (grown_below hg1 (Nat.le_refl _) (by simp)) hg2 (by omega) (by rintro k hk; cases hk; exact Nat.le_refl _)⟩

set_option maxRecDepth 100000 in
set_option maxHeartbeats 2000000 in
theorem blocks_any (s : St) (A : Option Addr) (c : Nat) (l : List UInt8) (k : Nat) (w : World) (hk : Consts w) (hr : Reads w w.heap.size 1 A (64 * k) (bvs l)) (hc : 64 * k ≤ c) (hb : 64 * k ≤ 2000000000) :
    Calls Tryd.prog 44 #[.agg (wvs s.list).toArray, .slice A (64 * k) c] w (GivesV (.agg (wvs (blocksN s l k).list).toArray) w) := by
  go_enter Tryd.func44, Tryd.ntmps44
  go_wp2_with (first
    | (with_reducible refine wpList_box_row (o := ⟨some 2, _, _, _, _, _⟩) rfl _ _ rfl (wvs s.list) rfl ?_; intro w1 hrow1 hs1 hg1)
    | (with_reducible refine wpList_alloc_row (o := ⟨some 4, _, _, _, _, _⟩) rfl _ rfl zeros8 zero_w8 ?_; intro w2 hrow2 hs2 hg2))
  have hb2 : Below w.heap.size w w2 := below_kept (grown_below hg1 (Nat.le_refl _) (by simp)) hg2 (by omega) (by simp)
  have hrS2 := hrow1.kept hg2 (by simp)
  have hs22 := hrow2.lt
  clear hrow1 hg1 hg2
  go_loopg [5] k (fun g s5 wr => ∃ m : Nat, Hid (m + g = k) ∧ m ≤ k ∧ s5 = .int .i64 ((64 * m : Nat) : Int) ∧ Row wr w.heap.size 64 (wvs (blocksN s l m).list) ∧ Row wr w1.heap.size 64 zeros8 ∧ Below w.heap.size w wr)
  case atStart => exact ⟨0, by show _ = _; omega, by omega, rfl, by rw [blocksN_zero]; exact hrS2, hrow2, hb2⟩
  case round =>
    obtain ⟨m, HM, hm, rfl, hrS, hrR, hbel⟩ := hrel
    by_cases hlt : m < k
    · have hr4 := (hr.below hbel).more (B' := wr.heap.size) hbel.size
      have hsub := hr4.sub (u := 64 * m) (m := 64) (c := c) (by omega) hc
      rw [Nat.mul_one, if_neg (show ¬ c = 64 * m by omega)] at hsub
      obtain ⟨a4, rfl⟩ : ∃ a4, A = some a4 := by
        obtain ⟨ad, h, _⟩ := hr4.2 (by omega)
        exact ⟨ad, h⟩
      have HB := Lib.hid (blocksN_succ s l m)
      have hsub2 : Reads wr.drew wr.drew.heap.size 1 (some (a4.add (64 * m))) 64 (bvs ((l.drop (64 * m)).take 64)) := hsub.drew
      have hcon := fun c' => Lib.hid (compress_any (blocksN s l m) _ c' _ wr.drew ((hk.on hbel).drewN 1) hsub2)
      clear hsub hsub2
      go_wp2_with fail
      refine wp_region_plan (fun _ => True) (.take 1 <| .take 2 <| .take 3 <| .take 4 <| .take 5 <| .one 0 <| .one 6 <| .one 7 .done) (by kernel_rfl) (by kernel_rfl) (by kernel_rfl) (fun _ _ _ _ _ h => h) trivial ?_
      repeat (refine plan_take _ rfl ?_; go_big_quiet_step ((intros; rfl)); refine wpQuiet_nil ?_)
      refine plan_one _ rfl fun K hK => step_load_all rfl _ _ rfl w.heap.size rfl _ (wvs (blocksN s l m).list) hrS.drew _ Tryd.underlying64 rfl (w8_wvs _) ?_
      refine hK _ _ trivial ?_
      clear hK K
      simp only [Act.put, List.setIfInBounds_toArray, List.set_cons_zero, List.set_cons_succ]
      refine plan_one _ rfl fun K hK => ?_
      go_simp
      refine (hcon _).out.mono ?_
      rintro e w3 ⟨rfl, hb3⟩
      refine hK _ _ trivial ?_
      clear hK K
      refine plan_one _ rfl fun K hK => step_store_all rfl _ _ _ rfl w.heap.size rfl _ (wvs (blocksN s l m).list) (hrS.drew.on hb3) (wvs (compr (blocksN s l m) ((l.drop (64 * m)).take 64)).list) rfl (wvs_one _) (w8_same _ _) (w8_wvs _) ?_
      intro w4 hrow4 hg4
      refine hK _ _ trivial ?_
      clear hK K
      refine plan_done ?_
      simp only [Act.put]
      have hrR4 := (hrR.drew.on hb3).kept hg4 (by simp; omega)
      have hb34 : Below w.heap.size w w4 := below_kept (hbel.drew.trans (hb3.mono hbel.size)) hg4 (Nat.le_trans hbel.size hb3.size) (by rintro k hk; cases hk; exact Nat.le_refl _)
      have hrow5 : Row w4 w.heap.size 64 (wvs (blocksN s l (m + 1)).list) := by rw [HB.out]; exact hrow4
      clear hrow4 hg4 hb3
      go_wp2_with fail
      go_roundg (gk - 1)
      case measure => have := HM.out; omega
      case rel => exact ⟨m + 1, by have := HM.out; show _ = _; omega, by omega, by go_num, hrow5, hrR4, hb34⟩
    · have HMK : Hid (m = k) := by show _ = _; omega
      rw [HMK.out] at hrS
      generalize blocksN s l k = t at *
      go_wp2_with (first
        | (with_reducible refine wpList_load_all (o := ⟨some 19, _, _, _, _, _⟩) rfl _ _ rfl w.heap.size rfl _ _ hrS _ Tryd.underlying64 rfl (w8_wvs t) ?_)
        | (with_reducible refine wpList_store_all (o := ⟨none, _, _, _, _, _⟩) rfl _ _ _ rfl w1.heap.size rfl _ _ hrR (wvs t.list) rfl (wvs_one _) rfl (w8_wvs t) ?_; intro w7 hrow7 hg7))
      have hload := run_loadVar_at (P := Tryd.prog) w7 64 ⟨w1.heap.size, 0, none⟩ _ hrow7.cells _ Tryd.underlying64 rfl (w8_wvs t)
      exact bodyPost_ret (results_cell1 Tryd.results44 _ _ _ _ rfl hload) rfl ⟨rfl, below_kept hbel hg7 hbel.size (by rintro k hk; cases hk; omega)⟩

/-! ## lastBlocks -/
theorem zeros_more2 (size n j : Nat) (h : n % 64 = size % 64) (hj : j ≤ zerosN size) : (n + 1 + j) % 64 = 56 ↔ j = zerosN size := by unfold zerosN at *; omega
theorem be_val2 (n k : Nat) : Value.int IntKind.u8 ((n : Int) * 8 / 2 ^ (56 - 8 * k) % 256) = bv (UInt8.ofNat (8 * n / 2 ^ (56 - 8 * k))) := by
  unfold bv
  rw [UInt8.toNat_ofNat', Nat.mul_comm 8 n]
  congr 1
set_option maxRecDepth 100000 in
set_option maxHeartbeats 2000000 in
theorem lastBlocks_any (A : Option Addr) (c : Nat) (r : List UInt8) (n size : Nat) (w : World) (hr : Reads w w.heap.size 1 A n (bvs r)) (hn : n ≤ 1000000000) (hsz : size ≤ 1000000000) (hmod : size % 64 = n % 64) :
    Calls Tryd.prog 45 #[.slice A n c, .int .i64 (size : Int)] w (Gives (r ++ padding size) w) := by
  obtain ⟨i0, hi0, hz0, hz1, hz2⟩ := info_parts info_u8
  have HL := Lib.hid hr.bytes_len
  go_enter Tryd.func45, Tryd.ntmps45
  go_wp2_with (first
    | (refine wpList_make_own _ (o := ⟨some 8, _, _, _, _, _⟩) rfl _ _ _ rfl w.heap.size 5 i0 _ 1 Tryd.underlying41 hi0 hz0 hz1 .i64 .i64 128 128 rfl rfl rfl (by rw [hz2]; omega) (by unfold maxLen; omega) (Nat.le_refl _) ?_; intro w1 hown1 hg1)
    | (at_builtin
       refine wpList_append_src _ rfl (.tmp 9) (.tmp 10) _ _ rfl w.heap.size 5 i0 _ 1 1 Tryd.underlying41 hi0 hz0 hz1 hz2 rfl _ _ _ rfl hown1 n _ (Src.ofReads _ Tryd.underlying41 (hr.kept hg1 (Nat.le_refl _) (by simp)) (bvs_one _)) (by unfold maxLen; omega) (by omega) (by have := hg1.size; omega) ?_
       intro v2 w2 hown2 hb2
       clear hown1
       simp only [Nat.zero_add, List.nil_append] at hown2)
    | (at_builtin
       refine wpList_append_src _ rfl (.tmp 12) (.tmp 13) _ _ rfl w.heap.size 5 i0 _ 1 1 Tryd.underlying41 hi0 hz0 hz1 hz2 rfl _ _ _ rfl (hown2.alloc _) 1 _ (Src.box Tryd.underlying41 _ _ _ rfl _) (by unfold maxLen; omega) (by omega) (by have := hg1.size; have := hb2.size; simp; omega) ?_
       intro v3 w3 hown3 hb3))
  have hbel3 : Below w.heap.size w w3 := (grown_below hg1 (Nat.le_refl _) (by simp)).trans (hb2.trans (((Below.refl _ _).alloc (by have := hg1.size; have := hb2.size; omega) _).trans hb3))
  have hown : w3.ownsRow w.heap.size 5 1 v3 (n + 1 + 0) (bvs (r ++ [128] ++ List.replicate 0 0)) := by
    simp only [bvs_append, List.replicate_zero, List.append_nil, Nat.add_zero]
    exact hown3
  clear hown3 hown2 hb2 hb3 hg1
  go_loopg [5] (zerosN size) (fun g s3 wr => ∃ j : Nat, Hid (j + g = zerosN size) ∧ j ≤ zerosN size ∧ wr.ownsRow w.heap.size 5 1 s3 (n + 1 + j) (bvs (r ++ [128] ++ List.replicate j 0)) ∧ Below w.heap.size w wr)
  case atStart => exact ⟨0, by show _ = _; omega, by omega, hown, hbel3⟩
  case round =>
    obtain ⟨j, HJ, hj, hown, hbel⟩ := hrel
    have hz := zeros_lt size
    have hzm := zeros_more2 size n j hmod.symm hj
    have hbs := hbel.size
    obtain ⟨A3, c3, rfl, hc3, _, hr3⟩ := own_form hown
    by_cases hlt : j < zerosN size
    · have hq : (((n : Int) + 1 + (j : Int)) % 64 == 56) = false := by simp; omega
      have hq2 : (((n : Int) + 1 + (j : Int)) % 64 != 56) = true := by simp; omega
      clear hzm
      go_wp2_with (at_builtin; refine wpList_append_src _ rfl (.tmp 19) (.tmp 20) _ _ rfl w.heap.size 5 i0 _ 1 1 Tryd.underlying41 hi0 hz0 hz1 hz2 rfl _ _ _ rfl (hown.alloc _) 1 _ (Src.box Tryd.underlying41 _ _ _ rfl _) (by unfold maxLen; omega) (by omega) (by simp; omega) ?_; intro v4 w4 hown4 hb4)
      go_roundg (gk - 1)
      case measure => have := HJ.out; omega
      case rel =>
        refine ⟨j + 1, by have := HJ.out; show _ = _; omega, by omega, ?_, hbel.trans (((Below.refl _ _).alloc hbs _).trans hb4)⟩
        rw [List.replicate_succ', ← List.append_assoc, bvs_append]
        exact hown4
    · have hjz : Hid (j = zerosN size) := by show _ = _; omega
      have hq : (((n : Int) + 1 + (j : Int)) % 64 == 56) = true := by simp; omega
      have hq2 : (((n : Int) + 1 + (j : Int)) % 64 != 56) = false := by simp; omega
      clear hzm
      go_wp2_with fail
      clear hq hq2
      obtain ⟨M0, hM0⟩ : ∃ M0, M0 = r ++ [128] ++ List.replicate (zerosN size) 0 := ⟨_, rfl⟩
      obtain ⟨q, hq⟩ : ∃ q, q = n + 1 + zerosN size := ⟨_, rfl⟩
      have hqb : q ≤ 1000000100 := by omega
      have hown0 : wr.ownsRow w.heap.size 5 1 (.slice A3 (n + 1 + j) c3) (q + 0) (bvs (M0 ++ beK (8 * size) 0)) := by
        refine own_len (n := n + 1 + j) ?_ (by have := hjz.out; omega)
        rw [show beK (8 * size) 0 = [] from rfl, List.append_nil, hM0, ← hjz.out]
        exact hown
      have HM0 := Lib.hid hM0
      have HQ := Lib.hid hq
      clear hM0 hr3 hjz HJ hown hq
      obtain ⟨wo, rfl⟩ : ∃ wo : World, wo = wr := ⟨_, rfl⟩
      obtain ⟨g0, rfl⟩ : ∃ g0 : Nat, g0 = gk := ⟨_, rfl⟩
      go_loopg [5, 7] 8 (fun g s3 s5 wr => ∃ k : Nat, Hid (k + g = 8) ∧ k ≤ 8 ∧ s5 = .int .i64 (56 - 8 * (k : Int)) ∧ wr.ownsRow w.heap.size 5 1 s3 (q + k) (bvs (M0 ++ beK (8 * size) k)) ∧ Below w.heap.size w wr)
      case atStart => exact ⟨0, rfl, by omega, by simp, hown0, hbel⟩
      case round =>
        obtain ⟨k, HK, hk, rfl, hown, hbel⟩ := hrel
        have hbs := hbel.size
        obtain ⟨A4, c4, rfl, hc4, _, hr4⟩ := own_form hown
        by_cases hlt : k < 8
        · go_wp2_with (at_builtin; refine wpList_append_src _ rfl (.tmp 29) (.tmp 34) _ _ rfl w.heap.size 5 i0 _ 1 1 Tryd.underlying41 hi0 hz0 hz1 hz2 rfl _ _ _ rfl (hown.alloc _) 1 _ (Src.box Tryd.underlying41 _ _ _ rfl _) (by unfold maxLen; omega) (by omega) (by simp; omega) ?_; intro v4 w4 hown4 hb4)
          go_roundg (gk - 1)
          case measure => have := HK.out; omega
          case rel =>
            refine ⟨k + 1, by have := HK.out; show _ = _; omega, by omega, by go_num, ?_, hbel.trans (((Below.refl _ _).alloc hbs _).trans hb4)⟩
            rw [beK_succ, ← List.append_assoc, bvs_append]
            rw [be_val2 size k] at hown4
            exact hown4
        · have hk8 : Hid (k = 8) := by show _ = _; omega
          go_wp2_with fail
          go_ret
          refine ⟨_, rfl, ?_, hbel⟩
          refine own_len (n := q + k) ?_ (by rw [List.length_append, padding_len, HQ.out, hk8.out, HL.out]; omega)
          have e : r ++ padding size = M0 ++ beK (8 * size) k := by rw [HM0.out, hk8.out]; unfold padding; rw [be64_eq]; simp
          rw [e]
          exact hown
end Go.Proofs.YtojdondipkbjhaaDoor
