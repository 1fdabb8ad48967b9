/-
  What sha.shorten and the reference's short return: contracts by walks. No condition.
-/
import Derived.Test.YtfclifolniefpaaDoorSumG
namespace Go.Proofs.YtfclifolniefpaaDoor
open Go.RowKit

def zeros16 : List Value := List.replicate 16 (.int .u8 0)
theorem zero_b16 : (Tryd.prog.info? 76).map (fun i => i.zero.map (·.cells)) = some (some zeros16.toArray) := by kernel_rfl
theorem b16_size (l : List UInt8) (h : l.length = 16) : (Tryd.prog.info? 76).map (·.size) = some (bvs l).length := by rw [bvs_length, h]; kernel_rfl
theorem b16_zeros (l : List UInt8) (h : l.length = 16) : zeros16.length = (bvs l).length := by rw [bvs_length, h]; rfl
theorem zeros16_one : ∀ u ∈ zeros16, u.oneCell' = true := by
  intro u hu
  rw [List.eq_of_mem_replicate hu]
  rfl

set_option maxRecDepth 100000 in
set_option maxHeartbeats 1000000 in
theorem refShort_any (l : List UInt8) (hl : l.length = 32) (w : World) : Calls Tryd.prog 52 #[.agg (bvs l).toArray] w (GivesV (.agg (bvs (l.take 16)).toArray) w) := by
  have HL := Lib.hid hl
  clear hl
  go_enter Tryd.func52, Tryd.ntmps52
  go_wp2_with (first
    | (with_reducible refine wpList_box_row (o := ⟨some 1, _, _, _, _, _⟩) rfl _ _ rfl (bvs l) rfl ?_; intro w1 hrow1 hs1 hg1)
    | (with_reducible refine wpList_alloc_row (o := ⟨some 2, _, _, _, _, _⟩) rfl _ rfl zeros16 zero_b16 ?_; intro w2 hrow2 hs2 hg2)
    | (with_reducible refine wpList_alloc_row (o := ⟨some 3, _, _, _, _, _⟩) rfl _ rfl zeros16 zero_b16 ?_; intro w3 hrow3 hs3 hg3)
    | (with_reducible refine wpList_store_all (o := ⟨none, _, _, _, _, _⟩) rfl _ _ _ rfl w2.heap.size rfl _ _ hrow3 zeros16 rfl zeros16_one rfl (by kernel_rfl) ?_; intro w4 hrow4 hg4))
  have hb4 : Below w.heap.size w w4 := below_kept (below_kept (below_kept (grown_below hg1 (Nat.le_refl _) (by simp)) hg2 (by omega) (by simp)) hg3 (by omega) (by simp)) hg4 (by omega) (by rintro k hk; cases hk; omega)
  have hrow1' := ((hrow1.kept hg2 (by simp)).kept hg3 (by simp)).kept hg4 (by simp; omega)
  have hrow2' := (hrow2.kept hg3 (by simp)).kept hg4 (by simp; omega)
  clear hrow1 hrow2 hrow3 hg1 hg2 hg3 hg4
  go_loopg [4] 16 (fun g s4 wr => ∃ k : Nat, Hid (k + g = 16) ∧ k ≤ 16 ∧ s4 = .int .i64 (k : Int) ∧ Row wr w2.heap.size 76 (bvs (l.take k) ++ List.replicate (16 - k) (.int .u8 0)) ∧ Row wr w.heap.size 106 (bvs l) ∧ Row wr w1.heap.size 76 zeros16 ∧ Below w.heap.size w wr)
  case atStart => exact ⟨0, rfl, by omega, rfl, hrow4, hrow1', hrow2', hb4⟩
  case round =>
    obtain ⟨k, HK, hk, rfl, hrow, hrow1, hrow2, hbel⟩ := hrel
    by_cases hlt : k < 16
    · have hlk : k < l.length := by rw [HL.out]; omega
      have hc := hrow1.cell (j := k) (u := bv l[k]) (by unfold bvs; rw [List.getElem?_map, List.getElem?_eq_getElem hlk]; rfl)
      have HT : Hid (l.take (k + 1) = l.take k ++ [l[k]]) := by show _ = _; rw [List.take_add_one, List.getElem?_eq_getElem hlk]; rfl
      have HLT : Hid ((bvs (l.take k)).length = k) := by show _ = _; rw [bvs_length, List.length_take]; omega
      generalize l[k] = x at *
      unfold bv at hc
      go_wp2_with (with_reducible refine wpList_at ⟨none, .store 5 _ _, _, _, _, _⟩ ?_; refine wpList_store_elem rfl _ _ _ rfl w2.heap.size k rfl _ _ hrow (.int .u8 (x.toNat : Int)) rfl rfl (by rw [List.length_append, HLT.out, List.length_replicate]; omega) (by kernel_rfl) ?_; intro w9 hrow9 hg9)
      have HR : Hid (Row w9 w2.heap.size 76 (bvs (l.take (k + 1)) ++ List.replicate (16 - (k + 1)) (.int .u8 0))) := by
        show Row _ _ _ _
        have e := set_fill (bvs (l.take k)) (.int .u8 0) (.int .u8 (x.toNat : Int)) (16 - k) (by omega)
        rw [HLT.out] at e
        rw [HT.out, bvs_append, show 16 - (k + 1) = 16 - k - 1 by omega]
        exact e ▸ hrow9
      have h1' := hrow1.kept hg9 (by simp; omega)
      have h2' := hrow2.kept hg9 (by simp; omega)
      have hb9 := below_kept hbel hg9 hbel.size (by rintro k hk; cases hk; omega)
      clear hrow9 hg9
      go_roundg (gk - 1)
      case measure => have := HK.out; omega
      case rel => exact ⟨k + 1, by have := HK.out; show _ = _; omega, by omega, by go_num, HR.out, h1', h2', hb9⟩
    · have HK16 : Hid (k = 16) := by show _ = _; omega
      have HSL : Hid ((l.take 16).length = 16) := by show _ = _; rw [List.length_take, HL.out]; rfl
      rw [HK16.out, Nat.sub_self, List.replicate_zero, List.append_nil] at hrow
      generalize l.take 16 = bs at *
      go_wp2_with (first
        | (with_reducible refine wpList_load_all (o := ⟨some 15, _, _, _, _, _⟩) rfl _ _ rfl w2.heap.size rfl _ _ hrow _ Tryd.underlying76 rfl (b16_size bs HSL.out) ?_)
        | (with_reducible refine wpList_store_all (o := ⟨none, _, _, _, _, _⟩) rfl _ _ _ rfl w1.heap.size rfl _ _ hrow2 _ rfl (bvs_one _) (b16_zeros bs HSL.out) (b16_size bs HSL.out) ?_; intro w9 hrow9 hg9))
      have hload := run_loadVar_at (P := Tryd.prog) w9 76 ⟨w1.heap.size, 0, none⟩ (bvs bs) hrow9.cells _ Tryd.underlying76 rfl (b16_size bs HSL.out)
      exact bodyPost_ret (results_cell1 Tryd.results52 _ _ _ _ rfl hload) rfl ⟨rfl, below_kept hbel hg9 hbel.size (by rintro k hk; cases hk; omega)⟩

theorem arrayAt16 (w : World) (ad : Addr) (c : Nat) : (Instr.arrayAt 76 (.slice (some ad) 16 c)).run Tryd.prog w = .ok (.pointer (some ad)) w := by kernel_rfl
set_option maxRecDepth 100000 in
set_option maxHeartbeats 1000000 in
theorem shorten_any (l : List UInt8) (hl : l.length = 32) (w : World) : Calls Tryd.prog 82 #[.agg (bvs l).toArray] w (GivesV (.agg (bvs (l.take 16)).toArray) w) := by
  have HL := Lib.hid hl
  clear hl
  have HSL : Hid ((l.take 16).length = 16) := by show _ = _; rw [List.length_take, HL.out]; rfl
  have harr := fun W => arrayAt16 W ⟨w.heap.size, 0, none⟩ 32
  go_enter Tryd.func82, Tryd.ntmps82
  go_wp2_with (first
    | (with_reducible refine wpList_box_row (o := ⟨some 1, _, _, _, _, _⟩) rfl _ _ rfl (bvs l) rfl ?_; intro w1 hrow1 hs1 hg1)
    | (with_reducible refine wpList_alloc_row (o := ⟨some 2, _, _, _, _, _⟩) rfl _ rfl zeros16 zero_b16 ?_; intro w2 hrow2 hs2 hg2; have hrow1' := hrow1.kept hg2 (by simp))
    | (with_reducible refine wpList_load_at (o := ⟨some 5, _, _, _, _, _⟩) rfl _ _ rfl ⟨w.heap.size, 0, none⟩ rfl (bvs (l.take 16)) (fun j u hu => hrow1'.cells j u (by unfold bvs at hu ⊢; rw [List.map_take, List.getElem?_take] at hu; split at hu; exact hu; cases hu)) _ Tryd.underlying76 rfl (b16_size _ HSL.out) ?_)
    | (with_reducible refine wpList_store_all (o := ⟨none, _, _, _, _, _⟩) rfl _ _ _ rfl w1.heap.size rfl _ _ hrow2 _ rfl (bvs_one _) (b16_zeros _ HSL.out) (b16_size _ HSL.out) ?_; intro w9 hrow9 hg9))
  have hload := run_loadVar_at (P := Tryd.prog) w9 76 ⟨w1.heap.size, 0, none⟩ (bvs (l.take 16)) hrow9.cells _ Tryd.underlying76 rfl (b16_size _ HSL.out)
  exact bodyPost_ret (results_cell1 Tryd.results82 _ _ _ _ rfl hload) rfl ⟨rfl, below_kept (below_kept (grown_below hg1 (Nat.le_refl _) (by simp)) hg2 (by omega) (by simp)) hg9 (by omega) (by rintro k hk; cases hk; omega)⟩
end Go.Proofs.YtfclifolniefpaaDoor
