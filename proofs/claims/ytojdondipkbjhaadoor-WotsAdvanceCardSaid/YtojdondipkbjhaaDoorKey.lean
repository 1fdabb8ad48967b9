/-
  What the reference's All and masked return: contracts by walks. Conditions: those of sha.Sum.
-/
import Derived.Test.YtojdondipkbjhaaDoorShort
namespace Go.Proofs.YtojdondipkbjhaaDoor
open Go.RowKit

set_option maxRecDepth 100000 in
set_option maxHeartbeats 1000000 in
theorem refAll_any (l : List UInt8) (hl : l.length = 32) (w : World) : Calls Tryd.prog 64 #[.agg (bvs l).toArray] w (Gives l w) := by
  obtain ⟨i0, hi0, hz0, hz1, hz2⟩ := info_parts info_u8
  have HL := Lib.hid hl
  clear hl
  go_enter Tryd.func64, Tryd.ntmps64
  go_wp2_with (with_reducible refine wpList_box_row (o := ⟨some 1, _, _, _, _, _⟩) rfl _ _ rfl (bvs l) rfl ?_; intro w1 hrow1 hs1 hg1)
  have hb1 : Below w.heap.size w w1 := grown_below hg1 (Nat.le_refl _) (by simp)
  clear hg1
  go_loopg [3, 4] 32 (fun g s3 s4 wr => ∃ k : Nat, Hid (k + g = 32) ∧ k ≤ 32 ∧ s4 = .int .i64 (k : Int) ∧ wr.ownsRow w1.heap.size 5 1 s3 k (bvs (l.take k)) ∧ Row wr w.heap.size 56 (bvs l) ∧ w1.heap.size ≤ wr.heap.size ∧ Below w.heap.size w wr)
  case atStart => exact ⟨0, rfl, by omega, rfl, World.ownsRow_nil _ _ _ _, hrow1, Nat.le_refl _, hb1⟩
  case round =>
    obtain ⟨k, HK, hk, rfl, hown, hrow, hsz, hbel⟩ := hrel
    by_cases hlt : k < 32
    · have hlk : k < l.length := by rw [HL.out]; exact hlt
      have hc := hrow.cell (j := k) (u := bv l[k]) (by unfold bvs; rw [List.getElem?_map, List.getElem?_eq_getElem hlk]; rfl)
      have HT : Hid (l.take (k + 1) = l.take k ++ [l[k]]) := by show _ = _; rw [List.take_add_one, List.getElem?_eq_getElem hlk]; rfl
      generalize l[k] = x at *
      unfold bv at hc
      go_wp2_with (at_builtin; refine wpList_append_src _ rfl (.tmp 9) (.tmp 13) _ _ rfl w1.heap.size 5 i0 _ 1 1 Tryd.underlying41 hi0 hz0 hz1 hz2 rfl _ _ _ rfl (hown.alloc _) 1 _ (Src.box Tryd.underlying41 _ _ _ rfl _) (by unfold maxLen; omega) (by omega) (by simp; omega) ?_; intro v3 w3 hown3 hb3)
      have hb13 : Below w1.heap.size wr w3 := ((Below.refl _ _).alloc hsz _).trans hb3
      go_roundg (gk - 1)
      case measure => have := HK.out; omega
      case rel =>
        refine ⟨k + 1, by have := HK.out; show _ = _; omega, by omega, by go_num, ?_, hrow.below hb13 (by omega), Nat.le_trans hsz hb13.size, hbel.trans (hb13.mono (by omega))⟩
        rw [HT.out, bvs_append]
        exact hown3
    · have HK32 : Hid (k = 32) := by show _ = _; omega
      go_wp2_with fail
      go_ret
      refine ⟨_, rfl, ?_, hbel⟩
      rw [HK32.out, List.take_of_length_le (by rw [HL.out]; exact Nat.le_refl _)] at hown
      exact own_base (own_len hown HL.out.symm) (by omega)

end Go.Proofs.YtojdondipkbjhaaDoor
