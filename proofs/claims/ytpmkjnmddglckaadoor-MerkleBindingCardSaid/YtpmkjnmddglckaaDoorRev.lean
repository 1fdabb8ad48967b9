/-
  What slices.Reverse does to a slice of bools of the call's own: a contract by a walk. Condition: at most 1000 elements.
-/
import Derived.Test.YtpmkjnmddglckaaDoorTree
import Derived.Deep.Heap
namespace Go.Proofs.YtpmkjnmddglckaaDoor
open Go.RowKit

theorem Row.setCell {w : World} {g : Nat} {e : TypeId} {cs : List Value} (h : Row w g e cs) (j : Nat) (u : Value) : Row (w.setCell ⟨g, j, none⟩ u) g e (cs.set j u) := by
  unfold Row at h ⊢
  simp [World.setCell, Array.getElem?_modify, h]
theorem grown_setCell (w : World) (g j : Nat) (u : Value) : w.grownBy (w.setCell ⟨g, j, none⟩ u) (some g) :=
  ⟨rfl, rfl, rfl, by simp, fun k _ hk => Go.Deep.blk_setCell_other w _ u k (fun e => hk (by rw [e]))⟩

theorem grown_drew {a w : World} {row : Option Nat} (h : a.grownBy w row) : a.grownBy w.drew row := ⟨h.os, h.tape, h.output, h.size, h.block⟩
/-- The cells of bools. -/
def bls (l : List Bool) : List Value := l.map Value.bool
/-- The list whose ends have been exchanged i times. -/
def revK (l : List Bool) (i : Nat) : List Bool := (List.range l.length).map fun t => if t < i ∨ l.length - i ≤ t then l.getD (l.length - 1 - t) false else l.getD t false
theorem revK_len (l : List Bool) (i : Nat) : (revK l i).length = l.length := by simp [revK]
theorem revK_at (l : List Bool) (i : Nat) {t : Nat} (ht : t < l.length) : (revK l i)[t]? = some (if t < i ∨ l.length - i ≤ t then l.getD (l.length - 1 - t) false else l.getD t false) := by simp [revK, ht]
theorem revK_zero (l : List Bool) : revK l 0 = l := by
  refine List.ext_getElem? fun t => ?_
  by_cases ht : t < l.length
  · rw [revK_at l 0 ht, if_neg (by omega)]; simp [ht]
  · rw [List.getElem?_eq_none (by rw [revK_len]; omega), List.getElem?_eq_none (by omega)]
theorem revK_end (l : List Bool) {i : Nat} (h : l.length ≤ 2 * i + 1) : revK l i = l.reverse := by
  refine List.ext_getElem? fun t => ?_
  by_cases ht : t < l.length
  · rw [revK_at l i ht, List.getElem?_reverse ht]
    by_cases hc : t < i ∨ l.length - i ≤ t
    · rw [if_pos hc]; simp [show l.length - 1 - t < l.length by omega]
    · rw [if_neg hc, show l.length - 1 - t = t by omega]; simp [ht]
  · rw [List.getElem?_eq_none (by rw [revK_len]; omega), List.getElem?_eq_none (by rw [List.length_reverse]; omega)]
theorem revK_step (l : List Bool) {i j : Nat} (hij : i < j) (hj : i + j + 1 = l.length) (x y : Bool) (hx : (revK l i)[i]? = some x) (hy : (revK l i)[j]? = some y) : ((revK l i).set i y).set j x = revK l (i + 1) := by
  rw [revK_at l i (by omega), if_neg (by omega)] at hx hy
  simp only [Option.some.injEq] at hx hy
  refine List.ext_getElem? fun t => ?_
  by_cases ht : t < l.length
  · rw [revK_at l (i + 1) ht, List.getElem?_set, List.getElem?_set]
    by_cases h1 : j = t
    · subst h1
      rw [if_pos rfl, if_pos (by rw [List.length_set, revK_len]; omega), if_pos (by omega), show l.length - 1 - j = i by omega, ← hx]
    · rw [if_neg h1]
      by_cases h2 : i = t
      · subst h2
        rw [if_pos rfl, if_pos (by rw [revK_len]; omega), if_pos (by omega), show l.length - 1 - i = j by omega, ← hy]
      · rw [if_neg h2, revK_at l i ht]
        by_cases h3 : t < i ∨ l.length - i ≤ t
        · rw [if_pos h3, if_pos (by omega)]
        · rw [if_neg h3, if_neg (by omega)]
  · rw [List.getElem?_eq_none (by simp [revK_len]; omega), List.getElem?_eq_none (by rw [revK_len]; omega)]
theorem bls_get {l : List Bool} {t : Nat} {x : Bool} (h : l[t]? = some x) (r : List Value) : (bls l ++ r)[t]? = some (.bool x) := by
  have ht := (List.getElem?_eq_some_iff.1 h).1
  rw [List.getElem?_append_left (by simpa [bls] using ht)]
  simp [bls, h]
theorem bls_set {l : List Bool} {t : Nat} (h : t < l.length) (x : Bool) (r : List Value) : (bls l ++ r).set t (.bool x) = bls (l.set t x) ++ r := by
  rw [List.set_append_left _ _ (by simpa [bls] using h)]
  simp [bls, List.map_set]

set_option maxRecDepth 100000 in
set_option maxHeartbeats 1000000 in
theorem reverse_any (g n c : Nat) (l : List Bool) (r : List Value) (w : World) (hr : Row w g 4 (bls l ++ r)) (hl : l.length = n) (hn : n ≤ 1000) :
    Calls Tryd.prog 39 #[.slice (some ⟨g, 0, none⟩) n c] w fun e w' => e = .returned (.tuple #[]) ∧ Row w' g 4 (bls l.reverse ++ r) ∧ w.grownBy w' (some g) := by
  have HL := Lib.hid hl
  go_enter Tryd.func39, Tryd.ntmps39
  go_wp2_with fail
  go_loopg [2, 3] n (fun gk s2 s3 wr => ∃ i : Nat, s2 = .int .i64 (i : Int) ∧ s3 = .int .i64 ((n : Int) - 1 - i) ∧ n ≤ gk + i ∧ 2 * i ≤ n + 1 ∧ Row wr g 4 (bls (revK l i) ++ r) ∧ w.grownBy wr (some g))
  case atStart => exact ⟨0, rfl, by go_num, by omega, by omega, by rw [revK_zero]; exact hr, World.grownBy.refl _ _⟩
  case round =>
    obtain ⟨i, rfl, rfl, hg, h2, hrow, hgr⟩ := hrel
    by_cases hlt : 2 * i + 1 < n
    · obtain ⟨j, hj⟩ : ∃ j, i + j + 1 = n := ⟨n - 1 - i, by omega⟩
      have hij : i < j := by omega
      rw [show (n : Int) - 1 - i = (j : Int) by omega]
      obtain ⟨x, hx⟩ : ∃ x, (revK l i)[i]? = some x := ⟨_, List.getElem?_eq_getElem (by rw [revK_len, HL.out]; omega)⟩
      obtain ⟨y, hy⟩ : ∃ y, (revK l i)[j]? = some y := ⟨_, List.getElem?_eq_getElem (by rw [revK_len, HL.out]; omega)⟩
      have hci : wr.cell? ⟨g, i, none⟩ = some (.bool x) := hrow.cell (bls_get hx r)
      have hcj : wr.cell? ⟨g, j, none⟩ = some (.bool y) := hrow.cell (bls_get hy r)
      have hfi := hrow.free i
      have hfj := hrow.free j
      have HROW := Lib.hid hrow
      have hin : i < n := by omega
      have hjn : j < n := by omega
      clear hr hrow
      go_wp2_with fail
      go_region
      have hrow2 : Row ((wr.setCell ⟨g, i, none⟩ (.bool y)).setCell ⟨g, j, none⟩ (.bool x)).drew g 4 (bls (revK l (i + 1)) ++ r) := by
        have h := (HROW.out.setCell i (.bool y)).setCell j (.bool x)
        rw [bls_set (by rw [revK_len, HL.out]; omega), bls_set (by rw [List.length_set, revK_len, HL.out]; omega), revK_step l hij (by rw [HL.out]; omega) x y hx hy] at h
        exact h
      have hgr2 : w.grownBy ((wr.setCell ⟨g, i, none⟩ (.bool y)).setCell ⟨g, j, none⟩ (.bool x)).drew (some g) := grown_drew ((hgr.trans (grown_setCell wr g i _)).trans (grown_setCell _ g j _))
      generalize ((wr.setCell ⟨g, i, none⟩ (.bool y)).setCell ⟨g, j, none⟩ (.bool x)).drew = wn at *
      clear hci hcj hfi hfj HROW hx hy
      go_wp2_with fail
      go_roundg (gk - 1)
      case measure => omega
      case rel => exact ⟨i + 1, by go_num, by go_num, by omega, by omega, hrow2, hgr2⟩
    · go_wp2_with fail
      go_end0
      refine ⟨rfl, ?_, hgr⟩
      rw [← revK_end l (i := i) (by rw [HL.out]; omega)]
      exact hrow
end Go.Proofs.YtpmkjnmddglckaaDoor
