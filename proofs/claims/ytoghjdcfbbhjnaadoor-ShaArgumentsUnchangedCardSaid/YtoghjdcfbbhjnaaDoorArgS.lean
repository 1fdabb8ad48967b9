/-
  A law's argument that is a struct of four fields, each of one cell, opened. Over any program. No condition.
-/
import Derived.Test.YtoghjdcfbbhjnaaDoorArgP
import Derived.Lib.SmallJoins
namespace Go.Proofs.YtoghjdcfbbhjnaaDoor
open Go.RowKit Go.ChangeShapes Go.WideShapes Go.ChangeAt Go.Deep

theorem arr4 (cs : Array Value) (h : cs.size = 4) : ∃ a b c d, cs = #[a, b, c, d] := by
  obtain ⟨l⟩ := cs
  match l, h with
  | [a, b, c, d], _ => exact ⟨a, b, c, d, rfl⟩
section
variable {H : Type} {enc : TypeId × Value → H} {P : Program} {W : World}
theorem arg_four {t : TypeId} {f0 f1 f2 f3 : Field} {v : Value} {d : DataW H} {p : List MemPlace} {r : Reach} {b : Nat} (ht : P.underlying t = some (.struct #[f0, f1, f2, f3])) (hct : P.cellsOf t = 4)
    (h0 : f0.offset = 0) (h1 : f1.offset = 1) (h2 : f2.offset = 2) (h3 : f3.offset = 3) (e0 : P.cellsOf f0.type = 1) (e1 : P.cellsOf f1.type = 1) (e2 : P.cellsOf f2.type = 1) (e3 : P.cellsOf f3.type = 1)
    (hok : Value.okWide P W r b t v) (h : DataW.Trod enc P W 0 (fun _ => true) true t v d p) :
    ∃ c0 c1 c2 c3 m y0 y1 y2 y3, v = .agg #[c0, c1, c2, c3] ∧ DataW.trod enc P W 0 (fun _ => true) true m f0.type [c0] = some y0 ∧ DataW.trod enc P W 0 (fun _ => true) true m f1.type [c1] = some y1 ∧
      DataW.trod enc P W 0 (fun _ => true) true m f2.type [c2] = some y2 ∧ DataW.trod enc P W 0 (fun _ => true) true m f3.type [c3] = some y3 := by
  obtain ⟨cs, rfl, hs⟩ := okWide_struct ht hok
  obtain ⟨fuel, hf⟩ := h
  obtain ⟨c0, c1, c2, c3, rfl⟩ := arr4 cs (hs.trans hct)
  obtain ⟨y0, y1, y2, y3, m, _, _, t0, t1, t2, t3⟩ := Go.Joins.trod_struct4 ht hf
  rw [h0, e0] at t0
  rw [h1, e1] at t1
  rw [h2, e2] at t2
  rw [h3, e3] at t3
  exact ⟨c0, c1, c2, c3, m, y0, y1, y2, y3, rfl, t0, t1, t2, t3⟩
theorem arg_slices {t e u : TypeId} {c0 : Value} {fuel : Nat} {x : DataW H × List MemPlace} (ht : P.underlying t = some (.slice e)) (he : P.underlying e = some (.slice u)) (hu : P.underlying u = some (.int .u8)) (hc : P.cellsOf e = 1) (hcu : P.cellsOf u = 1)
    (hf : DataW.trod enc P W 0 (fun _ => true) true fuel t [c0] = some x) :
    ∃ A n c ps, c0 = .slice A n c ∧ n ≤ maxLen ∧ ReadsP W W.heap.size A n ps ∧ ∀ p ∈ ps, p.n ≤ maxLen := by
  rcases open_slice ht hf with ⟨hcs, hx⟩ | ⟨a, l, c', m, q, D, Pl, hcs, _, hl, hm, hmm, hx, hel⟩
  · obtain rfl := List.cons.inj hcs |>.1
    exact ⟨none, 0, 0, [], rfl, Nat.zero_le _, ⟨Reads.nil_, fun p hp => by simp at hp⟩, fun p hp => by simp at hp⟩
  · obtain rfl := List.cons.inj hcs |>.1
    simp at hmm
    subst hmm
    obtain ⟨ps, h1, h2, h3⟩ := parts_of_cells (W := W) (a := a) l (fun i hi => by
      obtain ⟨cs', g1, g2⟩ := hel i (by omega)
      rw [hc] at g1
      obtain ⟨_, g4, g5⟩ := World.cells?_some g1
      obtain ⟨p, g6, g7, g8⟩ := part_of_trod he hu hcu g2
      refine ⟨p, ?_, g7, g8⟩
      have := g5 0 (by omega)
      rw [add_of_add] at this
      rw [Nat.mul_one, Nat.add_zero] at this
      rw [this, g6]
      rfl)
    refine ⟨some a, l, _, ps, rfl, Nat.le_trans hl hm, ⟨⟨by rw [List.length_map, h1, Nat.mul_one], fun hn => ⟨a, rfl, ?_, h3⟩⟩, fun p hp => (h2 p hp).1⟩, fun p hp => (h2 p hp).2⟩
    obtain ⟨cs', g1, _⟩ := hel 0 (by omega)
    rw [hc] at g1
    have := World.cells?_block g1 (by omega)
    rwa [block_of_add] at this
end
end Go.Proofs.YtoghjdcfbbhjnaaDoor
