/-
  A law's argument of type [][]byte, opened: it reads as a list of parts. Over any program. No condition.
-/
import Derived.Test.YtoghjdcfbbhjnaaDoorArgsB
import Derived.Test.YtoghjdcfbbhjnaaDoorParts
import Derived.Deep.Slices
namespace Go.Proofs.YtoghjdcfbbhjnaaDoor
open Go.RowKit Go.ChangeShapes Go.WideShapes Go.ChangeAt Go.Deep
section
variable {H : Type} {enc : TypeId × Value → H} {P : Program} {W : World}
theorem part_of_trod {t e : TypeId} {fuel : Nat} {cs : List Value} {x : DataW H × List MemPlace} (ht : P.underlying t = some (.slice e)) (he : P.underlying e = some (.int .u8)) (hc : P.cellsOf e = 1)
    (h : DataW.trod enc P W 0 (fun _ => true) true fuel t cs = some x) : ∃ p : Part, cs = [p.v] ∧ PartOK W W.heap.size p ∧ p.n ≤ maxLen := by
  rcases open_ints ht he hc h with ⟨rfl, hx⟩ | ⟨a, l, c', zs, rfl, _, hl, hm, hz2, hx, hcell, hwz⟩
  · exact ⟨⟨none, 0, 0, []⟩, rfl, ⟨Reads.nil_, Nat.le_refl _⟩, Nat.zero_le _⟩
  · simp at hz2
    obtain ⟨bs, hbs⟩ := bytes_of_wf (zs.take l) fun x hx => hwz x (List.mem_of_mem_take hx)
    exact ⟨⟨some a, l, c', bs⟩, rfl, ⟨by show Reads _ _ 1 (some a) l (bvs bs); rw [← hbs]; exact reads_of_cells (by omega) hcell, hl⟩, Nat.le_trans hl hm⟩
theorem parts_of_cells {a : Addr} : ∀ (k : Nat), (∀ i, i < k → ∃ p : Part, W.cell? (a.add i) = some p.v ∧ PartOK W W.heap.size p ∧ p.n ≤ maxLen) →
    ∃ ps : List Part, ps.length = k ∧ (∀ p ∈ ps, PartOK W W.heap.size p ∧ p.n ≤ maxLen) ∧ ∀ j u, (ps.map Part.v)[j]? = some u → W.cell? (a.add j) = some u
  | 0, _ => ⟨[], rfl, fun d hd => by simp at hd, fun j u hu => by simp at hu⟩
  | k + 1, h => by
    obtain ⟨ps, h1, h2, h3⟩ := parts_of_cells k fun i hi => h i (by omega)
    obtain ⟨p, h4, h5⟩ := h k (by omega)
    refine ⟨ps ++ [p], by simp [h1], ?_, fun j u hu => ?_⟩
    · intro x hx
      rcases List.mem_append.1 hx with hx | hx
      · exact h2 x hx
      · simp at hx; rw [hx]; exact h5
    · rw [List.map_append] at hu
      rcases Nat.lt_or_ge j k with hj | hj
      · rw [List.getElem?_append_left (by rw [List.length_map]; omega)] at hu
        exact h3 j u hu
      · rw [List.getElem?_append_right (by rw [List.length_map]; omega), List.length_map, h1] at hu
        obtain rfl : j = k := by
          rcases Nat.lt_or_ge k j with h | h
          · rw [List.getElem?_eq_none (by simp; omega)] at hu; cases hu
          · omega
        simp at hu
        rw [← hu]
        exact h4
theorem arg_parts {t e u : TypeId} {v : Value} {d : DataW H} {p : List MemPlace} {r : Reach} {b : Nat} (ht : P.underlying t = some (.slice e)) (he : P.underlying e = some (.slice u)) (hu : P.underlying u = some (.int .u8)) (hc : P.cellsOf e = 1) (hcu : P.cellsOf u = 1) (hb : P.bytesOf e = 24)
    (hok : Value.okWide P W r b t v) (h : DataW.Trod enc P W 0 (fun _ => true) true t v d p) (hz : ∀ elems spare, d = .slice elems spare → (elems.length + spare.length) * P.bytesOf e ≤ reachBytes) :
    ∃ A n c ps, v = .slice A n c ∧ n ≤ c ∧ n ≤ 140737488351232 ∧ ReadsP W W.heap.size A n ps ∧ ∀ p ∈ ps, p.n ≤ maxLen := by
  obtain ⟨A, n, c, rfl⟩ := okWide_slice ht hok
  obtain ⟨fuel, hf⟩ := h
  rcases open_slice ht hf with ⟨hcs, hx⟩ | ⟨a, l, c', m, q, D, Pl, hcs, _, hl, hm, hmm, hx, hel⟩
  · simp [Value.cells] at hcs
    obtain ⟨rfl, rfl, rfl⟩ := hcs
    exact ⟨none, 0, 0, [], rfl, Nat.le_refl _, by omega, ⟨Reads.nil_, fun p hp => by simp at hp⟩, fun p hp => by simp at hp⟩
  · simp [Value.cells] at hcs
    obtain ⟨rfl, rfl, rfl⟩ := hcs
    simp only [Prod.mk.injEq] at hx
    simp at hmm
    subst hmm
    have hr := hz _ _ hx.1
    rw [hb] at hr
    simp only [List.length_map, List.length_range, reachBytes] at hr
    obtain ⟨ps, h1, h2, h3⟩ := parts_of_cells (W := W) (a := a) n (fun i hi => by
      obtain ⟨cs', g1, g2⟩ := hel i (by omega)
      rw [hc] at g1
      obtain ⟨_, g4, g5⟩ := World.cells?_some g1
      obtain ⟨p, g6, g7, g8⟩ := part_of_trod he hu hcu g2
      refine ⟨p, ?_, g7, g8⟩
      have := g5 0 (by omega)
      rw [add_of_add] at this
      rw [Nat.mul_one, Nat.add_zero] at this
      rw [this, g6]
      rfl)
    refine ⟨some a, _, _, ps, rfl, hl, by omega, ⟨⟨by rw [List.length_map, h1, Nat.mul_one], fun hn => ⟨a, rfl, ?_, h3⟩⟩, fun p hp => (h2 p hp).1⟩, fun p hp => (h2 p hp).2⟩
    obtain ⟨cs', g1, _⟩ := hel 0 (by omega)
    rw [hc] at g1
    have := World.cells?_block g1 (by omega)
    rwa [block_of_add] at this
end
end Go.Proofs.YtoghjdcfbbhjnaaDoor
