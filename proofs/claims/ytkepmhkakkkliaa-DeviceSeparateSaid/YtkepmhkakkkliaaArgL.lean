/-
  A law's arguments of type api.Flash and []uint8, opened. Over any program. No condition.
-/
import Derived.Test.YtkepmhkakkkliaaArgU
import Derived.Test.YtkepmhkakkkliaaFlK
namespace Go.Proofs.Ytkepmhkakkkliaa
open Go.RowKit Go.ChangeShapes Go.WideShapes Go.ChangeAt Go.Deep

section
variable {H : Type} {enc : TypeId × Value → H} {P : Program} {W : World}
theorem strs_of_cells {a : Addr} : ∀ (k : Nat), (∀ i, i < k → ∃ s : ByteArray, W.cell? (a.add i) = some (.string s) ∧ s.size ≤ maxLen) →
    ∃ ss : List ByteArray, ss.length = k ∧ (∀ s ∈ ss, s.size ≤ maxLen) ∧ ∀ j u, (svs ss)[j]? = some u → W.cell? (a.add j) = some u
  | 0, _ => ⟨[], rfl, fun s hs => by simp at hs, fun j u hu => by simp [svs] at hu⟩
  | k + 1, h => by
    obtain ⟨ss, h1, h2, h3⟩ := strs_of_cells k fun i hi => h i (by omega)
    obtain ⟨s, h4, h5⟩ := h k (by omega)
    refine ⟨ss ++ [s], by simp [h1], ?_, fun j u hu => ?_⟩
    · intro x hx
      rcases List.mem_append.1 hx with hx | hx
      · exact h2 x hx
      · simp at hx; rw [hx]; exact h5
    · unfold svs at hu h3
      rw [List.map_append] at hu
      rcases Nat.lt_or_ge j k with hj | hj
      · rw [List.getElem?_append_left (by rw [List.length_map]; omega)] at hu
        exact h3 j u hu
      · rw [List.getElem?_append_right (by rw [List.length_map]; omega), List.length_map, h1] at hu
        obtain rfl : j = k := by
          rcases Nat.lt_or_ge k j with h | h
          · rw [List.getElem?_eq_none (by simp; omega)] at hu; cases hu
          · omega
        simp at hu
        rw [← hu]
        exact h4
theorem strs_of_trod {t e : TypeId} {cs : List Value} {fuel : Nat} {x : DataW H × List MemPlace} (ht : P.underlying t = some (.slice e)) (he : P.underlying e = some .string) (hc : P.cellsOf e = 1)
    (hf : DataW.trod enc P W 0 (fun _ => true) true fuel t cs = some x) : ∃ A n c fs, cs = [.slice A n c] ∧ FlOK W A n c fs := by
  rcases open_slice ht hf with ⟨hcs, hx⟩ | ⟨a, l, c', m, q, D, Pl, hcs, _, hl, hm, hmm, hx, hel⟩
  · exact ⟨none, 0, 0, [], hcs, Reads.nil_, Nat.le_refl _, Nat.zero_le _, fun s hs => by simp at hs⟩
  · simp at hmm
    subst hmm
    obtain ⟨ss, h1, h2, h3⟩ := strs_of_cells (W := W) (a := a) l (fun i hi => by
      obtain ⟨cs', g1, g2⟩ := hel i (by omega)
      rw [hc] at g1
      obtain ⟨_, g4, g5⟩ := World.cells?_some g1
      obtain ⟨s, g6, _, g7⟩ := DataW.trod_string he g2
      refine ⟨s, ?_, g7⟩
      have := g5 0 (by omega)
      rw [add_of_add] at this
      rw [Nat.mul_one, Nat.add_zero] at this
      rw [this, g6]
      rfl)
    refine ⟨some a, l, _, ss, hcs, ⟨by rw [svs_len, h1, Nat.mul_one], fun hn => ⟨a, rfl, ?_, h3⟩⟩, hl, Nat.le_trans hl hm, fun s hs => Nat.le_trans (h2 s hs) (show maxLen ≤ 9223372036854775807 by decide)⟩
    obtain ⟨cs', g1, _⟩ := hel 0 (by omega)
    rw [hc] at g1
    have := World.cells?_block g1 (by omega)
    rwa [block_of_add] at this
theorem field_flash {m : Nat} {fs : Array Field} {cs : List Value} (hF : Fielded enc P W m fs cs) (j off : Nat) {t e s : TypeId} {f0 : Field} (hf : ∃ f, fs[j]? = some f ∧ f.type = s ∧ f.offset = off) (hs : P.underlying s = some (.struct #[f0])) (hcs : P.cellsOf s = 1) (h0 : f0.type = t ∧ f0.offset = 0)
    (ht : P.underlying t = some (.slice e)) (hct : P.cellsOf t = 1) (he : P.underlying e = some .string) (hc : P.cellsOf e = 1) : ∃ A n c l, (cs.drop off).take 1 = [.slice A n c] ∧ FlOK W A n c l := by
  obtain ⟨hl, m', hm⟩ := field_struct hF j off 1 hf hs hcs
  obtain ⟨y, hy⟩ := hm 0 f0 rfl
  rw [h0.1, h0.2, hct, List.drop_zero, List.take_of_length_le (by omega)] at hy
  exact strs_of_trod ht he hc hy
theorem arg_u8s {t e : TypeId} {v : Value} {d : DataW H} {p : List MemPlace} {r : Reach} {b : Nat} (ht : P.underlying t = some (.slice e)) (he : P.underlying e = some (.int .u8)) (hc : P.cellsOf e = 1)
    (hok : Value.okWide P W r b t v) (h : DataW.Trod enc P W 0 (fun _ => true) true t v d p) : ∃ A n c l, v = .slice A n c ∧ Reads W W.heap.size 1 A n (bvs l) := by
  obtain ⟨A, n, c, rfl⟩ := okWide_slice ht hok
  obtain ⟨fuel, hf⟩ := h
  rcases open_ints ht he hc hf with ⟨hcs, hx⟩ | ⟨a, l, c', zs, hcs, _, hl, hm, hz2, hx, hcell, hwz⟩
  · simp [Value.cells] at hcs
    obtain ⟨rfl, rfl, rfl⟩ := hcs
    exact ⟨none, 0, 0, [], rfl, Reads.nil_⟩
  · simp [Value.cells] at hcs
    obtain ⟨rfl, rfl, rfl⟩ := hcs
    simp at hz2
    obtain ⟨bs, hbs⟩ := bytes_of_wf (zs.take n) fun x hx => hwz x (List.mem_of_mem_take hx)
    exact ⟨some a, n, c, bs, rfl, by rw [← hbs]; exact reads_of_cells (by omega) hcell⟩
theorem u8_of {x : Nat} (h : x ≤ 255) : ∃ b : UInt8, x = b.toNat := ⟨UInt8.ofNat x, by simp; omega⟩
end
end Go.Proofs.Ytkepmhkakkkliaa
