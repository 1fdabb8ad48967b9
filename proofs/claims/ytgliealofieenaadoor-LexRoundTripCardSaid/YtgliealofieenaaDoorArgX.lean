/-
  A law's argument of type []api.Token, opened. Over any program. No condition.
-/
import Derived.Test.YtgliealofieenaaDoorArgsB
import Derived.Test.YtgliealofieenaaDoorLxW
import Derived.Deep.Slices
import Derived.Lib.SmallJoins
set_option linter.unusedSimpArgs false
set_option linter.unusedVariables false
namespace Go.Proofs.YtgliealofieenaaDoor
open Go.RowKit Go.ChangeShapes Go.WideShapes Go.ChangeAt Go.Deep

section
variable {H : Type} {enc : TypeId × Value → H} {P : Program} {W : World}
theorem tkF_of_trod {s ti ts : TypeId} {f0 f1 f2 f3 : Field} {fuel : Nat} {cs : List Value} {x : DataW H × List MemPlace} (hs : P.underlying s = some (.struct #[f0, f1, f2, f3])) (h0 : f0.type = ti ∧ f0.offset = 0) (h1 : f1.type = ts ∧ f1.offset = 1) (h2 : f2.type = ti ∧ f2.offset = 2) (h3 : f3.type = ti ∧ f3.offset = 3)
    (hi : P.underlying ti = some (.int .i64)) (hb : P.underlying ts = some .string) (ci : P.cellsOf ti = 1) (cb : P.cellsOf ts = 1) (hl : cs.length = 4) (h : DataW.trod enc P W 0 (fun _ => true) true fuel s cs = some x) : ∃ y : Tk, cs = y.cs ∧ y.t.size ≤ maxLen := by
  obtain ⟨xs, m, _, _, _, hlen, hx⟩ := DataW.trod_struct hs h
  have g0 := hx 0 f0 rfl
  have g1 := hx 1 f1 rfl
  have g2 := hx 2 f2 rfl
  have g3 := hx 3 f3 rfl
  rw [h0.1, h0.2, ci] at g0
  rw [h1.1, h1.2, cb] at g1
  rw [h2.1, h2.2, ci] at g2
  rw [h3.1, h3.2, ci] at g3
  simp at hlen
  obtain ⟨a, b, c, d, rfl⟩ : ∃ a b c d, cs = [a, b, c, d] := by
    match cs, hl with
    | [a, b, c, d], _ => exact ⟨a, b, c, d, rfl⟩
  obtain ⟨n0, e0, _, _⟩ := DataW.trod_int hi (g0.trans (List.getElem?_eq_getElem (by omega)))
  obtain ⟨s1, e1, _, hsz⟩ := DataW.trod_string hb (g1.trans (List.getElem?_eq_getElem (by omega)))
  obtain ⟨n2, e2, _, _⟩ := DataW.trod_int hi (g2.trans (List.getElem?_eq_getElem (by omega)))
  obtain ⟨n3, e3, _, _⟩ := DataW.trod_int hi (g3.trans (List.getElem?_eq_getElem (by omega)))
  obtain rfl := (List.cons.inj e0).1
  obtain rfl := (List.cons.inj e1).1
  obtain rfl := (List.cons.inj e2).1
  obtain rfl := (List.cons.inj e3).1
  exact ⟨⟨n0, s1, n2, n3⟩, rfl, hsz⟩
theorem tks_lenX (a : List Tk) : (tks a).length = a.length * 4 := flT_len Tk.cs 4 Tk.cs_len a
theorem tksF_of_cells {a : Addr} : ∀ (k : Nat), (∀ i, i < k → ∃ y : Tk, y.t.size ≤ maxLen ∧ ∀ j u, y.cs[j]? = some u → W.cell? (a.add (i * 4 + j)) = some u) →
    ∃ ys : List Tk, ys.length = k ∧ (∀ y ∈ ys, y.t.size ≤ maxLen) ∧ ∀ j u, (tks ys)[j]? = some u → W.cell? (a.add j) = some u
  | 0, _ => ⟨[], rfl, fun y hy => by simp at hy, fun j u hu => by simp [tks] at hu⟩
  | k + 1, h => by
    obtain ⟨ys, h1, h2, h3⟩ := tksF_of_cells k fun i hi => h i (by omega)
    obtain ⟨y, h4, h5⟩ := h k (by omega)
    refine ⟨ys ++ [y], by simp [h1], ?_, fun j u hu => ?_⟩
    · intro z hz
      rcases List.mem_append.1 hz with hz | hz
      · exact h2 z hz
      · simp at hz; rw [hz]; exact h4
    have hfl : (tks ys).length = k * 4 := by rw [tks_lenX, h1]
    rw [tks_snoc] at hu
    rcases Nat.lt_or_ge j (k * 4) with hj | hj
    · rw [List.getElem?_append_left (by omega)] at hu
      exact h3 j u hu
    · rw [List.getElem?_append_right (by omega), hfl] at hu
      have := h5 (j - k * 4) u hu
      rwa [show k * 4 + (j - k * 4) = j from by omega] at this
theorem arg_toks {t s ti ts : TypeId} {f0 f1 f2 f3 : Field} {v : Value} {d : DataW H} {p : List MemPlace} {r : Reach} {b : Nat} (ht : P.underlying t = some (.slice s)) (hs : P.underlying s = some (.struct #[f0, f1, f2, f3])) (hcs : P.cellsOf s = 4)
    (h0 : f0.type = ti ∧ f0.offset = 0) (h1 : f1.type = ts ∧ f1.offset = 1) (h2 : f2.type = ti ∧ f2.offset = 2) (h3 : f3.type = ti ∧ f3.offset = 3) (hi : P.underlying ti = some (.int .i64)) (hb : P.underlying ts = some .string) (ci : P.cellsOf ti = 1) (cb : P.cellsOf ts = 1)
    (hok : Value.okWide P W r b t v) (h : DataW.Trod enc P W 0 (fun _ => true) true t v d p) : ∃ L m d' ys, v = .slice L m d' ∧ Reads W W.heap.size 4 L m (tks ys) ∧ m ≤ d' ∧ m ≤ maxLen ∧ ∀ y ∈ ys, y.t.size ≤ maxLen := by
  obtain ⟨A, n, c, rfl⟩ := okWide_slice ht hok
  obtain ⟨fuel, hf⟩ := h
  rcases open_slice ht hf with ⟨hcs', hx⟩ | ⟨a, l, c', m, q, D, Pl, hcs', _, hl, hm, hmm, hx, hel⟩
  · simp [Value.cells] at hcs'
    obtain ⟨rfl, rfl, rfl⟩ := hcs'
    exact ⟨none, 0, 0, [], rfl, Reads.nil_, Nat.le_refl _, Nat.zero_le _, fun y hy => by simp at hy⟩
  · simp [Value.cells] at hcs'
    obtain ⟨rfl, rfl, rfl⟩ := hcs'
    simp at hmm
    subst hmm
    obtain ⟨ys, g1, g2, g3⟩ := tksF_of_cells (W := W) (a := a) n (fun i hi' => by
      obtain ⟨cs', k1, k2⟩ := hel i (by omega)
      rw [hcs] at k1
      obtain ⟨_, k4, k5⟩ := World.cells?_some k1
      obtain ⟨y, k6, k7⟩ := tkF_of_trod hs h0 h1 h2 h3 hi hb ci cb k4 k2
      refine ⟨y, k7, fun j u hj => ?_⟩
      have hj3 : j < 4 := by
        rcases Nat.lt_or_ge j 4 with h | h
        · exact h
        · rw [List.getElem?_eq_none (by show 4 ≤ j; omega)] at hj; cases hj
      have := k5 j hj3
      rw [add_of_add] at this
      rw [this, k6]
      exact hj)
    refine ⟨some a, n, _, ys, rfl, ⟨by rw [tks_lenX, g1], fun hn => ⟨a, rfl, ?_, g3⟩⟩, hl, Nat.le_trans hl hm, g2⟩
    obtain ⟨cs', k1, _⟩ := hel 0 (by omega)
    rw [hcs] at k1
    have := World.cells?_block k1 (by omega)
    rwa [block_of_add] at this
end
end Go.Proofs.YtgliealofieenaaDoor
