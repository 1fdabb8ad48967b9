/-
  A law's arguments of types api.Fuses, []Hit, []int, opened. Over any program. No condition.
-/
import Derived.Test.YtkepmhkakkkliaaArgsB
import Derived.Test.YtkepmhkakkkliaaFuH
import Derived.Test.YtkepmhkakkkliaaFuN
import Derived.Deep.Slices
import Derived.Lib.SmallJoins
namespace Go.Proofs.Ytkepmhkakkkliaa
open Go.RowKit Go.ChangeShapes Go.WideShapes Go.ChangeAt Go.Deep

section
variable {H : Type} {enc : TypeId × Value → H} {P : Program} {W : World}
theorem partF_of_trod {t e : TypeId} {fuel : Nat} {cs : List Value} {x : DataW H × List MemPlace} (ht : P.underlying t = some (.slice e)) (he : P.underlying e = some (.int .u8)) (hc : P.cellsOf e = 1)
    (h : DataW.trod enc P W 0 (fun _ => true) true fuel t cs = some x) : ∃ p : Part, cs = [p.v] ∧ PartOK W W.heap.size p ∧ p.n ≤ maxLen := by
  rcases open_ints ht he hc h with ⟨rfl, hx⟩ | ⟨a, l, c', zs, rfl, _, hl, hm, hz2, hx, hcell, hwz⟩
  · exact ⟨⟨none, 0, 0, []⟩, rfl, ⟨Reads.nil_, Nat.le_refl _⟩, Nat.zero_le _⟩
  · simp at hz2
    obtain ⟨bs, hbs⟩ := bytes_of_wf (zs.take l) fun x hx => hwz x (List.mem_of_mem_take hx)
    exact ⟨⟨some a, l, c', bs⟩, rfl, ⟨by show Reads _ _ 1 (some a) l (bvs bs); rw [← hbs]; exact reads_of_cells (by omega) hcell, hl⟩, Nat.le_trans hl hm⟩
theorem partsF_of_cells {a : Addr} : ∀ (k : Nat), (∀ i, i < k → ∃ p : Part, W.cell? (a.add i) = some p.v ∧ PartOK W W.heap.size p ∧ p.n ≤ maxLen) →
    ∃ ps : List Part, ps.length = k ∧ (∀ p ∈ ps, PartOK W W.heap.size p ∧ p.n ≤ maxLen) ∧ ∀ j u, (ps.map Part.v)[j]? = some u → W.cell? (a.add j) = some u
  | 0, _ => ⟨[], rfl, fun d hd => by simp at hd, fun j u hu => by simp at hu⟩
  | k + 1, h => by
    obtain ⟨ps, h1, h2, h3⟩ := partsF_of_cells k fun i hi => h i (by omega)
    obtain ⟨p, h4, h5⟩ := h k (by omega)
    refine ⟨ps ++ [p], by simp [h1], ?_, fun j u hu => ?_⟩
    · intro x hx
      rcases List.mem_append.1 hx with hx | hx
      · exact h2 x hx
      · simp at hx; rw [hx]; exact h5
    · rw [List.map_append] at hu
      rcases Nat.lt_or_ge j k with hj | hj
      · rw [List.getElem?_append_left (by rw [List.length_map]; omega)] at hu
        exact h3 j u hu
      · rw [List.getElem?_append_right (by rw [List.length_map]; omega), List.length_map, h1] at hu
        obtain rfl : j = k := by
          rcases Nat.lt_or_ge k j with h | h
          · rw [List.getElem?_eq_none (by simp; omega)] at hu; cases hu
          · omega
        simp at hu
        rw [← hu]
        exact h4
theorem banks_of_trod {t e u : TypeId} {cs : List Value} {fuel : Nat} {x : DataW H × List MemPlace} (ht : P.underlying t = some (.slice e)) (he : P.underlying e = some (.slice u)) (hu : P.underlying u = some (.int .u8)) (hc : P.cellsOf e = 1) (hcu : P.cellsOf u = 1)
    (hf : DataW.trod enc P W 0 (fun _ => true) true fuel t cs = some x) : ∃ A n c ps, cs = [.slice A n c] ∧ FuOK W A n c ps ∧ n ≤ maxLen := by
  rcases open_slice ht hf with ⟨hcs, hx⟩ | ⟨a, l, c', m, q, D, Pl, hcs, _, hl, hm, hmm, hx, hel⟩
  · exact ⟨none, 0, 0, [], hcs, ⟨⟨Reads.nil_, fun p hp => by simp at hp⟩, Nat.le_refl _, fun p hp => by simp at hp⟩, Nat.zero_le _⟩
  · simp at hmm
    subst hmm
    obtain ⟨ps, h1, h2, h3⟩ := partsF_of_cells (W := W) (a := a) l (fun i hi => by
      obtain ⟨cs', g1, g2⟩ := hel i (by omega)
      rw [hc] at g1
      obtain ⟨_, g4, g5⟩ := World.cells?_some g1
      obtain ⟨p, g6, g7, g8⟩ := partF_of_trod he hu hcu g2
      refine ⟨p, ?_, g7, g8⟩
      have := g5 0 (by omega)
      rw [add_of_add] at this
      rw [Nat.mul_one, Nat.add_zero] at this
      rw [this, g6]
      rfl)
    refine ⟨some a, l, _, ps, hcs, ⟨⟨⟨by rw [List.length_map, h1, Nat.mul_one], fun hn => ⟨a, rfl, ?_, h3⟩⟩, fun p hp => (h2 p hp).1⟩, hl, fun p hp => (h2 p hp).2⟩, Nat.le_trans hl hm⟩
    obtain ⟨cs', g1, _⟩ := hel 0 (by omega)
    rw [hc] at g1
    have := World.cells?_block g1 (by omega)
    rwa [block_of_add] at this
theorem arg_fuses {t e u s : TypeId} {f0 : Field} {v : Value} {d : DataW H} {p : List MemPlace} {r : Reach} {b : Nat} (hs : P.underlying s = some (.struct #[f0])) (hcs : P.cellsOf s = 1) (hf0 : f0.type = t) (ho : f0.offset = 0) (hct : P.cellsOf t = 1)
    (ht : P.underlying t = some (.slice e)) (he : P.underlying e = some (.slice u)) (hu : P.underlying u = some (.int .u8)) (hc : P.cellsOf e = 1) (hcu : P.cellsOf u = 1)
    (hok : Value.okWide P W r b s v) (h : DataW.Trod enc P W 0 (fun _ => true) true s v d p) : ∃ A n c ps, v = fuv A n c ∧ FuOK W A n c ps ∧ n ≤ maxLen := by
  obtain ⟨cs, rfl, hsz⟩ := okWide_struct hs hok
  obtain ⟨fuel, hf⟩ := h
  obtain ⟨xs, m, _, _, _, hlen, hx⟩ := DataW.trod_struct hs hf
  have h1 := hx 0 f0 rfl
  rw [hf0, ho, hct, List.drop_zero] at h1
  have hlen1 : (Value.agg cs).cells.toList.length = 1 := by show cs.toList.length = 1; rw [Array.length_toList, hsz, hcs]
  rw [List.take_of_length_le (by omega)] at h1
  obtain ⟨A, n, c, ps, e1, e2, e3⟩ := banks_of_trod ht he hu hc hcu (h1.trans (List.getElem?_eq_getElem (by simp at hlen; omega)))
  refine ⟨A, n, c, ps, ?_, e2, e3⟩
  unfold fuv
  congr 1
  have e4 : cs.toList = [.slice A n c] := e1
  exact Array.ext' e4
theorem bool_of_trod {t : TypeId} {fuel : Nat} {cs : List Value} {x : DataW H × List MemPlace} (ht : P.underlying t = some .bool) (h : DataW.trod enc P W 0 (fun _ => true) true fuel t cs = some x) : ∃ z, cs = [.bool z] := by
  obtain ⟨z, e, _⟩ := DataW.trod_bool ht h
  exact ⟨z, e⟩
theorem hitF_of_trod {s ti tb : TypeId} {f0 f1 f2 : Field} {fuel : Nat} {cs : List Value} {x : DataW H × List MemPlace} (hs : P.underlying s = some (.struct #[f0, f1, f2])) (h0 : f0.type = ti ∧ f0.offset = 0) (h1 : f1.type = ti ∧ f1.offset = 1) (h2 : f2.type = tb ∧ f2.offset = 2)
    (hi : P.underlying ti = some (.int .i64)) (hb : P.underlying tb = some .bool) (ci : P.cellsOf ti = 1) (cb : P.cellsOf tb = 1) (hl : cs.length = 3) (h : DataW.trod enc P W 0 (fun _ => true) true fuel s cs = some x) : ∃ y : FHit, cs = hv y := by
  obtain ⟨xs, m, _, _, _, hlen, hx⟩ := DataW.trod_struct hs h
  have g0 := hx 0 f0 rfl
  have g1 := hx 1 f1 rfl
  have g2 := hx 2 f2 rfl
  rw [h0.1, h0.2, ci] at g0
  rw [h1.1, h1.2, ci] at g1
  rw [h2.1, h2.2, cb] at g2
  simp at hlen
  obtain ⟨a, b, c, rfl⟩ : ∃ a b c, cs = [a, b, c] := by
    match cs, hl with
    | [a, b, c], _ => exact ⟨a, b, c, rfl⟩
  obtain ⟨n0, e0, _, _⟩ := DataW.trod_int hi (g0.trans (List.getElem?_eq_getElem (by omega)))
  obtain ⟨n1, e1, _, _⟩ := DataW.trod_int hi (g1.trans (List.getElem?_eq_getElem (by omega)))
  obtain ⟨z, e2⟩ := bool_of_trod hb (g2.trans (List.getElem?_eq_getElem (by omega)))
  obtain rfl := (List.cons.inj e0).1
  obtain rfl := (List.cons.inj e1).1
  obtain rfl := (List.cons.inj e2).1
  exact ⟨⟨n0, n1, z⟩, rfl⟩
theorem hitsF_of_cells {a : Addr} : ∀ (k : Nat), (∀ i, i < k → ∃ y : FHit, ∀ j u, (hv y)[j]? = some u → W.cell? (a.add (i * 3 + j)) = some u) →
    ∃ ys : List FHit, ys.length = k ∧ ∀ j u, (hvs ys)[j]? = some u → W.cell? (a.add j) = some u
  | 0, _ => ⟨[], rfl, fun j u hu => by simp [hvs] at hu⟩
  | k + 1, h => by
    obtain ⟨ys, h1, h3⟩ := hitsF_of_cells k fun i hi => h i (by omega)
    obtain ⟨y, h5⟩ := h k (by omega)
    refine ⟨ys ++ [y], by simp [h1], fun j u hu => ?_⟩
    have hfl : (hvs ys).length = k * 3 := by rw [hvs_len, h1]
    rw [hvs_app] at hu
    rcases Nat.lt_or_ge j (k * 3) with hj | hj
    · rw [List.getElem?_append_left (by omega)] at hu
      exact h3 j u hu
    · rw [List.getElem?_append_right (by omega), hfl] at hu
      have hu' : (hv y)[j - k * 3]? = some u := by
        have : hvs [y] = hv y := by show hv y ++ [] = hv y; rw [List.append_nil]
        rw [this] at hu
        exact hu
      have := h5 (j - k * 3) u hu'
      rwa [show k * 3 + (j - k * 3) = j from by omega] at this
theorem arg_hits {t s ti tb : TypeId} {f0 f1 f2 : Field} {v : Value} {d : DataW H} {p : List MemPlace} {r : Reach} {b : Nat} (ht : P.underlying t = some (.slice s)) (hs : P.underlying s = some (.struct #[f0, f1, f2])) (hcs : P.cellsOf s = 3)
    (h0 : f0.type = ti ∧ f0.offset = 0) (h1 : f1.type = ti ∧ f1.offset = 1) (h2 : f2.type = tb ∧ f2.offset = 2) (hi : P.underlying ti = some (.int .i64)) (hb : P.underlying tb = some .bool) (ci : P.cellsOf ti = 1) (cb : P.cellsOf tb = 1)
    (hok : Value.okWide P W r b t v) (h : DataW.Trod enc P W 0 (fun _ => true) true t v d p) : ∃ L m d' ys, v = .slice L m d' ∧ Reads W W.heap.size 3 L m (hvs ys) ∧ m ≤ maxLen := by
  obtain ⟨A, n, c, rfl⟩ := okWide_slice ht hok
  obtain ⟨fuel, hf⟩ := h
  rcases open_slice ht hf with ⟨hcs', hx⟩ | ⟨a, l, c', m, q, D, Pl, hcs', _, hl, hm, hmm, hx, hel⟩
  · simp [Value.cells] at hcs'
    obtain ⟨rfl, rfl, rfl⟩ := hcs'
    exact ⟨none, 0, 0, [], rfl, Reads.nil_, Nat.zero_le _⟩
  · simp [Value.cells] at hcs'
    obtain ⟨rfl, rfl, rfl⟩ := hcs'
    simp at hmm
    subst hmm
    obtain ⟨ys, g1, g3⟩ := hitsF_of_cells (W := W) (a := a) n (fun i hi' => by
      obtain ⟨cs', k1, k2⟩ := hel i (by omega)
      rw [hcs] at k1
      obtain ⟨_, k4, k5⟩ := World.cells?_some k1
      obtain ⟨y, k6⟩ := hitF_of_trod hs h0 h1 h2 hi hb ci cb k4 k2
      refine ⟨y, fun j u hj => ?_⟩
      have hj3 : j < 3 := by
        rcases Nat.lt_or_ge j 3 with h | h
        · exact h
        · rw [List.getElem?_eq_none (by show 3 ≤ j; omega)] at hj; cases hj
      have := k5 j hj3
      rw [add_of_add] at this
      rw [this, k6]
      exact hj)
    refine ⟨some a, n, _, ys, rfl, ⟨by rw [hvs_len, g1], fun hn => ⟨a, rfl, ?_, g3⟩⟩, Nat.le_trans hl hm⟩
    obtain ⟨cs', k1, _⟩ := hel 0 (by omega)
    rw [hcs] at k1
    have := World.cells?_block k1 (by omega)
    rwa [block_of_add] at this
theorem arg_intz {t e : TypeId} {v : Value} {d : DataW H} {p : List MemPlace} {r : Reach} {b : Nat} (ht : P.underlying t = some (.slice e)) (he : P.underlying e = some (.int .i64)) (hc : P.cellsOf e = 1)
    (hok : Value.okWide P W r b t v) (h : DataW.Trod enc P W 0 (fun _ => true) true t v d p) : ∃ A n c l, v = .slice A n c ∧ Reads W W.heap.size 1 A n (ivz l) ∧ n ≤ maxLen := by
  obtain ⟨A, n, c, rfl⟩ := okWide_slice ht hok
  obtain ⟨fuel, hf⟩ := h
  rcases open_ints ht he hc hf with ⟨hcs, hx⟩ | ⟨a, l, c', zs, hcs, _, hl, hm, hz2, hx, hcell, hwz⟩
  · simp [Value.cells] at hcs
    obtain ⟨rfl, rfl, rfl⟩ := hcs
    exact ⟨none, 0, 0, [], rfl, Reads.nil_, Nat.zero_le _⟩
  · simp [Value.cells] at hcs
    obtain ⟨rfl, rfl, rfl⟩ := hcs
    simp at hz2
    exact ⟨some a, n, c, zs.take n, rfl, reads_of_cells (by omega) hcell, Nat.le_trans hl hm⟩
end
end Go.Proofs.Ytkepmhkakkkliaa
