/-
  The arguments of layer 11's laws, opened: cells, sessions, slices of sessions, results within a struct. Over any program. No condition.
-/
import Derived.Test.YtfcbcclcmgheeaaArgU
import Derived.Test.YtfcbcclcmgheeaaRtZ
set_option linter.unusedSimpArgs false
set_option linter.unusedVariables false
namespace Go.Proofs.Ytfcbcclcmgheeaa
open Go.RowKit Go.ChangeShapes Go.WideShapes Go.ChangeAt Go.Deep

section
variable {H : Type} {enc : TypeId × Value → H} {P : Program} {W : World}
theorem u8s_of_trod {t e : TypeId} {cs : List Value} {fuel : Nat} {x : DataW H × List MemPlace} (ht : P.underlying t = some (.slice e)) (he : P.underlying e = some (.int .u8)) (hc : P.cellsOf e = 1)
    (hf : DataW.trod enc P W 0 (fun _ => true) true fuel t cs = some x) : ∃ A n c l, cs = [.slice A n c] ∧ Reads W W.heap.size 1 A n (bvs l) ∧ n ≤ 9223372036854775807 := by
  rcases open_ints ht he hc hf with ⟨hcs, hx⟩ | ⟨a, l, c', zs, hcs, _, hl, hm, hz2, hx, hcell, hwz⟩
  · exact ⟨none, 0, 0, [], hcs, Reads.nil_, by omega⟩
  · simp at hz2
    obtain ⟨bs, hbs⟩ := bytes_of_wf (zs.take l) fun x hx => hwz x (List.mem_of_mem_take hx)
    exact ⟨some a, l, _, bs, hcs, by rw [← hbs]; exact reads_of_cells (by omega) hcell, Nat.le_trans hl (Nat.le_trans hm (show maxLen ≤ 9223372036854775807 by decide))⟩
theorem arg_u8n {t e : TypeId} {v : Value} {d : DataW H} {p : List MemPlace} {r : Reach} {b : Nat} (ht : P.underlying t = some (.slice e)) (he : P.underlying e = some (.int .u8)) (hc : P.cellsOf e = 1)
    (hok : Value.okWide P W r b t v) (h : DataW.Trod enc P W 0 (fun _ => true) true t v d p) : ∃ A n c l, v = .slice A n c ∧ Reads W W.heap.size 1 A n (bvs l) ∧ n ≤ 9223372036854775807 := by
  obtain ⟨A, n, c, rfl⟩ := okWide_slice ht hok
  obtain ⟨fuel, hf⟩ := h
  obtain ⟨A', n', c', l, e1, h1, h2⟩ := u8s_of_trod ht he hc hf
  simp [Value.cells] at e1
  obtain ⟨rfl, rfl, rfl⟩ := e1
  exact ⟨_, _, _, l, rfl, h1, h2⟩
theorem bool_of_trod11 {t : TypeId} {cs : List Value} {fuel : Nat} {x : DataW H × List MemPlace} (ht : P.underlying t = some .bool) (hf : DataW.trod enc P W 0 (fun _ => true) true fuel t cs = some x) : ∃ z, cs = [.bool z] := by
  obtain ⟨z, h, _⟩ := DataW.trod_bool ht hf
  exact ⟨z, h⟩
theorem elems_of_cells11 {α : Type} {g : α → List Value} {m : Nat} (hg : ∀ a, (g a).length = m) {a : Addr} : ∀ (k : Nat), (∀ i, i < k → ∃ y : α, ∀ j u, (g y)[j]? = some u → W.cell? (a.add (i * m + j)) = some u) →
    ∃ ys : List α, ys.length = k ∧ ∀ j u, (ys.flatMap g)[j]? = some u → W.cell? (a.add j) = some u
  | 0, _ => ⟨[], rfl, fun j u hu => by simp at hu⟩
  | k + 1, h => by
    obtain ⟨ys, h1, h3⟩ := elems_of_cells11 hg k fun i hi => h i (by omega)
    obtain ⟨y, h5⟩ := h k (by omega)
    refine ⟨ys ++ [y], by simp [h1], fun j u hu => ?_⟩
    have hfl : (ys.flatMap g).length = k * m := by rw [flat_len g m hg, h1]
    rw [List.flatMap_append] at hu
    rcases Nat.lt_or_ge j (k * m) with hj | hj
    · rw [List.getElem?_append_left (by omega)] at hu
      exact h3 j u hu
    · rw [List.getElem?_append_right (by omega), hfl] at hu
      have hu' : (g y)[j - k * m]? = some u := by simpa using hu
      have := h5 (j - k * m) u hu'
      rwa [show k * m + (j - k * m) = j from by omega] at this
theorem elems_of_trod {α : Type} {g : α → List Value} {m : Nat} (hm0 : 0 < m) (hg : ∀ a, (g a).length = m) {t s : TypeId} {cs : List Value} {fuel : Nat} {x : DataW H × List MemPlace} (ht : P.underlying t = some (.slice s)) (hcs : P.cellsOf s = m)
    (hE : ∀ (fuel : Nat) (cs : List Value) (x : DataW H × List MemPlace), cs.length = m → DataW.trod enc P W 0 (fun _ => true) true fuel s cs = some x → ∃ y : α, cs = g y)
    (hf : DataW.trod enc P W 0 (fun _ => true) true fuel t cs = some x) : ∃ L n c, ∃ ys : List α, cs = [.slice L n c] ∧ Reads W W.heap.size m L n (ys.flatMap g) ∧ n ≤ c ∧ n ≤ 9223372036854775807 := by
  rcases open_slice ht hf with ⟨hcs', hx⟩ | ⟨a, n, c', k, q, D, Pl, hcs', _, hl, hm, hmm, hx, hel⟩
  · exact ⟨none, 0, 0, [], hcs', Reads.nil_, Nat.le_refl _, by omega⟩
  · simp at hmm
    subst hmm
    obtain ⟨ys, g1, g3⟩ := elems_of_cells11 (W := W) hg (a := a) n (fun i hi' => by
      obtain ⟨cs', k1, k2⟩ := hel i (by omega)
      rw [hcs] at k1
      obtain ⟨_, k4, k5⟩ := World.cells?_some k1
      obtain ⟨y, k6⟩ := hE _ _ _ k4 k2
      refine ⟨y, fun j u hj => ?_⟩
      have hj3 : j < m := by
        rcases Nat.lt_or_ge j m with h | h
        · exact h
        · rw [List.getElem?_eq_none (by rw [hg]; omega)] at hj; cases hj
      have := k5 j hj3
      rw [add_of_add] at this
      rw [this, k6]
      exact hj)
    refine ⟨some a, n, _, ys, hcs', ⟨by rw [flat_len g m hg, g1], fun hn => ⟨a, rfl, ?_, g3⟩⟩, hl, Nat.le_trans hl (Nat.le_trans hm (show maxLen ≤ 9223372036854775807 by decide))⟩
    obtain ⟨cs', k1, _⟩ := hel 0 (by omega)
    rw [hcs] at k1
    have := World.cells?_block k1 (by omega)
    rwa [block_of_add] at this
/-- A result. -/
theorem res_of_trod {s ti ts : TypeId} {fs : Array Field} {fuel : Nat} {cs : List Value} {x : DataW H × List MemPlace} (hs : P.underlying s = some (.struct fs)) (f0 : ∃ f, fs[0]? = some f ∧ f.type = ti ∧ f.offset = 0) (f1 : ∃ f, fs[1]? = some f ∧ f.type = ts ∧ f.offset = 1)
    (hi : P.underlying ti = some (.int .i64)) (ci : P.cellsOf ti = 1) (hb : P.underlying ts = some .string) (cb : P.cellsOf ts = 1) (hl : cs.length = 2) (h : DataW.trod enc P W 0 (fun _ => true) true fuel s cs = some x) : ∃ y : DvR, cs = y.cs := by
  obtain ⟨_, m, hF⟩ := fielded_of_trod hs h
  obtain ⟨n0, q0, _⟩ := field_int hF 0 0 f0 hi ci
  obtain ⟨s1, q1, _⟩ := field_str hF 1 1 f1 hb cb
  refine ⟨⟨n0, s1⟩, ?_⟩
  have e0 := cut_up cs 0 1 1 rfl
  rw [q0, cut_up cs 1 1 2 rfl, q1, cut_end cs hl] at e0
  exact e0
/-- A session. -/
theorem se_of_fields {m : Nat} {fs : Array Field} {cs : List Value} {tb tu tl : TypeId} (hF : Fielded enc P W m fs cs) (hl : cs.length = 3)
    (f0 : ∃ f, fs[0]? = some f ∧ f.type = tb ∧ f.offset = 0) (f1 : ∃ f, fs[1]? = some f ∧ f.type = tu ∧ f.offset = 1) (f2 : ∃ f, fs[2]? = some f ∧ f.type = tl ∧ f.offset = 2)
    (hb : P.underlying tb = some .bool) (cb : P.cellsOf tb = 1) (hu : P.underlying tu = some (.int .u8)) (cu : P.cellsOf tu = 1) (ht : P.underlying tl = some (.slice tu)) (ct : P.cellsOf tl = 1) :
    ∃ p : Se × List UInt8, cs = p.1.cs ∧ Reads W W.heap.size 1 p.1.A p.1.n (bvs p.2) ∧ p.1.n ≤ 9223372036854775807 := by
  obtain ⟨g0, j1, j2, j3⟩ := f0
  obtain ⟨y0, hy0⟩ := hF 0 g0 j1
  rw [j2, j3, cb] at hy0
  obtain ⟨z0, q0⟩ := bool_of_trod11 hb hy0
  obtain ⟨n1, q1, w1⟩ := field_int hF 1 1 f1 hu cu
  obtain ⟨g2, k1, k2, k3⟩ := f2
  obtain ⟨y2, hy2⟩ := hF 2 g2 k1
  rw [k2, k3, ct] at hy2
  obtain ⟨A, n, c, l, q2, hr, hn⟩ := u8s_of_trod ht hu cu hy2
  have hb1 := bounds_u8 w1
  refine ⟨(⟨z0, UInt8.ofNat n1.toNat, A, n, c⟩, l), ?_, hr, hn⟩
  have e0 := cut_up cs 0 1 1 rfl
  rw [q0, cut_up cs 1 1 2 rfl, q1, cut_up cs 2 1 3 rfl, q2, cut_end cs hl] at e0
  refine e0.trans ?_
  show [Value.bool z0, .int .u8 n1, .slice A n c] = [Value.bool z0, .int .u8 ((UInt8.ofNat n1.toNat).toNat : Int), .slice A n c]
  rw [show ((UInt8.ofNat n1.toNat).toNat : Int) = n1 by simp; omega]
/-- Sessions. -/
theorem arg_ses {t s tb tu tl : TypeId} {fs : Array Field} {v : Value} {d : DataW H} {p : List MemPlace} {r : Reach} {b : Nat} (ht : P.underlying t = some (.slice s)) (hs : P.underlying s = some (.struct fs)) (hcs : P.cellsOf s = 3)
    (f0 : ∃ f, fs[0]? = some f ∧ f.type = tb ∧ f.offset = 0) (f1 : ∃ f, fs[1]? = some f ∧ f.type = tu ∧ f.offset = 1) (f2 : ∃ f, fs[2]? = some f ∧ f.type = tl ∧ f.offset = 2)
    (hb : P.underlying tb = some .bool) (cb : P.cellsOf tb = 1) (hu : P.underlying tu = some (.int .u8)) (cu : P.cellsOf tu = 1) (htl : P.underlying tl = some (.slice tu)) (ct : P.cellsOf tl = 1)
    (hok : Value.okWide P W r b t v) (h : DataW.Trod enc P W 0 (fun _ => true) true t v d p) :
    ∃ A n c, ∃ ls : List (Se × List UInt8), v = .slice A n c ∧ Reads W W.heap.size 3 A n (ses ls) ∧ n ≤ 9223372036854775807 ∧ SesIn W ls ∧ ∀ p ∈ ls, p.1.n ≤ 9223372036854775807 := by
  obtain ⟨A, n, c, rfl⟩ := okWide_slice ht hok
  obtain ⟨fuel, hf⟩ := h
  obtain ⟨L, k, c', ys, e1, hr, _, hn⟩ := elems_of_trod (α := {p : Se × List UInt8 // Reads W W.heap.size 1 p.1.A p.1.n (bvs p.2) ∧ p.1.n ≤ 9223372036854775807}) (g := fun p => p.1.1.cs) (m := 3) (by decide) (fun p => p.1.1.cs_len) ht hcs
    (fun fuel cs x hl hf => by
      obtain ⟨_, m, hF⟩ := fielded_of_trod hs hf
      obtain ⟨p, h1, h2, h3⟩ := se_of_fields hF hl f0 f1 f2 hb cb hu cu htl ct
      exact ⟨⟨p, h2, h3⟩, h1⟩) hf
  simp [Value.cells] at e1
  obtain ⟨rfl, rfl, rfl⟩ := e1
  refine ⟨_, _, _, ys.map Subtype.val, rfl, ?_, hn, fun q hq => ?_, fun q hq => ?_⟩
  · unfold ses
    rw [List.flatMap_map]
    exact hr
  · obtain ⟨y, _, rfl⟩ := List.mem_map.1 hq
    exact y.2.1
  · obtain ⟨y, _, rfl⟩ := List.mem_map.1 hq
    exact y.2.2
/-- Results in a field. -/
theorem field_ress {m : Nat} {fs rs : Array Field} {cs : List Value} (hF : Fielded enc P W m fs cs) (j off : Nat) {t s ti ts : TypeId} (hf : ∃ f, fs[j]? = some f ∧ f.type = t ∧ f.offset = off) (hct : P.cellsOf t = 1) (ht : P.underlying t = some (.slice s)) (hs : P.underlying s = some (.struct rs)) (hcs : P.cellsOf s = 2)
    (f0 : ∃ f, rs[0]? = some f ∧ f.type = ti ∧ f.offset = 0) (f1 : ∃ f, rs[1]? = some f ∧ f.type = ts ∧ f.offset = 1) (hi : P.underlying ti = some (.int .i64)) (ci : P.cellsOf ti = 1) (hb : P.underlying ts = some .string) (cb : P.cellsOf ts = 1) :
    ∃ A n c, ∃ l : List DvR, (cs.drop off).take 1 = [.slice A n c] ∧ Reads W W.heap.size 2 A n (rrs l) ∧ n ≤ c ∧ n ≤ 9223372036854775807 := by
  obtain ⟨f, h1, h2, h3⟩ := hf
  obtain ⟨y, hy⟩ := hF j f h1
  rw [h2, h3, hct] at hy
  exact elems_of_trod (g := DvR.cs) (m := 2) (by decide) DvR.cs_len ht hcs (fun fuel cs x hl hf => res_of_trod hs f0 f1 hi ci hb cb hl hf) hy
theorem u8_of11 {x : Nat} (h : x ≤ 255) : ∃ b : UInt8, x = b.toNat := ⟨UInt8.ofNat x, by simp; omega⟩
end
end Go.Proofs.Ytfcbcclcmgheeaa
