/-
  A law's arguments of types api.Hardware, api.Access, api.Fault and slices of these, opened. Over any program. No condition.
-/
import Derived.Test.YtkepmhkakkkliaaArgF
import Derived.Test.YtkepmhkakkkliaaArgL
import Derived.Test.YtkepmhkakkkliaaDvE
namespace Go.Proofs.Ytkepmhkakkkliaa
open Go.RowKit Go.ChangeShapes Go.WideShapes Go.ChangeAt Go.Deep

section
variable {H : Type} {enc : TypeId × Value → H} {P : Program} {W : World}
theorem field_bool {m : Nat} {fs : Array Field} {cs : List Value} (hF : Fielded enc P W m fs cs) (j off : Nat) {t : TypeId} (hf : ∃ f, fs[j]? = some f ∧ f.type = t ∧ f.offset = off) (ht : P.underlying t = some .bool) (hc : P.cellsOf t = 1) :
    ∃ z, (cs.drop off).take 1 = [.bool z] := by
  obtain ⟨f, h1, h2, h3⟩ := hf
  obtain ⟨y, hy⟩ := hF j f h1
  rw [h2, h3, hc] at hy
  exact bool_of_trod ht hy
theorem field_fuses {m : Nat} {fs : Array Field} {cs : List Value} (hF : Fielded enc P W m fs cs) (j off : Nat) {s t e u : TypeId} {f0 : Field} (hf : ∃ f, fs[j]? = some f ∧ f.type = s ∧ f.offset = off) (hs : P.underlying s = some (.struct #[f0])) (hcs : P.cellsOf s = 1) (h0 : f0.type = t ∧ f0.offset = 0)
    (hct : P.cellsOf t = 1) (ht : P.underlying t = some (.slice e)) (he : P.underlying e = some (.slice u)) (hu : P.underlying u = some (.int .u8)) (hc : P.cellsOf e = 1) (hcu : P.cellsOf u = 1) : ∃ A n c ps, (cs.drop off).take 1 = [.slice A n c] ∧ FuOK W A n c ps ∧ n ≤ maxLen := by
  obtain ⟨hl, m', hm⟩ := field_struct hF j off 1 hf hs hcs
  obtain ⟨y, hy⟩ := hm 0 f0 rfl
  rw [h0.1, h0.2, hct, List.drop_zero, List.take_of_length_le (by omega)] at hy
  exact banks_of_trod ht he hu hc hcu hy
theorem bvs_of_each9 : ∀ (cs : List Value), (∀ c ∈ cs, ∃ b, c = bv b) → ∃ d : List UInt8, cs = bvs d
  | [], _ => ⟨[], rfl⟩
  | c :: cs, h => by
    obtain ⟨d, hd⟩ := bvs_of_each9 cs fun x hx => h x (by simp [hx])
    obtain ⟨b, hb⟩ := h c (by simp)
    exact ⟨b :: d, by rw [hd, hb]; rfl⟩
theorem dig_of_trod9 {e u : TypeId} {base : Nat} {spare : Nat → Bool} {held : Bool} {fuel : Nat} {cs : List Value} {x : DataW H × List MemPlace} (he : P.underlying e = some (.array 16 u)) (hu : P.underlying u = some (.int .u8)) (hcu : P.cellsOf u = 1)
    (hl : cs.length = 16) (h : DataW.trod enc P W base spare held fuel e cs = some x) : ∃ d : List UInt8, cs = bvs d ∧ d.length = 16 := by
  obtain ⟨xs, m, _, _, _, hxl, hx⟩ := DataW.trod_array he h
  obtain ⟨d, hd⟩ := bvs_of_each9 cs (by
    intro c hc
    obtain ⟨j, hj, hjc⟩ := List.mem_iff_getElem.1 hc
    have h1 := hx j (by omega)
    rw [hcu, Nat.mul_one, List.getElem?_eq_getElem (by omega)] at h1
    obtain ⟨n, hn, _, hw⟩ := DataW.trod_int hu h1
    have hcj : cs[j] = .int .u8 n := by
      rw [List.drop_eq_getElem_cons hj, List.take_succ_cons, List.take_zero] at hn
      injection hn
    have hb := bounds_u8 hw
    refine ⟨UInt8.ofNat n.toNat, ?_⟩
    rw [← hjc, hcj]
    unfold bv
    congr 1
    simp
    omega)
  refine ⟨d, hd, ?_⟩
  rw [hd, bvs_length] at hl
  exact hl
theorem field_dig9 {m : Nat} {fs : Array Field} {cs : List Value} (hF : Fielded enc P W m fs cs) (j off : Nat) {t u : TypeId} (hf : ∃ f, fs[j]? = some f ∧ f.type = t ∧ f.offset = off) (ht : P.underlying t = some (.array 16 u)) (hu : P.underlying u = some (.int .u8)) (hc : P.cellsOf t = 16) (hcu : P.cellsOf u = 1) (hl : off + 16 ≤ cs.length) :
    ∃ l : List UInt8, (cs.drop off).take 16 = bvs l ∧ l.length = 16 := by
  obtain ⟨f, h1, h2, h3⟩ := hf
  obtain ⟨y, hy⟩ := hF j f h1
  rw [h2, h3, hc] at hy
  exact dig_of_trod9 ht hu hcu (by rw [List.length_take, List.length_drop]; omega) hy
theorem hw_of_fields {m : Nat} {fs : Array Field} {cs : List Value} {sf sl td u : TypeId} {tb eb ts es : TypeId} {g0 g1 : Field} (hF : Fielded enc P W m fs cs) (hl : cs.length = 18)
    (f0 : ∃ f, fs[0]? = some f ∧ f.type = sf ∧ f.offset = 0) (f1 : ∃ f, fs[1]? = some f ∧ f.type = sl ∧ f.offset = 1) (f2 : ∃ f, fs[2]? = some f ∧ f.type = td ∧ f.offset = 2)
    (hsf : P.underlying sf = some (.struct #[g0])) (csf : P.cellsOf sf = 1) (hg0 : g0.type = tb ∧ g0.offset = 0) (ctb : P.cellsOf tb = 1) (htb : P.underlying tb = some (.slice eb)) (heb : P.underlying eb = some (.slice u)) (hu : P.underlying u = some (.int .u8)) (ceb : P.cellsOf eb = 1) (cu : P.cellsOf u = 1)
    (hsl : P.underlying sl = some (.struct #[g1])) (csl : P.cellsOf sl = 1) (hg1 : g1.type = ts ∧ g1.offset = 0) (hts : P.underlying ts = some (.slice es)) (cts : P.cellsOf ts = 1) (hes : P.underlying es = some .string) (ces : P.cellsOf es = 1)
    (htd : P.underlying td = some (.array 16 u)) (ctd : P.cellsOf td = 16) : ∃ h : Hw, cs = h.cs ∧ HwOK W h := by
  obtain ⟨A, n, c, ps, q0, ok0, _⟩ := field_fuses hF 0 0 f0 hsf csf hg0 ctb htb heb hu ceb cu
  obtain ⟨B, m', d, l, q1, ok1⟩ := field_flash hF 1 1 f1 hsl csl hg1 hts cts hes ces
  obtain ⟨rt, q2, h16⟩ := field_dig9 hF 2 2 f2 htd hu ctd cu (by omega)
  refine ⟨⟨A, n, c, ps, B, m', d, l, rt⟩, ?_, ok0, ok1, h16⟩
  have e0 := cut_up cs 0 1 1 rfl
  rw [q0, cut_up cs 1 1 2 rfl, q1, cut_up cs 2 16 18 rfl, q2, cut_end cs hl] at e0
  exact e0.trans (by simp only [List.append_nil]; rfl)
theorem acc_of_fields {m : Nat} {fs : Array Field} {cs : List Value} {ti ts : TypeId} (hF : Fielded enc P W m fs cs) (hl : cs.length = 4)
    (f0 : ∃ f, fs[0]? = some f ∧ f.type = ti ∧ f.offset = 0) (f1 : ∃ f, fs[1]? = some f ∧ f.type = ti ∧ f.offset = 1) (f2 : ∃ f, fs[2]? = some f ∧ f.type = ti ∧ f.offset = 2) (f3 : ∃ f, fs[3]? = some f ∧ f.type = ts ∧ f.offset = 3)
    (hi : P.underlying ti = some (.int .i64)) (ci : P.cellsOf ti = 1) (hs : P.underlying ts = some .string) (cst : P.cellsOf ts = 1) : ∃ a : DvA, cs = a.cs := by
  obtain ⟨n0, q0, _⟩ := field_int hF 0 0 f0 hi ci
  obtain ⟨n1, q1, _⟩ := field_int hF 1 1 f1 hi ci
  obtain ⟨n2, q2, _⟩ := field_int hF 2 2 f2 hi ci
  obtain ⟨s3, q3, _⟩ := field_str hF 3 3 f3 hs cst
  refine ⟨⟨n0, n1, n2, s3⟩, ?_⟩
  have e0 := cut_up cs 0 1 1 rfl
  rw [q0, cut_up cs 1 1 2 rfl, q1, cut_up cs 2 1 3 rfl, q2, cut_up cs 3 1 4 rfl, q3, cut_end cs hl] at e0
  exact e0
theorem flt_of_fields {m : Nat} {fs : Array Field} {cs : List Value} {ti tb : TypeId} (hF : Fielded enc P W m fs cs) (hl : cs.length = 3)
    (f0 : ∃ f, fs[0]? = some f ∧ f.type = tb ∧ f.offset = 0) (f1 : ∃ f, fs[1]? = some f ∧ f.type = ti ∧ f.offset = 1) (f2 : ∃ f, fs[2]? = some f ∧ f.type = tb ∧ f.offset = 2)
    (hi : P.underlying ti = some (.int .i64)) (ci : P.cellsOf ti = 1) (hb : P.underlying tb = some .bool) (cb : P.cellsOf tb = 1) : ∃ a : DvF, cs = a.cs := by
  obtain ⟨z0, q0⟩ := field_bool hF 0 0 f0 hb cb
  obtain ⟨n1, q1, _⟩ := field_int hF 1 1 f1 hi ci
  obtain ⟨z2, q2⟩ := field_bool hF 2 2 f2 hb cb
  refine ⟨⟨z0, n1, z2⟩, ?_⟩
  have e0 := cut_up cs 0 1 1 rfl
  rw [q0, cut_up cs 1 1 2 rfl, q1, cut_up cs 2 1 3 rfl, q2, cut_end cs hl] at e0
  exact e0
theorem elems_of_cells {α : Type} {g : α → List Value} {m : Nat} (hg : ∀ a, (g a).length = m) {a : Addr} : ∀ (k : Nat), (∀ i, i < k → ∃ y : α, ∀ j u, (g y)[j]? = some u → W.cell? (a.add (i * m + j)) = some u) →
    ∃ ys : List α, ys.length = k ∧ ∀ j u, (ys.flatMap g)[j]? = some u → W.cell? (a.add j) = some u
  | 0, _ => ⟨[], rfl, fun j u hu => by simp at hu⟩
  | k + 1, h => by
    obtain ⟨ys, h1, h3⟩ := elems_of_cells hg k fun i hi => h i (by omega)
    obtain ⟨y, h5⟩ := h k (by omega)
    refine ⟨ys ++ [y], by simp [h1], fun j u hu => ?_⟩
    have hfl : (ys.flatMap g).length = k * m := by rw [flat_len g m hg, h1]
    rw [List.flatMap_append] at hu
    rcases Nat.lt_or_ge j (k * m) with hj | hj
    · rw [List.getElem?_append_left (by omega)] at hu
      exact h3 j u hu
    · rw [List.getElem?_append_right (by omega), hfl] at hu
      have hu' : (g y)[j - k * m]? = some u := by simpa using hu
      have := h5 (j - k * m) u hu'
      rwa [show k * m + (j - k * m) = j from by omega] at this
theorem arg_elems {α : Type} {g : α → List Value} {m : Nat} (hm0 : 0 < m) (hg : ∀ a, (g a).length = m) {t s : TypeId} {v : Value} {d : DataW H} {p : List MemPlace} {r : Reach} {b : Nat} (ht : P.underlying t = some (.slice s)) (hcs : P.cellsOf s = m)
    (hE : ∀ (fuel : Nat) (cs : List Value) (x : DataW H × List MemPlace), cs.length = m → DataW.trod enc P W 0 (fun _ => true) true fuel s cs = some x → ∃ y : α, cs = g y)
    (hok : Value.okWide P W r b t v) (h : DataW.Trod enc P W 0 (fun _ => true) true t v d p) : ∃ L n c, ∃ ys : List α, v = .slice L n c ∧ Reads W W.heap.size m L n (ys.flatMap g) ∧ n ≤ maxLen := by
  obtain ⟨A, n, c, rfl⟩ := okWide_slice ht hok
  obtain ⟨fuel, hf⟩ := h
  rcases open_slice ht hf with ⟨hcs', hx⟩ | ⟨a, l, c', k, q, D, Pl, hcs', _, hl, hm, hmm, hx, hel⟩
  · simp [Value.cells] at hcs'
    obtain ⟨rfl, rfl, rfl⟩ := hcs'
    exact ⟨none, 0, 0, [], rfl, Reads.nil_, Nat.zero_le _⟩
  · simp [Value.cells] at hcs'
    obtain ⟨rfl, rfl, rfl⟩ := hcs'
    simp at hmm
    subst hmm
    obtain ⟨ys, g1, g3⟩ := elems_of_cells (W := W) hg (a := a) n (fun i hi' => by
      obtain ⟨cs', k1, k2⟩ := hel i (by omega)
      rw [hcs] at k1
      obtain ⟨_, k4, k5⟩ := World.cells?_some k1
      obtain ⟨y, k6⟩ := hE _ _ _ k4 k2
      refine ⟨y, fun j u hj => ?_⟩
      have hj3 : j < m := by
        rcases Nat.lt_or_ge j m with h | h
        · exact h
        · rw [List.getElem?_eq_none (by rw [hg]; omega)] at hj; cases hj
      have := k5 j hj3
      rw [add_of_add] at this
      rw [this, k6]
      exact hj)
    refine ⟨some a, n, _, ys, rfl, ⟨by rw [flat_len g m hg, g1], fun hn => ⟨a, rfl, ?_, g3⟩⟩, Nat.le_trans hl hm⟩
    obtain ⟨cs', k1, _⟩ := hel 0 (by omega)
    rw [hcs] at k1
    have := World.cells?_block k1 (by omega)
    rwa [block_of_add] at this
end
end Go.Proofs.Ytkepmhkakkkliaa
