/-
  A law's argument of type []api.Digest or api.Digest, opened: it reads as a list of sixteen-byte lists, as sixteen bytes. Over any program. No condition.
-/
import Derived.Test.YtdgflobdnkopbaaDoorFlat
import Derived.SizedLaws
import Derived.OpenShut
import Derived.Lib.SmallJoins
import Derived.Deep.Slices
namespace Go.Proofs.YtdgflobdnkopbaaDoor
open Go.RowKit Go.ChangeShapes Go.WideShapes Go.ChangeAt Go.Deep

theorem Reads.drew_to {w w' : World} {B size n q : Nat} {A : Option Addr} {xs : List Value} (h : Reads w B size A n xs) (hw : w' = w.drewN q) : Reads w' B size A n xs := by rw [hw]; exact h
theorem Reads.drew_on {w w' : World} {size n q : Nat} {A : Option Addr} {xs : List Value} (h : Reads w w.heap.size size A n xs) (hw : w' = w.drewN q) : Reads w' w'.heap.size size A n xs := by rw [hw]; exact h
theorem bvs_of_each : ∀ (cs : List Value), (∀ c ∈ cs, ∃ b, c = bv b) → ∃ d : List UInt8, cs = bvs d
  | [], _ => ⟨[], rfl⟩
  | c :: cs, h => by
    obtain ⟨d, hd⟩ := bvs_of_each cs fun x hx => h x (by simp [hx])
    obtain ⟨b, hb⟩ := h c (by simp)
    exact ⟨b :: d, by rw [hd, hb]; rfl⟩
section
variable {H : Type} {enc : TypeId × Value → H} {P : Program} {W : World}
theorem dig_of_trod {e u : TypeId} {base : Nat} {spare : Nat → Bool} {held : Bool} {fuel : Nat} {cs : List Value} {x : DataW H × List MemPlace} (he : P.underlying e = some (.array 16 u)) (hu : P.underlying u = some (.int .u8)) (hcu : P.cellsOf u = 1)
    (hl : cs.length = 16) (h : DataW.trod enc P W base spare held fuel e cs = some x) : ∃ d : List UInt8, cs = bvs d ∧ d.length = 16 := by
  obtain ⟨xs, m, _, _, _, hxl, hx⟩ := DataW.trod_array he h
  obtain ⟨d, hd⟩ := bvs_of_each cs (by
    intro c hc
    obtain ⟨j, hj, hjc⟩ := List.mem_iff_getElem.1 hc
    have h1 := hx j (by omega)
    rw [hcu, Nat.mul_one, List.getElem?_eq_getElem (by omega)] at h1
    obtain ⟨n, hn, _, hw⟩ := DataW.trod_int hu h1
    have hcj : cs[j] = .int .u8 n := by
      rw [List.drop_eq_getElem_cons hj, List.take_succ_cons, List.take_zero] at hn
      injection hn
    have hb := bounds_u8 hw
    refine ⟨UInt8.ofNat n.toNat, ?_⟩
    rw [← hjc, hcj]
    unfold bv
    congr 1
    simp
    omega)
  refine ⟨d, hd, ?_⟩
  rw [hd, bvs_length] at hl
  exact hl
theorem digs_of_cells {a : Addr} : ∀ (k : Nat), (∀ i, i < k → ∃ d : List UInt8, d.length = 16 ∧ ∀ j u, (bvs d)[j]? = some u → W.cell? (a.add (i * 16 + j)) = some u) →
    ∃ ds : List (List UInt8), ds.length = k ∧ Len16 ds ∧ ∀ j u, (bvs ds.flatten)[j]? = some u → W.cell? (a.add j) = some u
  | 0, _ => ⟨[], rfl, fun d hd => by simp at hd, fun j u hu => by simp [bvs] at hu⟩
  | k + 1, h => by
    obtain ⟨ds, h1, h2, h3⟩ := digs_of_cells k fun i hi => h i (by omega)
    obtain ⟨d, h4, h5⟩ := h k (by omega)
    refine ⟨ds ++ [d], by simp [h1], ?_, fun j u hu => ?_⟩
    · intro x hx
      rcases List.mem_append.1 hx with hx | hx
      · exact h2 x hx
      · simp at hx; rw [hx]; exact h4
    · have hfl : (bvs ds.flatten).length = k * 16 := by rw [bvs_length, flatten_len ds h2, h1]
      rw [List.flatten_append, bvs_append] at hu
      rcases Nat.lt_or_ge j (k * 16) with hj | hj
      · rw [List.getElem?_append_left (by omega)] at hu
        exact h3 j u hu
      · rw [List.getElem?_append_right (by omega), hfl] at hu
        have := h5 (j - k * 16) u (by simpa using hu)
        rwa [show k * 16 + (j - k * 16) = j from by omega] at this
theorem arg_digs {t e u : TypeId} {v : Value} {d : DataW H} {p : List MemPlace} {r : Reach} {b : Nat} (ht : P.underlying t = some (.slice e)) (he : P.underlying e = some (.array 16 u)) (hu : P.underlying u = some (.int .u8)) (hc : P.cellsOf e = 16) (hcu : P.cellsOf u = 1) (hb : P.bytesOf e = 16)
    (hok : Value.okWide P W r b t v) (h : DataW.Trod enc P W 0 (fun _ => true) true t v d p) (hz : ∀ elems spare, d = .slice elems spare → (elems.length + spare.length) * P.bytesOf e ≤ reachBytes) :
    ∃ A n c ds, v = .slice A n c ∧ n ≤ c ∧ n ≤ 140737488351232 ∧ ds.length = n ∧ Len16 ds ∧ Reads W W.heap.size 16 A n (bvs ds.flatten) := by
  obtain ⟨A, n, c, rfl⟩ := okWide_slice ht hok
  obtain ⟨fuel, hf⟩ := h
  rcases open_slice ht hf with ⟨hcs, hx⟩ | ⟨a, l, c', m, q, D, Pl, hcs, _, hl, hm, hmm, hx, hel⟩
  · simp [Value.cells] at hcs
    obtain ⟨rfl, rfl, rfl⟩ := hcs
    exact ⟨none, 0, 0, [], rfl, Nat.le_refl _, by omega, rfl, fun d hd => by simp at hd, Reads.nil_⟩
  · simp [Value.cells] at hcs
    obtain ⟨rfl, rfl, rfl⟩ := hcs
    simp only [Prod.mk.injEq] at hx
    simp at hmm
    subst hmm
    have hr := hz _ _ hx.1
    rw [hb] at hr
    simp only [List.length_map, List.length_range, reachBytes] at hr
    obtain ⟨ds, h1, h2, h3⟩ := digs_of_cells (W := W) (a := a) n (fun i hi => by
      obtain ⟨cs', g1, g2⟩ := hel i (by omega)
      rw [hc] at g1
      obtain ⟨_, g4, g5⟩ := World.cells?_some g1
      obtain ⟨d, g6, g7⟩ := dig_of_trod he hu hcu g4 g2
      refine ⟨d, g7, fun j u hj => ?_⟩
      have hj16 : j < 16 := by
        rcases Nat.lt_or_ge j 16 with h | h
        · exact h
        · rw [List.getElem?_eq_none (by rw [bvs_length]; omega)] at hj; cases hj
      have := g5 j hj16
      rw [add_of_add] at this
      rw [this, g6]
      exact hj)
    refine ⟨some a, _, _, ds, rfl, hl, by omega, h1, h2, by rw [bvs_length, flatten_len ds h2, h1], fun hn => ⟨a, rfl, ?_, h3⟩⟩
    obtain ⟨cs', g1, _⟩ := hel 0 (by omega)
    rw [hc] at g1
    have := World.cells?_block g1 (by omega)
    rwa [block_of_add] at this
theorem okWide_array {n : Nat} {e t : TypeId} {v : Value} {r : Reach} {b : Nat} (ht : P.underlying t = some (.array n e)) (h : Value.okWide P W r b t v) : ∃ cs, v = .agg cs ∧ cs.size = P.cellsOf t := by
  simp only [Value.okWide, ht] at h
  obtain ⟨cs, h1, h2, _⟩ := h
  exact ⟨cs, h1, h2⟩
theorem arg_dig {t u : TypeId} {v : Value} {d : DataW H} {p : List MemPlace} {r : Reach} {b : Nat} (ht : P.underlying t = some (.array 16 u)) (hu : P.underlying u = some (.int .u8)) (hct : P.cellsOf t = 16) (hcu : P.cellsOf u = 1)
    (hok : Value.okWide P W r b t v) (h : DataW.Trod enc P W 0 (fun _ => true) true t v d p) : ∃ l : List UInt8, v = .agg (bvs l).toArray ∧ l.length = 16 := by
  obtain ⟨cs, rfl, hs⟩ := okWide_array ht hok
  obtain ⟨fuel, hf⟩ := h
  obtain ⟨l, hl, h16⟩ := dig_of_trod (cs := cs.toList) ht hu hcu (by rw [Array.length_toList, hs, hct]) hf
  exact ⟨l, by rw [← hl], h16⟩
end
end Go.Proofs.YtdgflobdnkopbaaDoor
