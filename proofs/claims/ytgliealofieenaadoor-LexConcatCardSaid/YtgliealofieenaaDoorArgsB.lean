/-
  A law's arguments, opened: a slice of bytes reads as a list. Over any program. No condition.
-/
import Derived.Test.YtgliealofieenaaDoorBase
import Derived.ProofKit
import Derived.OpenShut
import Derived.ShutString
import Derived.SizedLaws
namespace Go.Proofs.YtgliealofieenaaDoor
open Go.RowKit Go.ChangeShapes Go.WideShapes Go.ChangeAt

theorem bytes_of_wf : ∀ (zs : List Int), (∀ n ∈ zs, (Lit.int .u8 n).wf = true) → ∃ l : List UInt8, zs.map (Value.int .u8) = bvs l
  | [], _ => ⟨[], rfl⟩
  | z :: zs, h => by
    obtain ⟨l, hl⟩ := bytes_of_wf zs fun n hn => h n (by simp [hn])
    have hb := bounds_u8 (h z (by simp))
    refine ⟨UInt8.ofNat z.toNat :: l, ?_⟩
    unfold bvs at hl ⊢
    rw [List.map_cons, List.map_cons, hl]
    congr 1
    unfold bv
    congr 1
    simp
    omega
theorem reads_of_cells {w : World} {a : Addr} {n : Nat} {k : IntKind} {zs : List Int} (hn : n ≤ zs.length) (hc : ∀ i, i < zs.length → w.cell? (a.add i) = some (.int k (zs.getD i 0))) : Reads w w.heap.size 1 (some a) n ((zs.take n).map (Value.int k)) := by
  refine ⟨by simp; omega, fun h0 => ⟨a, rfl, ?_, fun j u hu => ?_⟩⟩
  · have := World.block_lt_of_cell? w _ (hc 0 (by omega))
    rwa [block_of_add] at this
  · rw [List.getElem?_map, Option.map_eq_some_iff] at hu
    obtain ⟨x, hx, rfl⟩ := hu
    rw [List.getElem?_take] at hx
    split at hx
    · have hj : j < zs.length := by omega
      rw [hc j hj, List.getD, hx]
      rfl
    · cases hx
section
variable {H : Type} {enc : TypeId × Value → H} {P : Program} {W : World}
theorem arg_bytes {t e : TypeId} {v : Value} {d : DataW H} {p : List MemPlace} {r : Reach} {b : Nat} (ht : P.underlying t = some (.slice e)) (he : P.underlying e = some (.int .u8)) (hc : P.cellsOf e = 1) (hb : P.bytesOf e = 1)
    (hok : Value.okWide P W r b t v) (h : DataW.Trod enc P W 0 (fun _ => true) true t v d p) (hz : ∀ elems spare, d = .slice elems spare → (elems.length + spare.length) * P.bytesOf e ≤ reachBytes) :
    ∃ A n c l, v = .slice A n c ∧ n ≤ c ∧ n ≤ 140737488351232 ∧ Reads W W.heap.size 1 A n (bvs l) := by
  obtain ⟨A, n, c, rfl⟩ := okWide_slice ht hok
  obtain ⟨fuel, hf⟩ := h
  rcases open_ints ht he hc hf with ⟨hcs, hx⟩ | ⟨a, l, c', zs, hcs, _, hl, hm, hz2, hx, hcell, hwz⟩
  · simp [Value.cells] at hcs
    obtain ⟨rfl, rfl, rfl⟩ := hcs
    exact ⟨none, 0, 0, [], rfl, Nat.le_refl _, by omega, Reads.nil_⟩
  · simp [Value.cells] at hcs
    obtain ⟨rfl, rfl, rfl⟩ := hcs
    simp only [Prod.mk.injEq] at hx
    simp at hz2
    have hr := hz _ _ hx.1
    rw [hb] at hr
    simp only [lits, List.length_map, List.length_take, List.length_drop, reachBytes] at hr
    obtain ⟨bs, hbs⟩ := bytes_of_wf (zs.take n) fun x hx => hwz x (List.mem_of_mem_take hx)
    exact ⟨some a, n, c, bs, rfl, hl, by omega, by rw [← hbs]; exact reads_of_cells (by omega) hcell⟩
end
end Go.Proofs.YtgliealofieenaaDoor
