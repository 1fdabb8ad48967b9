/-
  Bytes in a block of the call's own that '[]byte(s)' has made: read, written one by one. Over any program. No condition.
-/
import Derived.Test.YtfclifolniefpaaDoorBase
set_option linter.unusedSimpArgs false
set_option linter.unusedVariables false
namespace Go.Proofs.YtfclifolniefpaaDoor
open Go.RowKit

/-- Block g, from block B on, holds the bytes l at its head, none of them frozen. -/
def Holds8 (w : World) (B g : Nat) (l : List UInt8) : Prop :=
  B ≤ g ∧ g < w.heap.size ∧ (∀ j u, (bvs l)[j]? = some u → w.cell? ⟨g, j, none⟩ = some u) ∧ ∀ j, j < l.length → w.frozen? ⟨g, j, none⟩ = false
section
variable {w w' : World} {B g : Nat} {l : List UInt8}
theorem Holds8.below {C : Nat} (h : Holds8 w B g l) (hb : Below C w w') (hC : g < C) : Holds8 w' B g l :=
  ⟨h.1, Nat.lt_of_lt_of_le h.2.1 hb.size, fun j u hu => (hb.cell (p := ⟨g, j, none⟩) hC).trans (h.2.2.1 j u hu), fun j hj => (hb.frozen (p := ⟨g, j, none⟩) hC).trans (h.2.2.2 j hj)⟩
theorem Holds8.on (h : Holds8 w B g l) (hb : Below w.heap.size w w') : Holds8 w' B g l := h.below hb h.2.1
theorem Holds8.kept {row : Option Nat} (h : Holds8 w B g l) (hg : w.grownBy w' row) (hne : some g ≠ row) : Holds8 w' B g l := by
  have hb := hg.block g h.2.1 hne
  refine ⟨h.1, Nat.lt_of_lt_of_le h.2.1 hg.size, fun j u hu => (World.cell?_of_block hb).trans (h.2.2.1 j u hu), fun j hj => ?_⟩
  have := h.2.2.2 j hj
  unfold World.frozen? at this ⊢
  simp only [hb]
  exact this
theorem Holds8.at_ {k : Nat} {x : UInt8} (h : Holds8 w B g l) (hx : l[k]? = some x) : w.cell? ⟨g, k, none⟩ = some (.int .u8 (x.toNat : Int)) ∧ w.frozen? ⟨g, k, none⟩ = false :=
  ⟨h.2.2.1 k _ (by unfold bvs; rw [List.getElem?_map, hx]; rfl), h.2.2.2 k (List.getElem?_eq_some_iff.1 hx).1⟩
theorem Holds8.set {k : Nat} (h : Holds8 w B g l) (hk : k < l.length) (b : UInt8) : Holds8 (w.setCell ⟨g, k, none⟩ (.int .u8 (b.toNat : Int))) B g (l.set k b) := by
  refine ⟨h.1, by simpa [World.setCell] using h.2.1, fun j u hu => ?_, fun j hj => ?_⟩
  · by_cases hjk : j = k
    · subst hjk
      have hl : l[j]? = some l[j] := List.getElem?_eq_getElem hk
      have hu' : u = .int .u8 (b.toNat : Int) := by
        unfold bvs at hu
        rw [List.getElem?_map, List.getElem?_set_self hk] at hu
        exact (Option.some.inj hu).symm
      rw [hu']
      exact World.cell?_setCell_same w _ _ (h.at_ hl).1
    · have hu' : (bvs l)[j]? = some u := by
        unfold bvs at hu ⊢
        rw [List.getElem?_map, List.getElem?_set_ne (fun e => hjk e.symm)] at hu
        rw [List.getElem?_map]
        exact hu
      exact (World.cell?_setCell_other w _ _ _ (fun e => hjk (by injection e; omega))).trans (h.2.2.1 j u hu')
  · rw [List.length_set] at hj
    have := h.2.2.2 j hj
    simpa using this
theorem Holds8.reads (h : Holds8 w B g l) : Reads w w.heap.size 1 (some ⟨g, 0, none⟩) l.length (bvs l) :=
  ⟨by rw [bvs_length, Nat.mul_one], fun _ => ⟨_, rfl, h.2.1, fun j u hu => by rw [Addr.add_lit, Nat.zero_add]; exact h.2.2.1 j u hu⟩⟩
end
section
variable {P : Program}
theorem exec_bytes_own {ρ : Operand → Value} {o : Oper} (w : World) (src dst e : TypeId) (x : Operand) (ho : o.op = .convert src dst x) (hs : P.underlying src = some .string) (he : P.underlying e = some (.int .u8)) (hd : P.underlying dst = some (.slice e))
    {s : ByteArray} (hx : ρ x = .string s) : ∃ c w', (execOp ρ o).run P w = .ok (.value (.slice (some ⟨w.heap.size, 0, none⟩) s.size c)) w' ∧ s.size ≤ c ∧ Holds8 w' w.heap.size w.heap.size s.data.toList ∧ Below w.heap.size w w' := by
  have h := run_bytes_of_string (P := P) w src dst e s hs hd he
  have hrun : (execOp ρ o).run P w = .ok (.value (.slice (some ⟨w.heap.size, 0, none⟩) s.size (grownCap w s.size 0 e)))
      (w.drew.alloc (.cells (bytesRow s (grownCap w s.size 0 e)) e ((bytesRow s (grownCap w s.size 0 e)).size, (bytesRow s (grownCap w s.size 0 e)).size + 1))) := by
    unfold execOp
    simp [ho, hx, h]
  have hsz : s.data.toList.length = s.size := by simp
  have hblk := Go.heap_alloc_new w.drew (.cells (bytesRow s (grownCap w s.size 0 e)) e ((bytesRow s (grownCap w s.size 0 e)).size, (bytesRow s (grownCap w s.size 0 e)).size + 1))
  have hbs : s.size ≤ (bytesRow s (grownCap w s.size 0 e)).size := by unfold bytesRow; simp
  refine ⟨_, _, hrun, grownCap_ge _ _ _ _, ⟨Nat.le_refl _, by simp, fun j u hu => ?_, fun j hj => ?_⟩, ((Below.refl _ _).drew).alloc (Nat.le_refl _) _⟩
  · have := World.news_of_block hblk j u (by
      have hj : j < (bvs s.data.toList).length := (List.getElem?_eq_some_iff.1 hu).1
      unfold bytesRow
      simp only [Array.toList_append, Array.toList_map]
      rw [List.getElem?_append_left (by rw [List.length_map]; rw [bvs_length] at hj; exact hj)]
      exact hu)
    rw [Addr.add_lit, Nat.zero_add] at this
    exact this
  · unfold World.frozen?
    have hb2 : (w.drew.alloc (.cells (bytesRow s (grownCap w s.size 0 e)) e ((bytesRow s (grownCap w s.size 0 e)).size, (bytesRow s (grownCap w s.size 0 e)).size + 1))).heap[w.heap.size]? = _ := hblk
    simp only [hb2]
    rw [hsz] at hj
    have : ¬ (bytesRow s (grownCap w s.size 0 e)).size ≤ j := by omega
    simp [this]
theorem wpList_bytes_own {ops : Array Oper} {rest : List Oper} {o : Oper} {a : Act} {w : World} {Q : Exit → Act → World → Prop} (hgd : o.guard = none) (src dst e : TypeId) (x : Operand) (ho : o.op = .convert src dst x) (hs : P.underlying src = some .string) (he : P.underlying e = some (.int .u8)) (hd : P.underlying dst = some (.slice e))
    {s : ByteArray} (hx : a.eval x = .string s)
    (h : ∀ c w', s.size ≤ c → Holds8 w' w.heap.size w.heap.size s.data.toList → Below w.heap.size w w' → wpList P ops Q rest (a.put o.dst (.slice (some ⟨w.heap.size, 0, none⟩) s.size c)) w') : wpList P ops Q (o :: rest) a w := by
  obtain ⟨c, w', hrun, h1, h2, h3⟩ := exec_bytes_own (P := P) (ρ := a.eval) (o := o) w src dst e x ho hs he hd hx
  exact wpList_plain hgd fun K hK => by
    unfold Oper.wp
    rw [hrun]
    exact hK _ _ (h c w' h1 h2 h3)
theorem step_put_elem {ops : Array Oper} {o : Oper} {a : Act} {w : World} {K : Act → World → Prop} {Q : Exit → Act → World → Prop} {E : Prop} (hgd : o.guard = none) (ty : TypeId) (x v : Operand) (ho : o.op = .store ty x v) (g j : Nat) (hx : a.eval x = .pointer (some ⟨g, j, none⟩)) (e : TypeId) (cs : List Value) (hr : Row w g e cs) (u : Value) (hv : a.eval v = u)
    (h1 : u.oneCell' = true) (hj : j < cs.length) (hi : (P.info? ty).map (·.size) = some 1)
    (h : ∀ w', Row w' g e (cs.set j u) → w.grownBy w' (some g) → K (a.put o.dst undef) w') : if Region.wanted o (yielded ops a.tmps) = true then Oper.wp P o a w K Q else E := by
  obtain ⟨w', hrun, h2, h3, h4⟩ := run_store_elem w ty g j e cs hr u h1 hj hi
  rw [if_pos (wanted_plain hgd)]
  unfold Oper.wp execOp
  simp only [ho, hx, hv, Instr.storeAt, Instr.sureAddr, Sem.run_bind, Sem.run_pure, Result.andThen_ok, hrun]
  exact h _ h2 h4
theorem exec_index_str {ρ : Operand → Value} {o : Oper} (w : World) (ty : TypeId) (x ix : Operand) (ho : o.op = .index ty x ix) (ht : P.underlying ty = some .string) (s : ByteArray) (hx : ρ x = .string s) (k : Nat) (hix : ρ ix = .int .i64 (k : Int)) (b : UInt8) (hb : s.data.toList[k]? = some b) :
    (execOp ρ o).run P w = .ok (.value (.int .u8 (b.toNat : Int))) w := by
  have hk : k < s.size := by have := (List.getElem?_eq_some_iff.1 hb).1; simpa using this
  have hv : s[k] = b := by
    have h2 : s.data[k]? = some b := by simpa using hb
    exact (Array.getElem?_eq_some_iff.1 h2).2
  have h := run_index_string (P := P) w ty s .i64 (k : Int) ht
  rw [dif_pos ⟨by omega, by omega⟩] at h
  simp only [Int.toNat_natCast, hv] at h
  unfold execOp
  simp [ho, hx, hix, h]
end
end Go.Proofs.YtfclifolniefpaaDoor
