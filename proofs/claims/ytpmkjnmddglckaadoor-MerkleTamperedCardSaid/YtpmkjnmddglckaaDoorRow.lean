/-
  Rows: a block of the call's own that holds an array, and the operations on it, each of which leaves a world of which only what is said is known. Over any program. No condition.
-/
import Derived.Test.YtpmkjnmddglckaaDoorBuild
import Derived.StillTail
import Derived.BigQuiet
namespace Go.Proofs.YtpmkjnmddglckaaDoor
open Go.RowKit

theorem add_pos (a : Addr) (n : Nat) (h : 0 < n) : a.add n = ⟨a.block, a.off + n, none⟩ := by unfold Addr.add; rw [if_neg (by omega)]
/-- Block g is a row of cells. -/
def Row (w : World) (g : Nat) (e : TypeId) (cs : List Value) : Prop := w.heap[g]? = some (.cells cs.toArray e (0, 0))
section
variable {w w' : World} {g : Nat} {e : TypeId} {cs : List Value}
theorem Row.lt (h : Row w g e cs) : g < w.heap.size := (Array.getElem?_eq_some_iff.1 h).1
theorem Row.kept {row : Option Nat} (h : Row w g e cs) (hg : w.grownBy w' row) (hne : some g ≠ row) : Row w' g e cs := (hg.block g h.lt hne).trans h
theorem Row.below {B : Nat} (h : Row w g e cs) (hb : Below B w w') (hB : g < B) : Row w' g e cs := (hb.block g hB).trans h
theorem Row.on (h : Row w g e cs) (hb : Below w.heap.size w w') : Row w' g e cs := h.below hb h.lt
theorem Row.drew (h : Row w g e cs) : Row w.drew g e cs := h
theorem Row.drewN (h : Row w g e cs) (k : Nat) : Row (w.drewN k) g e cs := h
theorem Row.cell (h : Row w g e cs) {j : Nat} {u : Value} (hj : cs[j]? = some u) : w.cell? ⟨g, j, none⟩ = some u := by
  unfold World.cell?
  unfold Row at h
  simp [h, hj]
theorem Row.cells (h : Row w g e cs) : ∀ j u, cs[j]? = some u → w.cell? ((⟨g, 0, none⟩ : Addr).add j) = some u := fun j u hj => by
  rw [Addr.add_lit, Nat.zero_add]
  exact h.cell hj
theorem Row.reads {size n : Nat} (h : Row w g e cs) (hl : cs.length = n * size) : Reads w w.heap.size size (some ⟨g, 0, none⟩) n cs :=
  ⟨hl, fun _ => ⟨_, rfl, h.lt, h.cells⟩⟩
theorem Row.free (h : Row w g e cs) (j : Nat) : w.frozen? ⟨g, j, none⟩ = false := by
  unfold World.frozen?
  unfold Row at h
  simp [h]
theorem Reads.kept {B size n : Nat} {A : Option Addr} {xs : List Value} {row : Option Nat} (h : Reads w B size A n xs) (hg : w.grownBy w' row) (hB : B ≤ w.heap.size) (hne : ∀ k, row = some k → B ≤ k) : Reads w' B size A n xs :=
  h.keep fun p hp => World.cell?_of_block (hg.block p.block (by omega) (fun e => by have := hne _ e.symm; omega))
theorem below_kept {B : Nat} {w0 : World} {row : Option Nat} (h : Below B w0 w) (hg : w.grownBy w' row) (hB : B ≤ w.heap.size) (hne : ∀ k, row = some k → B ≤ k) : Below B w0 w' := h.grown hg hB hne
theorem grown_below {row : Option Nat} (hg : w.grownBy w' row) {B : Nat} (hB : B ≤ w.heap.size) (hne : ∀ k, row = some k → B ≤ k) : Below B w w' := (Below.refl _ _).grown hg hB hne
theorem below_drewN {B : Nat} {w0 : World} (h : Below B w0 w) (k : Nat) : Below B w0 (w.drewN k) := ⟨h.os, h.tape, h.output, h.size, h.block⟩
theorem below_grownBy (h : Below w.heap.size w w') (row : Option Nat) : w.grownBy w' row := ⟨h.os, h.tape, h.output, h.size, fun k hk _ => h.block k hk⟩
end
theorem row_alloc (w : World) (e : TypeId) (cs : List Value) : Row (w.alloc (.cells cs.toArray e)) w.heap.size e cs := Go.heap_alloc_new _ _

section
variable {P : Program}
theorem run_store_elem (w : World) (ty : TypeId) (g j : Nat) (e : TypeId) (cs : List Value) (hr : Row w g e cs) (v : Value) (h1 : v.oneCell' = true) (hj : j < cs.length) (hi : (P.info? ty).map (·.size) = some 1) :
    ∃ w', (storeVar ty ⟨g, j, none⟩ v).run P w = .ok () w' ∧ Row w' g e (cs.set j v) ∧ w'.heap.size = w.heap.size ∧ w.grownBy w' (some g) := by
  have hst := run_storeCells_at P g j e [v] 0 cs.toArray w hr (by simp; omega) (by simpa using h1)
  have hvc : v.cells = #[v] := by cases v <;> first | rfl | (simp [Value.oneCell'] at h1)
  refine ⟨w.setRow g (cs.set j v).toArray, ?_, setRow_heap w g _ _ e _ hr, by simp, ⟨rfl, rfl, rfl, by simp, fun k _ hk => setRow_other w g k _ (fun he => hk (by rw [he]))⟩⟩
  have es : (cs.take j ++ [v] ++ cs.drop (j + 1)) = cs.set j v := by
    rw [List.set_eq_take_append_cons_drop, if_pos hj]
    simp
  cases hq : P.info? ty with
  | none => simp [hq] at hi
  | some i =>
    have hs : i.size = 1 := by simpa [hq] using hi
    simp only [Nat.add_zero, List.length_singleton] at hst
    rw [es] at hst
    simp [storeVar, Sem.run_bind, sizeOf, typeInfo, hq, hs, hvc, hst]

section
variable {ops : Array Oper} {rest : List Oper} {o : Oper} {a : Act} {w : World} {Q : Exit → Act → World → Prop}
theorem exec_alloc_row {ρ : Operand → Value} (o : Oper) (ty : TypeId) (ho : o.op = .alloc ty) (z : Value) (hz : (P.info? ty).map (·.zero) = some (some z)) : (execOp ρ o).run P w = .ok (.value (.pointer (some ⟨w.heap.size, 0, none⟩))) (w.alloc (.cells z.cells ty)) := by
  cases hq : P.info? ty with
  | none => simp [hq] at hz
  | some i =>
    have hs : i.zero = some z := by simpa [hq] using hz
    unfold execOp
    simp [ho, Instr.alloc, zeroValue, typeInfo, hq, hs, newVar, newRow]
theorem wpList_alloc_row (hgd : o.guard = none) (ty : TypeId) (ho : o.op = .alloc ty) (cs : List Value) (hz : (P.info? ty).map (fun i => i.zero.map (·.cells)) = some (some cs.toArray))
    (h : ∀ w', Row w' w.heap.size ty cs → w.heap.size < w'.heap.size → w.grownBy w' none → wpList P ops Q rest (a.put o.dst (.pointer (some ⟨w.heap.size, 0, none⟩))) w') : wpList P ops Q (o :: rest) a w := by
  cases hq : P.info? ty with
  | none => simp [hq] at hz
  | some i =>
    cases hz0 : i.zero with
    | none => simp [hq, hz0] at hz
    | some z =>
      have hzc : z.cells = cs.toArray := by simpa [hq, hz0] using hz
      refine wpList_valueW hgd _ (exec_alloc_row o ty ho z (by simp [hq, hz0])) ?_
      rw [hzc]
      exact h _ (row_alloc w ty cs) (by simp) (World.grownBy_alloc w _ none)
theorem wpList_make_row (hgd : o.guard = none) (t : TypeId) (x y : Operand) (ho : o.op = .makeSlice t x y) (e : TypeId) (ht : P.underlying t = some (.slice e)) (z : Value) (hz1 : z.cells = #[z]) (b : Nat) (hi : (P.info? e).map (fun i => (i.zero, i.size, i.bytes)) = some (some z, 1, b))
    (kl kc : IntKind) (l c : Nat) (hx : a.eval x = .int kl (l : Int)) (hy : a.eval y = .int kc (c : Int)) (hlc : l ≤ c) (hb : b * c ≤ 281474976710656) (hc : c ≤ 9223372036854775807)
    (h : ∀ w', Row w' w.heap.size e (List.replicate c z) → w.heap.size < w'.heap.size → w.grownBy w' none → wpList P ops Q rest (a.put o.dst (.slice (some ⟨w.heap.size, 0, none⟩) l c)) w') : wpList P ops Q (o :: rest) a w := by
  obtain ⟨i, hi1, hi2, hi3, hi4⟩ := info_parts hi
  have hr := run_make (P := P) w t e i z ht hi1 hi2 kl kc (l : Int) (c : Int) (by omega) (by omega) (by rw [hi4, ← Int.natCast_mul]; generalize b * c = q at *; omega) (by omega)
  rw [Int.toNat_natCast, Int.toNat_natCast, hi3, Nat.mul_one, hz1] at hr
  have hm : madeCells #[z] c = (List.replicate c z).toArray := by
    apply Array.ext
    · simp [size_madeCells]
    · intro j h1 h2
      simp [madeCells, Nat.mod_one]
  rw [hm] at hr
  refine wpList_valueW hgd (.slice (some ⟨w.heap.size, 0, none⟩) l c) ?_ (h _ (row_alloc w e _) (by simp) (World.grownBy_alloc w _ none))
  unfold execOp
  simp [ho, hx, hy, hr]
theorem wpList_box_row (hgd : o.guard = none) (ty : TypeId) (x : Operand) (ho : o.op = .box ty x) (cs : List Value) (hx : (a.eval x).cells = cs.toArray)
    (h : ∀ w', Row w' w.heap.size ty cs → w.heap.size < w'.heap.size → w.grownBy w' none → wpList P ops Q rest (a.put o.dst (.pointer (some ⟨w.heap.size, 0, none⟩))) w') : wpList P ops Q (o :: rest) a w := by
  refine wpList_valueW (w' := w.alloc (.cells cs.toArray ty)) hgd (.pointer (some ⟨w.heap.size, 0, none⟩)) ?_ (h _ (row_alloc w ty cs) (by simp) (World.grownBy_alloc w _ none))
  unfold execOp
  simp [ho, Instr.box, newVar, newRow, hx]
theorem wpList_store_elem (hgd : o.guard = none) (ty : TypeId) (x v : Operand) (ho : o.op = .store ty x v) (g j : Nat) (hx : a.eval x = .pointer (some ⟨g, j, none⟩)) (e : TypeId) (cs : List Value) (hr : Row w g e cs) (u : Value) (hv : a.eval v = u)
    (h1 : u.oneCell' = true) (hj : j < cs.length) (hi : (P.info? ty).map (·.size) = some 1)
    (h : ∀ w', Row w' g e (cs.set j u) → w.grownBy w' (some g) → wpList P ops Q rest (a.put o.dst undef) w') : wpList P ops Q (o :: rest) a w := by
  obtain ⟨w', hrun, h2, h3, h4⟩ := run_store_elem w ty g j e cs hr u h1 hj hi
  refine wpList_plain hgd fun K hK => ?_
  unfold Oper.wp execOp
  simp only [ho, hx, hv, Instr.storeAt, Instr.sureAddr, Sem.run_bind, Sem.run_pure, Result.andThen_ok, hrun]
  exact hK _ _ (h _ h2 h4)
theorem wpList_store_all (hgd : o.guard = none) (ty : TypeId) (x v : Operand) (ho : o.op = .store ty x v) (g : Nat) (hx : a.eval x = .pointer (some ⟨g, 0, none⟩)) (e : TypeId) (cur : List Value) (hr : Row w g e cur) (cs : List Value) (hv : a.eval v = .agg cs.toArray)
    (h1 : ∀ u ∈ cs, u.oneCell' = true) (hl : cur.length = cs.length) (hi : (P.info? ty).map (·.size) = some cs.length)
    (h : ∀ w', Row w' g e cs → w.grownBy w' (some g) → wpList P ops Q rest (a.put o.dst undef) w') : wpList P ops Q (o :: rest) a w :=
  wpList_store_row hgd ty x v ho g hx cs.toArray hv cur.toArray e hr (by simpa using h1) (by simpa using hl) (by simpa using hi)
    (h _ (setRow_heap w g _ _ e _ hr) ⟨rfl, rfl, rfl, by simp, fun k _ hk => setRow_other w g k _ (fun he => hk (by rw [he]))⟩)
theorem wpList_load_all (hgd : o.guard = none) (ty : TypeId) (x : Operand) (ho : o.op = .load ty x) (g : Nat) (hx : a.eval x = .pointer (some ⟨g, 0, none⟩)) (e : TypeId) (cs : List Value) (hr : Row w g e cs) (d : TypeDesc)
    (hu : P.underlying ty = some d) (hd : (match d with | .struct _ | .array _ _ => true | _ => false) = true) (hi : (P.info? ty).map (·.size) = some cs.length)
    (h : wpList P ops Q rest (a.put o.dst (.agg cs.toArray)) w) : wpList P ops Q (o :: rest) a w :=
  wpList_load_at hgd ty x ho ⟨g, 0, none⟩ hx cs hr.cells d hu hd hi h
end
end

/-- A row of one's own, as a slice value: it owns its cells. -/
theorem Row.owns {w : World} {g : Nat} {e : TypeId} {cs : List Value} (h : Row w g e cs) {base : Nat} (hb : base ≤ g) (n : Nat) (hn : n ≤ cs.length) (hm : cs.length ≤ maxLen) :
    w.ownsRow base e 1 (.slice (some ⟨g, 0, none⟩) n cs.length) n (cs.take n) :=
  ⟨by rw [List.length_take]; omega, .inr ⟨g, cs.length, cs.toArray, rfl, hb, h, hn, hm, by simp, by simp⟩⟩
theorem Row.owns_all {w : World} {g : Nat} {e : TypeId} {cs : List Value} (h : Row w g e cs) {base : Nat} (hb : base ≤ g) (n : Nat) (hn : cs.length = n) (hm : n ≤ maxLen) :
    w.ownsRow base e 1 (.slice (some ⟨g, 0, none⟩) n n) n cs := by
  subst hn
  have := h.owns hb cs.length (Nat.le_refl _) hm
  rwa [List.take_length] at this

/-- One result, in memory. -/
theorem results_cell1 {P : Program} {fn : Func} {p : Tmp} {ty : TypeId} (h : fn.results = #[.cell p ty]) (tmps : Array Value) (w : World) (ad : Addr) (x : Value) (hp : tmps.getD p undef = .pointer (some ad))
    (hl : (loadVar ty ad).run P w = .ok x w) : (results fn tmps).run P w = .ok x w := by
  have hp' : tmps[p]?.getD undef = .pointer (some ad) := by simpa using hp
  simp [results, h, hp', asAddr, hl]

/-! ## A region that draws its order, whose last operations come in one order: one walk -/
section
variable {P : Program}
theorem still_of_quiet {ops : Array Oper} {w : World} {Q : Act → Prop} : ∀ (l : List Oper) (a : Act), wpQuiet P ops (fun w' => w' = w) Q l a → wpStill P ops w Q l a
  | [], _, h => h
  | o :: l, a, h => by
    unfold wpQuiet at h
    unfold wpStill
    split
    · rename_i hw
      simp only [hw, if_true] at h
      obtain ⟨v, h1, h2⟩ := h
      have h3 := h1 w rfl
      have h4 := still_of_quiet l _ h2
      unfold Oper.quietAt at h3
      unfold Oper.still
      generalize (execOp a.eval o).run P w = r at *
      cases r with
      | ok n w' =>
        cases n <;> simp only [Oper.quietUpon] at h3 <;> simp only [Oper.stillUpon]
        case value u => exact ⟨h3.1, by rw [h3.2]; exact h4⟩
        case skip => exact ⟨h3.1, by rw [← h3.2]; exact h4⟩
        case enter f args => exact ⟨h3.1, v, h3.2, h4⟩
      | halt x w' => simp only [Oper.quietUpon] at h3
    · rename_i hw
      simp only [hw] at h
      exact still_of_quiet l _ h
theorem wp_region_tail {id : Nat} {Q : Exit → Act → World → Prop} {a : Act} {w : World} {l : List Oper} (n : Nat) (hm : P.follows .mixedOrders = true) (hB : Region.lexTailB .any l.toArray n = true)
    (h : wpQuiet P l.toArray (fun w' => w' = w.drew) (fun a' => wpList P l.toArray Q (l.drop n) a' w.drew) (l.take n) a) : (Code.region id l.toArray true).wp P Q a w :=
  wp_region_still_tail n hm hB (still_of_quiet _ _ h)
end
end Go.Proofs.YtpmkjnmddglckaaDoor
