/-
  A region that draws its order: operations that only read are taken as soon as they may come up, the others come up alone, one after the other. Over any program. No condition.
-/
import Derived.Test.YtojdondipkbjhaaDoorShaM
import Derived.OrdersHeld
import Derived.RegionTactic
import Derived.Defers
namespace Go.Proofs.YtojdondipkbjhaaDoor
open Go.RowKit

/-- Operations that leave a value or stop. -/
def neat : Op → Bool
  | .move _ | .assign _ | .pick .. | .load .. | .binOp .. | .unOp .. | .convert .. | .slice .. | .fieldAddr .. | .field .. | .indexAddr .. | .index .. | .extract .. | .build .. | .sliceToArrayPointer .. | .makeInterface .. => true
  | _ => false
theorem neat_run {P : Program} {w w' : World} {n : Next} (s : Sem Value) (h : ((do pure (Next.value (← s)) : Sem Next)).run P w = .ok n w') : ∃ v, n = .value v := by
  rw [Sem.run_bind] at h
  cases hr : s.run P w with
  | ok v w1 => rw [hr] at h; simp at h; exact ⟨v, h.1.symm⟩
  | halt x w1 => rw [hr] at h; simp at h
theorem neat_map {P : Program} {w w' : World} {n : Next} {α : Type} (s : Sem α) (f : α → Value) (h : (s.run P w).andThen (fun a w1 => Result.ok (Next.value (f a)) w1) = .ok n w') : ∃ v, n = .value v := by
  cases hr : s.run P w with
  | ok v w1 => rw [hr] at h; simp at h; exact ⟨f v, h.1.symm⟩
  | halt x w1 => rw [hr] at h; simp at h
theorem neat_value {P : Program} {ρ : Operand → Value} {o : Oper} {w w' : World} {n : Next} (hn : neat o.op = true) (h : (execOp ρ o).run P w = .ok n w') : ∃ v, n = .value v := by
  unfold execOp at h
  cases ho : o.op <;> rw [ho] at hn h <;> first
    | (simp [neat] at hn; done)
    | exact neat_run _ h
    | (simp at h; first | exact ⟨_, h.1.symm⟩ | exact neat_map _ _ h)

section
variable {P : Program} {S : World → Prop} {Q : Exit → Act → World → Prop}
theorem yieldsIf_of_in {ops : Array Oper} {o : Oper} {v : Value} {a : Act} (hn : neat o.op = true) (h : YieldsIn P ops S o v a) : YieldsIf P ops S o v a := by
  rcases h with ⟨hw, h⟩ | h
  · refine .inl ⟨hw, fun w hS => ?_⟩
    have h1 := h w hS
    unfold Oper.quietAt at h1
    cases hr : (execOp a.eval o).run P w with
    | ok n w' =>
      obtain ⟨u, rfl⟩ := neat_value hn hr
      rw [hr] at h1
      simp only [Oper.quietUpon] at h1
      rw [h1.1, h1.2]
    | halt x w' => rw [hr] at h1; simp only [Oper.quietUpon] at h1
  · exact .inr h

/-- The order in which a region is walked: an operation that is taken first; one that comes up alone; two or three of which each may come up. -/
inductive Plan where
  | done
  | take (i : Nat) (p : Plan)
  | one (i : Nat) (p : Plan)
  | two (i : Nat) (p : Plan) (j : Nat) (q : Plan)
  | three (i : Nat) (p : Plan) (j : Nat) (q : Plan) (k : Nat) (r : Plan)
def planB (md : Region.Mode) (ops : Array Oper) : Nat → Plan → Array Bool → Bool
  | n, .done, listed => n == 0 && (Region.ready md ops listed).isEmpty
  | n, .take i p, listed => decide (0 < n) && (match ops[i]? with
      | some o => neat o.op && Region.free md ops listed i && (Region.ready md ops listed).contains i
      | none => false) && planB md ops (n - 1) p (listed.setIfInBounds i true)
  | n, .one i p, listed => decide (0 < n) && decide (Region.ready md ops listed = [i]) && planB md ops (n - 1) p (listed.setIfInBounds i true)
  | n, .two i p j q, listed => decide (0 < n) && decide (Region.ready md ops listed = [i, j]) && planB md ops (n - 1) p (listed.setIfInBounds i true) && planB md ops (n - 1) q (listed.setIfInBounds j true)
  | n, .three i p j q k r, listed => decide (0 < n) && decide (Region.ready md ops listed = [i, j, k]) && planB md ops (n - 1) p (listed.setIfInBounds i true) && planB md ops (n - 1) q (listed.setIfInBounds j true) && planB md ops (n - 1) r (listed.setIfInBounds k true)
def neatAt (ops : Array Oper) (i : Nat) : Bool := match ops[i]? with
  | some o => neat o.op
  | none => false
/-- Operation i comes up; behind it C. -/
def stepAt (P : Program) (l : List Oper) (S : World → Prop) (Q : Exit → Act → World → Prop) (i : Nat) (C : Act → World → Prop) (a : Act) (w : World) : Prop :=
  ∀ o, l[i]? = some o → ∀ K' : Act → World → Prop, (∀ a' w', S w' → C a' w' → K' a' w') → if Region.wanted o (yielded l.toArray a.tmps) = true then Oper.wp P o a w K' Q else K' (a.put o.dst undef) w
def wpPlan (P : Program) (l : List Oper) (S : World → Prop) (Q : Exit → Act → World → Prop) : Plan → Act → World → Prop
  | .done, a, w => Q .normal a w
  | .take i p, a, w => ∀ o, l[i]? = some o → wpQuiet P l.toArray S (fun a' => wpPlan P l S Q p a' w) [o] a
  | .one i p, a, w => stepAt P l S Q i (wpPlan P l S Q p) a w
  | .two i p j q, a, w => stepAt P l S Q i (wpPlan P l S Q p) a w ∧ stepAt P l S Q j (wpPlan P l S Q q) a w
  | .three i p j q k r, a, w => stepAt P l S Q i (wpPlan P l S Q p) a w ∧ stepAt P l S Q j (wpPlan P l S Q q) a w ∧ stepAt P l S Q k (wpPlan P l S Q r) a w
section
variable {l : List Oper} {a : Act} {w : World}
theorem plan_done (h : Q .normal a w) : wpPlan P l S Q .done a w := h
theorem plan_take {i : Nat} {p : Plan} (o : Oper) (ho : l[i]? = some o) (h : wpQuiet P l.toArray S (fun a' => wpPlan P l S Q p a' w) [o] a) : wpPlan P l S Q (.take i p) a w := fun o' ho' => by
  rw [ho] at ho'
  cases ho'
  exact h
theorem step_at {i : Nat} {C : Act → World → Prop} (o : Oper) (ho : l[i]? = some o)
    (h : ∀ K' : Act → World → Prop, (∀ a' w', S w' → C a' w' → K' a' w') → if Region.wanted o (yielded l.toArray a.tmps) = true then Oper.wp P o a w K' Q else K' (a.put o.dst undef) w) : stepAt P l S Q i C a w := fun o' ho' => by
  rw [ho] at ho'
  cases ho'
  exact h
theorem plan_one {i : Nat} {p : Plan} (o : Oper) (ho : l[i]? = some o)
    (h : ∀ K' : Act → World → Prop, (∀ a' w', S w' → wpPlan P l S Q p a' w' → K' a' w') → if Region.wanted o (yielded l.toArray a.tmps) = true then Oper.wp P o a w K' Q else K' (a.put o.dst undef) w) : wpPlan P l S Q (.one i p) a w := step_at o ho h
theorem plan_two {i j : Nat} {p q : Plan} (h : stepAt P l S Q i (wpPlan P l S Q p) a w) (h' : stepAt P l S Q j (wpPlan P l S Q q) a w) : wpPlan P l S Q (.two i p j q) a w := ⟨h, h'⟩
theorem plan_three {i j k : Nat} {p q r : Plan} (h : stepAt P l S Q i (wpPlan P l S Q p) a w) (h' : stepAt P l S Q j (wpPlan P l S Q q) a w) (h'' : stepAt P l S Q k (wpPlan P l S Q r) a w) : wpPlan P l S Q (.three i p j q k r) a w := ⟨h, h', h''⟩
end
theorem wpOp_of_stepAt {l : List Oper} {i n : Nat} {C : Act → World → Prop} {listed : Array Bool} {a : Act} {w : World} (hi : i < l.length)
    (hC : ∀ a' w', S w' → C a' w' → wpAnyH P .any l.toArray Q S n listed a' w') (h : stepAt P l S Q i C a w) : wpOp P l.toArray Q i (fun a' w' => S w' ∧ wpAnyH P .any l.toArray Q S n listed a' w') a w :=
  wpOp_step (o := l[i]) (by simp [hi]) fun K' hK' => h _ (List.getElem?_eq_getElem hi) K' fun a' w' hS hc => hK' a' w' ⟨hS, hC a' w' hS hc⟩
theorem ready_lt {md : Region.Mode} {l : List Oper} {listed : Array Bool} {i : Nat} (h : i ∈ Region.ready md l.toArray listed) : i < l.length := by
  obtain ⟨_, o, ho, _⟩ := mem_ready.1 h
  simpa using (Array.getElem?_eq_some_iff.1 ho).1
theorem wpAnyH_of_plan {l : List Oper} (hQ : ∀ c d v a w, Q (.panic c) (Act.put a (some d) v) w → Q (.panic c) a w) (hsel : Region.noSelect l.toArray = true) :
    ∀ (p : Plan) (n : Nat) (listed : Array Bool) (a : Act) (w : World), S w → planB .any l.toArray n p listed = true → wpPlan P l S Q p a w → wpAnyH P .any l.toArray Q S n listed a w
  | .done, n, listed, a, w, _, hB, h => by
    simp only [planB, Bool.and_eq_true, beq_iff_eq, List.isEmpty_iff] at hB
    exact wpAnyH_done hB.2 h n
  | .take i p, n, listed, a, w, hS, hB, h => by
    simp only [planB, Bool.and_eq_true, decide_eq_true_eq] at hB
    obtain ⟨⟨hn, h1⟩, h2⟩ := hB
    obtain ⟨m, rfl⟩ : ∃ m, n = m + 1 := ⟨n - 1, by omega⟩
    cases ho : l.toArray[i]? with
    | none => rw [ho] at h1; cases h1
    | some o =>
      rw [ho] at h1
      simp only [Bool.and_eq_true] at h1
      have ho' : l[i]? = some o := by simpa using ho
      have hq : qOp P l.toArray S i (fun a' => wpPlan P l S Q p a' w) a := by unfold qOp; rw [ho]; exact h o ho'
      obtain ⟨v, hy, hk⟩ := yieldsIn_of_qOp ho hq
      exact wpAnyH_take ho hsel h1.1.2 h1.2 (fun c a w => by cases o.dst with | none => exact fun h => h | some d => exact hQ c d v a w) (yieldsIf_of_in h1.1.1 hy) hS (wpAnyH_of_plan hQ hsel p m _ _ w hS h2 hk)
  | .one i p, n, listed, a, w, hS, hB, h => by
    simp only [planB, Bool.and_eq_true, decide_eq_true_eq] at hB
    obtain ⟨⟨hn, h1⟩, h2⟩ := hB
    obtain ⟨m, rfl⟩ : ∃ m, n = m + 1 := ⟨n - 1, by omega⟩
    refine wpAnyH_all h1 (by simp) fun j hj => ?_
    have hlt := ready_lt (h1 ▸ hj)
    simp only [List.mem_singleton] at hj
    subst hj
    exact wpOp_of_stepAt hlt (fun a' w' hS' hs => wpAnyH_of_plan hQ hsel p m _ a' w' hS' h2 hs) h
  | .two i p j q, n, listed, a, w, hS, hB, h => by
    simp only [planB, Bool.and_eq_true, decide_eq_true_eq] at hB
    obtain ⟨⟨⟨hn, h1⟩, h2⟩, h3⟩ := hB
    obtain ⟨m, rfl⟩ : ∃ m, n = m + 1 := ⟨n - 1, by omega⟩
    refine wpAnyH_all h1 (by simp) fun x hx => ?_
    have hlt := ready_lt (h1 ▸ hx)
    simp only [List.mem_cons, List.not_mem_nil, or_false] at hx
    rcases hx with rfl | rfl
    · exact wpOp_of_stepAt hlt (fun a' w' hS' hs => wpAnyH_of_plan hQ hsel p m _ a' w' hS' h2 hs) h.1
    · exact wpOp_of_stepAt hlt (fun a' w' hS' hs => wpAnyH_of_plan hQ hsel q m _ a' w' hS' h3 hs) h.2
  | .three i p j q k r, n, listed, a, w, hS, hB, h => by
    simp only [planB, Bool.and_eq_true, decide_eq_true_eq] at hB
    obtain ⟨⟨⟨⟨hn, h1⟩, h2⟩, h3⟩, h4⟩ := hB
    obtain ⟨m, rfl⟩ : ∃ m, n = m + 1 := ⟨n - 1, by omega⟩
    refine wpAnyH_all h1 (by simp) fun x hx => ?_
    have hlt := ready_lt (h1 ▸ hx)
    simp only [List.mem_cons, List.not_mem_nil, or_false] at hx
    rcases hx with rfl | rfl | rfl
    · exact wpOp_of_stepAt hlt (fun a' w' hS' hs => wpAnyH_of_plan hQ hsel p m _ a' w' hS' h2 hs) h.1
    · exact wpOp_of_stepAt hlt (fun a' w' hS' hs => wpAnyH_of_plan hQ hsel q m _ a' w' hS' h3 hs) h.2.1
    · exact wpOp_of_stepAt hlt (fun a' w' hS' hs => wpAnyH_of_plan hQ hsel r m _ a' w' hS' h4 hs) h.2.2
theorem wp_region_plan {id : Nat} {a : Act} {w : World} {l : List Oper} (S : World → Prop) (p : Plan) (hm : P.follows .mixedOrders = true) (hsel : Region.noSelect l.toArray = true)
    (hB : planB .any l.toArray l.length p (Array.replicate l.length false) = true) (hQ : ∀ c d v a w, Q (.panic c) (Act.put a (some d) v) w → Q (.panic c) a w) (hS : S w.drew)
    (h : wpPlan P l S Q p a w.drew) : (Code.region id l.toArray true).wp P Q a w := by
  refine wp_region_held (S := S) hm ?_
  have := wpAnyH_of_plan hQ hsel p l.length (Array.replicate l.length false) a w.drew hS hB h
  simpa using this
end

/-! ## Single operations of such a walk -/
section
variable {P : Program} {ops : Array Oper} {o : Oper} {a : Act} {w : World} {K : Act → World → Prop} {Q : Exit → Act → World → Prop} {E : Prop}
theorem step_value (hgd : o.guard = none) (v : Value) (w' : World) (hrun : (execOp a.eval o).run P w = .ok (.value v) w') (h : K (a.put o.dst v) w') : if Region.wanted o (yielded ops a.tmps) = true then Oper.wp P o a w K Q else E := by
  rw [if_pos (wanted_plain hgd)]
  unfold Oper.wp
  rw [hrun]
  exact h
theorem step_alloc (hgd : o.guard = none) (ty : TypeId) (ho : o.op = .alloc ty) (cs : List Value) (hz : (P.info? ty).map (fun i => i.zero.map (·.cells)) = some (some cs.toArray))
    (h : ∀ w', Row w' w.heap.size ty cs → w.heap.size < w'.heap.size → w.grownBy w' none → K (a.put o.dst (.pointer (some ⟨w.heap.size, 0, none⟩))) w') : if Region.wanted o (yielded ops a.tmps) = true then Oper.wp P o a w K Q else E := by
  cases hq : P.info? ty with
  | none => simp [hq] at hz
  | some i =>
    cases hz0 : i.zero with
    | none => simp [hq, hz0] at hz
    | some z =>
      have hzc : z.cells = cs.toArray := by simpa [hq, hz0] using hz
      refine step_value hgd _ _ (exec_alloc_row o ty ho z (by simp [hq, hz0])) ?_
      rw [hzc]
      exact h _ (row_alloc w ty cs) (by simp) (World.grownBy_alloc w _ none)
theorem step_store_all (hgd : o.guard = none) (ty : TypeId) (x v : Operand) (ho : o.op = .store ty x v) (g : Nat) (hx : a.eval x = .pointer (some ⟨g, 0, none⟩)) (e : TypeId) (cur : List Value) (hr : Row w g e cur) (cs : List Value) (hv : a.eval v = .agg cs.toArray)
    (h1 : ∀ u ∈ cs, u.oneCell' = true) (hl : cur.length = cs.length) (hi : (P.info? ty).map (·.size) = some cs.length)
    (h : ∀ w', Row w' g e cs → w.grownBy w' (some g) → K (a.put o.dst undef) w') : if Region.wanted o (yielded ops a.tmps) = true then Oper.wp P o a w K Q else E := by
  rw [if_pos (wanted_plain hgd)]
  unfold Oper.wp execOp
  simp only [ho, hx, hv, Instr.storeAt, Instr.sureAddr, Sem.run_bind, Sem.run_pure, Result.andThen_ok, run_storeVar_at w ty g cur.toArray e hr cs.toArray (by simpa using h1) (by simpa using hl) (by simpa using hi)]
  exact h _ (setRow_heap w g _ _ e _ hr) ⟨rfl, rfl, rfl, by simp, fun k _ hk => setRow_other w g k _ (fun he => hk (by rw [he]))⟩
theorem step_load_all (hgd : o.guard = none) (ty : TypeId) (x : Operand) (ho : o.op = .load ty x) (g : Nat) (hx : a.eval x = .pointer (some ⟨g, 0, none⟩)) (e : TypeId) (cs : List Value) (hr : Row w g e cs) (d : TypeDesc)
    (hu : P.underlying ty = some d) (hd : (match d with | .struct _ | .array _ _ => true | _ => false) = true) (hi : (P.info? ty).map (·.size) = some cs.length) (h : K (a.put o.dst (.agg cs.toArray)) w) : if Region.wanted o (yielded ops a.tmps) = true then Oper.wp P o a w K Q else E :=
  step_value hgd _ _ (exec_load w ty x ho ⟨g, 0, none⟩ hx cs hr.cells d hu hd hi) h
/-- A whole array read, in every world of a class. -/
theorem quiet_load_all {S : World → Prop} {Kq : Act → Prop} (ty : TypeId) (x : Operand) (ho : o.op = .load ty x) (g : Nat) (hx : a.eval x = .pointer (some ⟨g, 0, none⟩)) (e : TypeId) (cs : List Value) (hr : ∀ w, S w → Row w g e cs) (d : TypeDesc)
    (hu : P.underlying ty = some d) (hd : (match d with | .struct _ | .array _ _ => true | _ => false) = true) (hi : (P.info? ty).map (·.size) = some cs.length) (h : Kq (a.put o.dst (.agg cs.toArray))) : o.quiet P a S Kq := by
  refine ⟨.agg cs.toArray, fun w hS => ?_, h⟩
  unfold Oper.quietAt
  rw [exec_load w ty x ho ⟨g, 0, none⟩ hx cs (hr w hS).cells d hu hd hi]
  exact ⟨rfl, rfl⟩
theorem wpQuiet_load_all {S : World → Prop} {Qq : Act → Prop} {rest : List Oper} (hgd : o.guard = none) (ty : TypeId) (x : Operand) (ho : o.op = .load ty x) (g : Nat) (hx : a.eval x = .pointer (some ⟨g, 0, none⟩)) (e : TypeId) (cs : List Value) (hr : ∀ w, S w → Row w g e cs) (d : TypeDesc)
    (hu : P.underlying ty = some d) (hd : (match d with | .struct _ | .array _ _ => true | _ => false) = true) (hi : (P.info? ty).map (·.size) = some cs.length) (h : wpQuiet P ops S Qq rest (a.put o.dst (.agg cs.toArray))) : wpQuiet P ops S Qq (o :: rest) a := by
  show if Region.wanted o (yielded ops a.tmps) then o.quiet P a S (wpQuiet P ops S Qq rest) else wpQuiet P ops S Qq rest (a.put o.dst undef)
  rw [if_pos (wanted_plain hgd)]
  exact quiet_load_all ty x ho g hx e cs hr d hu hd hi h
end

/-! ## An element of an array value -/
section
variable {P : Program}
/-- The walk stands at this operation. -/
theorem wpList_at {ops : Array Oper} {rest : List Oper} (o : Oper) {a : Act} {w : World} {Q : Exit → Act → World → Prop} (h : wpList P ops Q (o :: rest) a w) : wpList P ops Q (o :: rest) a w := h
theorem run_index_agg (w : World) (t e : TypeId) (n : Nat) (ke : IntKind) (ht : P.underlying t = some (.array n e)) (he : P.underlying e = some (.int ke)) (hsz : ∀ w, (sizeOf e).run P w = .ok 1 w) (cs : List Value) (k : IntKind) (i : Nat) (hi : i < n) (u : Value)
    (hu : cs[i]? = some u) : (Instr.index t (.agg cs.toArray) (.int k (i : Int))).run P w = .ok u w := by
  simp [Instr.index, asIntOf, run_underlying ht, part, isAgg, run_underlying he, hsz, hi, hu]
theorem wpList_index_agg {ops : Array Oper} {rest : List Oper} {o : Oper} {a : Act} {w : World} {Q : Exit → Act → World → Prop} (hgd : o.guard = none) (t : TypeId) (x ix : Operand) (ho : o.op = .index t x ix) (e : TypeId) (n : Nat) (ke : IntKind)
    (ht : P.underlying t = some (.array n e)) (he : P.underlying e = some (.int ke)) (hsz : ∀ w, (sizeOf e).run P w = .ok 1 w) (cs : List Value) (hx : a.eval x = .agg cs.toArray) (k : IntKind) (i : Nat) (hix : a.eval ix = .int k (i : Int)) (hi : i < n) (u : Value) (hu : cs[i]? = some u)
    (h : wpList P ops Q rest (a.put o.dst u) w) : wpList P ops Q (o :: rest) a w := by
  refine wpList_value hgd u ?_ h
  unfold execOp
  simp [ho, hx, hix, run_index_agg w t e n ke ht he hsz cs k i hi u hu]
end
end Go.Proofs.YtojdondipkbjhaaDoor
