/-
  Words of layer 11: the values of accesses, outcomes and replays; comparisons of accesses and outcomes; a replay's state. No condition.
-/
import Derived.Test.YtfcbcclcmgheeaaRtQ
import Derived.Test.YtfcbcclcmgheeaaDvO
import Derived.Test.YtfcbcclcmgheeaaDvE
import Derived.Test.YtfcbcclcmgheeaaDvL
import Derived.Deep.LoopGhost
set_option linter.unusedSimpArgs false
set_option linter.unusedVariables false
namespace Go.Proofs.Ytfcbcclcmgheeaa
open Go.RowKit

theorem grown_trans {w w1 w2 : World} {row : Option Nat} (h : w.grownBy w1 row) (k : w1.grownBy w2 row) : w.grownBy w2 row :=
  ⟨k.os.trans h.os, k.tape.trans h.tape, k.output.trans h.output, Nat.le_trans h.size k.size, fun b hb hne => (k.block b (Nat.lt_of_lt_of_le hb h.size) hne).trans (h.block b hb hne)⟩
theorem grown_drewN {w w1 : World} {row : Option Nat} (h : w.grownBy w1 row) (k : Nat) : w.grownBy (w1.drewN k) row := ⟨h.os, h.tape, h.output, h.size, h.block⟩
theorem grown_new {w w1 w2 : World} {row : Option Nat} {b : Nat} (h : w.grownBy w1 row) (k : w1.grownBy w2 (some b)) (hb : w.heap.size ≤ b) : w.grownBy w2 row :=
  ⟨k.os.trans h.os, k.tape.trans h.tape, k.output.trans h.output, Nat.le_trans h.size k.size, fun q hq hne => (k.block q (Nat.lt_of_lt_of_le hq h.size) (by simp; omega)).trans (h.block q hq hne)⟩
theorem grown_any11 {w w' : World} {row : Option Nat} (h : w.grownBy w' none) : w.grownBy w' row := ⟨h.os, h.tape, h.output, h.size, fun k hk _ => h.block k hk (by simp)⟩
theorem grown_own {w w1 w2 : World} {row r2 : Option Nat} (h : w.grownBy w1 row) (k : w1.grownBy w2 r2) (hb : ∀ q, r2 = some q → w.heap.size ≤ q) : w.grownBy w2 row :=
  ⟨k.os.trans h.os, k.tape.trans h.tape, k.output.trans h.output, Nat.le_trans h.size k.size, fun q hq hne => (k.block q (Nat.lt_of_lt_of_le hq h.size) (fun e => by have := hb q e.symm; omega)).trans (h.block q hq hne)⟩
theorem grown_to_below {w w' : World} {g B : Nat} (h : w.grownBy w' (some g)) (hB : B ≤ w.heap.size) (hg : B ≤ g) : Below B w w' := grown_below h hB (by rintro k hk; cases hk; exact hg)
theorem Reads.keptG {w w' : World} {g size n : Nat} {A : Option Addr} {xs : List Value} (h : Reads w w.heap.size size A n xs) (hg : w.grownBy w' (some g)) (hA : 0 < n → ∀ ad, A = some ad → ad.block ≠ g) : Reads w' w'.heap.size size A n xs :=
  ⟨h.1, fun h0 => by
    obtain ⟨ad, e, hb, hc⟩ := h.2 h0
    refine ⟨ad, e, Nat.lt_of_lt_of_le hb hg.size, fun j u hu => (World.cell?_of_block (hg.block (ad.add j).block (by rw [block_of_add]; exact hb) (fun e' => ?_))).trans (hc j u hu)⟩
    rw [block_of_add] at e'
    cases e'
    exact hA h0 ad e rfl⟩
def rrs (l : List DvR) : List Value := l.flatMap DvR.cs
def rxs (l : List DvR) : List Int := l.map DvR.x
theorem rrs_one (l : List DvR) : ∀ u ∈ rrs l, u.oneCell' = true := fun u hu => by
  obtain ⟨r, _, h⟩ := List.mem_flatMap.1 hu
  exact r.cs_one u h
/-! ## Outcomes -/
def RtO.cs (a : RtO) : List Value := [.int .i64 a.n, .int .i64 a.e]
def RtO.v (a : RtO) : Value := .agg a.cs.toArray
theorem RtO.cs_one (a : RtO) : ∀ u ∈ a.cs, u.oneCell' = true := by intro u hu; unfold RtO.cs at hu; simp at hu; rcases hu with rfl | rfl <;> rfl
def zeroLO : List Value := [.int .i64 0, .int .i64 0]
theorem zero_lo : (Try.prog.info? 30).map (fun i => i.zero.map (·.cells)) = some (some zeroLO.toArray) := by kernel_rfl
section
variable {w : World} {g : Nat} {e : TypeId}
theorem load_ac {a : DvA} (hr : Row w g e a.cs) : (loadVar 27 ⟨g, 0, none⟩).run Try.prog w = .ok a.v w := run_loadVar_at (P := Try.prog) w _ ⟨g, 0, none⟩ a.cs hr.cells _ Try.underlying27 rfl (by kernel_rfl)
theorem load_lo {a : RtO} (hr : Row w g e a.cs) : (loadVar 30 ⟨g, 0, none⟩).run Try.prog w = .ok a.v w := run_loadVar_at (P := Try.prog) w _ ⟨g, 0, none⟩ a.cs hr.cells _ Try.underlying30 rfl (by kernel_rfl)
end
/-- An access, an outcome and a bool come back. -/
def GivesS (r : DvA × RtO × Bool) (w : World) (e : Ending) (w' : World) : Prop := e = .returned (.tuple #[r.1.v, r.2.1.v, .bool r.2.2]) ∧ Below w.heap.size w w'
def GivesX (v : Value) (w : World) (e : Ending) (w' : World) : Prop := e = .returned v ∧ Below w.heap.size w w'
section
variable {ρ : Operand → Value} {o : Oper}
theorem exec_loadLO (w : World) (x : Operand) (ho : o.op = .load 30 x) (g : Nat) (hx : ρ x = .pointer (some ⟨g, 0, none⟩)) (a : RtO) {e : TypeId} (hr : Row w g e a.cs) :
    (execOp ρ o).run Try.prog w = .ok (.value a.v) w := exec_load w _ x ho ⟨g, 0, none⟩ hx a.cs hr.cells _ Try.underlying30 rfl (by kernel_rfl)
end
/-! ## Comparisons -/
section
variable {P : Program} (w : World)
theorem eqFields_and (d : Nat) (xs ys : Array Value) (f : Field) (fs : List Field) (u v : Value) (b c : Bool) (hn : f.name ≠ "_") (hx : (part f.type xs f.offset).run P w = .ok u w) (hy : (part f.type ys f.offset).run P w = .ok v w)
    (he : (Op.equalIn d f.type u v).run P w = .ok b w) (hr : (Op.eqFields d xs ys fs).run P w = .ok c w) : (Op.eqFields d xs ys (f :: fs)).run P w = .ok (b && c) w := by
  rw [Op.eqFields]
  cases b <;> simp [hn, hr, hx, hy, he]
theorem part_one (e : TypeId) (cs : Array Value) (i : Nat) (v : Value) (ha : (isAgg e).run P w = .ok false w) (hv : cs[i]? = some v) : (part e cs i).run P w = .ok v w := by
  simp [part, ha, hv]
end
theorem str_eqb (s t : ByteArray) : (s.toList == t.toList) = decide (s = t) := by
  rw [ByteArray.toList_eq, ByteArray.toList_eq, Bool.eq_iff_iff, beq_iff_eq, decide_eq_true_eq]
  exact ⟨ba_ext, fun h => by rw [h]⟩
def acEq (a b : DvA) : Bool := decide (a.k = b.k) && (decide (a.b = b.b) && (decide (a.c = b.c) && (decide (a.s = b.s) && true)))
theorem acEq_self (a : DvA) : acEq a a = true := by unfold acEq; simp
theorem acEq_no {a : DvA} (h : a.k ≠ 0) : acEq a noAc = false := by unfold acEq; rw [show decide (a.k = noAc.k) = false from decide_eq_false h]; rfl
def loEq (a b : RtO) : Bool := decide (a.n = b.n) && (decide (a.e = b.e) && true)
theorem loEq_self (a : RtO) : loEq a a = true := by unfold loEq; simp
theorem fields_ac : (Try.prog.fieldsOf 27).toList.map (fun f => (f.type, f.offset, f.name == "_")) = [(3, 0, false), (3, 1, false), (3, 2, false), (9, 3, false)] := by kernel_rfl
theorem eq_i64 (w : World) (n m : Int) : (Op.equalIn 9999 3 (.int .i64 n) (.int .i64 m)).run Try.prog w = .ok (decide (n = m)) w := by
  rw [run_equalIn_int w 9998 3 .i64 .i64 n m Try.underlying3]
  congr 1
theorem eq_ac (w : World) (a b : DvA) : (Op.equalIn 10000 27 (.agg a.cs.toArray) (.agg b.cs.toArray)).run Try.prog w = .ok (acEq a b) w := by
  obtain ⟨k, p, c, s⟩ := a
  obtain ⟨k', p', c', s'⟩ := b
  have hu : Try.prog.underlying 27 = some (.struct (Try.prog.fieldsOf 27)) := by kernel_rfl
  have hp : Try.prog.stoodInHeld 27 = false := by kernel_rfl
  have hf := fields_ac
  rw [run_equalIn_agg w 9999 _ _ _ hu hp]
  generalize (Try.prog.fieldsOf 27).toList = fs at hf
  rcases fs with _ | ⟨f0, _ | ⟨f1, _ | ⟨f2, _ | ⟨f3, _ | ⟨f4, r⟩⟩⟩⟩⟩
  · simp at hf
  · simp at hf
  · simp at hf
  · simp at hf
  rotate_left
  · simp at hf
  · simp only [List.map_cons, List.map_nil, List.cons.injEq, Prod.mk.injEq, and_true] at hf
    obtain ⟨⟨h0, o0, n0⟩, ⟨h1, o1, n1⟩, ⟨h2, o2, n2⟩, h3, o3, n3⟩ := hf
    have n0 : f0.name ≠ "_" := by simpa using n0
    have n1 : f1.name ≠ "_" := by simpa using n1
    have n2 : f2.name ≠ "_" := by simpa using n2
    have n3 : f3.name ≠ "_" := by simpa using n3
    have ha0 : ∀ w, (isAgg 3).run Try.prog w = .ok false w := fun w => by kernel_rfl
    have ha1 : ∀ w, (isAgg 9).run Try.prog w = .ok false w := fun w => by kernel_rfl
    exact eqFields_and w 9999 _ _ f0 [f1, f2, f3] (.int .i64 k) (.int .i64 k') _ _ n0 (by rw [h0, o0]; exact part_one w _ _ 0 _ (ha0 w) rfl) (by rw [h0, o0]; exact part_one w _ _ 0 _ (ha0 w) rfl) (by rw [h0]; exact eq_i64 w k k')
      (eqFields_and w 9999 _ _ f1 [f2, f3] (.int .i64 p) (.int .i64 p') _ _ n1 (by rw [h1, o1]; exact part_one w _ _ 1 _ (ha0 w) rfl) (by rw [h1, o1]; exact part_one w _ _ 1 _ (ha0 w) rfl) (by rw [h1]; exact eq_i64 w p p')
        (eqFields_and w 9999 _ _ f2 [f3] (.int .i64 c) (.int .i64 c') _ _ n2 (by rw [h2, o2]; exact part_one w _ _ 2 _ (ha0 w) rfl) (by rw [h2, o2]; exact part_one w _ _ 2 _ (ha0 w) rfl) (by rw [h2]; exact eq_i64 w c c')
          (eqFields_and w 9999 _ _ f3 [] (.string s) (.string s') _ true n3 (by rw [h3, o3]; exact part_one w _ _ 3 _ (ha1 w) rfl) (by rw [h3, o3]; exact part_one w _ _ 3 _ (ha1 w) rfl) (by rw [h3]; rw [run_equalIn_string w 9998 9 s s' Try.underlying9, ← str_eqb]) (by simp [Op.eqFields]))))
theorem fields_lo : (Try.prog.fieldsOf 30).toList.map (fun f => (f.type, f.offset, f.name == "_")) = [(3, 0, false), (28, 1, false)] := by kernel_rfl
theorem eq_lo (w : World) (a b : RtO) : (Op.equalIn 10000 30 (.agg a.cs.toArray) (.agg b.cs.toArray)).run Try.prog w = .ok (loEq a b) w := by
  obtain ⟨k, p⟩ := a
  obtain ⟨k', p'⟩ := b
  have hu : Try.prog.underlying 30 = some (.struct (Try.prog.fieldsOf 30)) := by kernel_rfl
  have hp : Try.prog.stoodInHeld 30 = false := by kernel_rfl
  have hf := fields_lo
  rw [run_equalIn_agg w 9999 _ _ _ hu hp]
  generalize (Try.prog.fieldsOf 30).toList = fs at hf
  rcases fs with _ | ⟨f0, _ | ⟨f1, _ | ⟨f2, r⟩⟩⟩
  · simp at hf
  · simp at hf
  rotate_left
  · simp at hf
  · simp only [List.map_cons, List.map_nil, List.cons.injEq, Prod.mk.injEq, and_true] at hf
    obtain ⟨⟨h0, o0, n0⟩, h1, o1, n1⟩ := hf
    have n0 : f0.name ≠ "_" := by simpa using n0
    have n1 : f1.name ≠ "_" := by simpa using n1
    have ha0 : ∀ w, (isAgg 3).run Try.prog w = .ok false w := fun w => by kernel_rfl
    have ha1 : ∀ w, (isAgg 28).run Try.prog w = .ok false w := fun w => by kernel_rfl
    exact eqFields_and w 9999 _ _ f0 [f1] (.int .i64 k) (.int .i64 k') _ _ n0 (by rw [h0, o0]; exact part_one w _ _ 0 _ (ha0 w) rfl) (by rw [h0, o0]; exact part_one w _ _ 0 _ (ha0 w) rfl) (by rw [h0]; exact eq_i64 w k k')
      (eqFields_and w 9999 _ _ f1 [] (.int .i64 p) (.int .i64 p') _ true n1 (by rw [h1, o1]; exact part_one w _ _ 1 _ (ha1 w) rfl) (by rw [h1, o1]; exact part_one w _ _ 1 _ (ha1 w) rfl) (by rw [h1, run_equalIn_int w 9998 28 .i64 .i64 p p' Try.underlying28]; congr 1) (by simp [Op.eqFields]))
section
variable {ρ : Operand → Value} {o : Oper}
theorem exec_eqlA (w : World) (x y : Operand) (ho : o.op = .binOp .eql 27 x y 27) (a b : DvA) (h1 : ρ x = .agg a.cs.toArray) (h2 : ρ y = .agg b.cs.toArray) :
    (execOp ρ o).run Try.prog w = .ok (.value (.bool (acEq a b))) w := by
  have hg : Try.prog.eqGuardType Try.prog.depth 27 = false := by kernel_rfl
  unfold execOp
  simp only [ho, h1, h2, Sem.run_bind, run_eqGuard_agg w _ _ _ _ _ _ hg, Result.andThen_ok, run_eql_struct, eq_ac w a b]
  rfl
theorem exec_neqA (w : World) (x y : Operand) (ho : o.op = .binOp .neq 27 x y 27) (a b : DvA) (h1 : ρ x = .agg a.cs.toArray) (h2 : ρ y = .agg b.cs.toArray) :
    (execOp ρ o).run Try.prog w = .ok (.value (.bool (!acEq a b))) w := by
  have hg : Try.prog.eqGuardType Try.prog.depth 27 = false := by kernel_rfl
  unfold execOp
  simp only [ho, h1, h2, Sem.run_bind, run_eqGuard_agg w _ _ _ _ _ _ hg, Result.andThen_ok, run_neq_struct, eq_ac w a b]
  rfl
theorem exec_eqlL (w : World) (x y : Operand) (ho : o.op = .binOp .eql 30 x y 30) (a b : RtO) (h1 : ρ x = .agg a.cs.toArray) (h2 : ρ y = .agg b.cs.toArray) :
    (execOp ρ o).run Try.prog w = .ok (.value (.bool (loEq a b))) w := by
  have hg : Try.prog.eqGuardType Try.prog.depth 30 = false := by kernel_rfl
  unfold execOp
  simp only [ho, h1, h2, Sem.run_bind, run_eqGuard_agg w _ _ _ _ _ _ hg, Result.andThen_ok, run_eql_struct, eq_lo w a b]
  rfl
end
/-! ## A replay's state -/
def rpCs (bank : Int) (A : Option Addr) (n c : Nat) (a : DvA) : List Value := .int .i64 bank :: .slice A n c :: a.cs
theorem rpCs_one (bank : Int) (A : Option Addr) (n c : Nat) (a : DvA) : ∀ u ∈ rpCs bank A n c a, u.oneCell' = true := by
  intro u hu
  unfold rpCs at hu
  simp only [List.mem_cons] at hu
  rcases hu with rfl | rfl | hu
  · rfl
  · rfl
  · exact a.cs_one u hu
def zeroRP : List Value := [.int .i64 0, .slice none 0 0, .int .i64 0, .int .i64 0, .int .i64 0, .string ⟨#[]⟩]
theorem zero_rp : (Try.prog.info? 53).map (fun i => i.zero.map (·.cells)) = some (some zeroRP.toArray) := by kernel_rfl
/-- The state lies in block g; its log lies below block B. -/
def RpOK (w : World) (g B : Nat) (bank : Int) (s : RtS) : Prop :=
  ∃ (l : List DvR) (A : Option Addr) (n c : Nat), s.l = rxs l ∧ n ≤ c ∧ B ≤ g ∧ Row w g 53 (rpCs bank A n c s.a) ∧ Reads w B 2 A n (rrs l)
theorem RpOK.lt {w : World} {g B : Nat} {bank : Int} {s : RtS} (h : RpOK w g B bank s) : g < w.heap.size := by obtain ⟨_, _, _, _, _, _, _, h, _⟩ := h; exact h.lt
theorem RpOK.le {w : World} {g B : Nat} {bank : Int} {s : RtS} (h : RpOK w g B bank s) : B ≤ g := by obtain ⟨_, _, _, _, _, _, h, _⟩ := h; exact h
theorem RpOK.on {w w' : World} {g B : Nat} {bank : Int} {s : RtS} (h : RpOK w g B bank s) (hb : Below w.heap.size w w') : RpOK w' g B bank s := by
  obtain ⟨l, A, n, c, h1, h2, h3, h4, h5⟩ := h
  exact ⟨l, A, n, c, h1, h2, h3, h4.on hb, h5.below (hb.mono (Nat.le_trans h3 (Nat.le_of_lt h4.lt)))⟩
theorem RpOK.kept {w w' : World} {g B q : Nat} {bank : Int} {s : RtS} (h : RpOK w g B bank s) (hg : w.grownBy w' (some q)) (hq : q ≠ g) (hB : B ≤ q) : RpOK w' g B bank s := by
  obtain ⟨l, A, n, c, h1, h2, h3, h4, h5⟩ := h
  exact ⟨l, A, n, c, h1, h2, h3, h4.kept hg (by simp; omega), h5.kept hg (Nat.le_trans h3 (Nat.le_of_lt h4.lt)) (by rintro k hk; cases hk; exact hB)⟩
theorem RpOK.drewN {w : World} {g B : Nat} {bank : Int} {s : RtS} (h : RpOK w g B bank s) (k : Nat) : RpOK (w.drewN k) g B bank s := h
/-- A replay's step: the state's block may change, and what is new. -/
def GivesP (g B : Nat) (bank : Int) (s : RtS) (v : Value) (w : World) (e : Ending) (w' : World) : Prop := e = .returned v ∧ RpOK w' g B bank s ∧ w.grownBy w' (some g)
end Go.Proofs.Ytfcbcclcmgheeaa
