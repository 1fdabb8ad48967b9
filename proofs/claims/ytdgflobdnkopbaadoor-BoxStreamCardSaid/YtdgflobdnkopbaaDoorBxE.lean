/-
  Two boxes are compared; laws' common facts. No condition.
-/
import Derived.Test.YtdgflobdnkopbaaDoorSan6
import Derived.Test.YtdgflobdnkopbaaDoorStepA
namespace Go.Proofs.YtdgflobdnkopbaaDoor
open Go.RowKit

section
variable {P : Program} (w : World)
theorem eqFields_cons (d : Nat) (xs ys : Array Value) (f : Field) (fs : List Field) (u v : Value) (b : Bool) (hx : (part f.type xs f.offset).run P w = .ok u w) (hy : (part f.type ys f.offset).run P w = .ok v w)
    (he : (Op.equalIn d f.type u v).run P w = .ok true w) (hr : (Op.eqFields d xs ys fs).run P w = .ok b w) : (Op.eqFields d xs ys (f :: fs)).run P w = .ok b w := by
  rw [Op.eqFields]
  by_cases hn : f.name = "_"
  · simp [hn, hr]
  · simp [hn, hx, hy, he, hr]
end
theorem fields_box : (Tryd.prog.fieldsOf 25).toList.map (fun f => (f.type, f.offset)) = [(3, 0), (9, 1), (23, 2)] := by kernel_rfl
theorem part_one {P : Program} (w : World) (e : TypeId) (cs : Array Value) (i : Nat) (v : Value) (ha : (isAgg e).run P w = .ok false w) (hv : cs[i]? = some v) : (part e cs i).run P w = .ok v w := by
  simp [part, ha, hv]
theorem eql_box (w : World) (n : Int) (s : ByteArray) (t : List UInt8) (ht : t.length = 16) : (binOp .eql 25 (.agg (boxCs n s t).toArray) (.agg (boxCs n s t).toArray)).run Tryd.prog w = .ok (.bool true) w := by
  have hu : Tryd.prog.underlying 25 = some (.struct (Tryd.prog.fieldsOf 25)) := by kernel_rfl
  have hp : Tryd.prog.stoodInHeld 25 = false := by kernel_rfl
  have hf := fields_box
  rw [run_eql_struct, run_equalIn_agg w 9999 _ _ _ hu hp]
  generalize (Tryd.prog.fieldsOf 25).toList = fs at hf
  rcases fs with _ | ⟨f0, _ | ⟨f1, _ | ⟨f2, _ | ⟨f3, r⟩⟩⟩⟩
  · simp at hf
  · simp at hf
  · simp at hf
  rotate_left
  · simp at hf
  · skip
    simp only [List.map_cons, List.map_nil, List.cons.injEq, Prod.mk.injEq, and_true] at hf
    obtain ⟨⟨h0, o0⟩, ⟨h1, o1⟩, h2, o2⟩ := hf
    have ha0 : ∀ w, (isAgg 3).run Tryd.prog w = .ok false w := fun w => by kernel_rfl
    have ha1 : ∀ w, (isAgg 9).run Tryd.prog w = .ok false w := fun w => by kernel_rfl
    have ha2 : ∀ w, (isAgg 23).run Tryd.prog w = .ok true w := fun w => by kernel_rfl
    have hz2 : ∀ w, (sizeOf 23).run Tryd.prog w = .ok 16 w := fun w => by kernel_rfl
    have hp2 : (part 23 (boxCs n s t).toArray 2).run Tryd.prog w = .ok (.agg (bvs t).toArray) w := by
      have h : ((boxCs n s t).drop 2).take 16 = bvs t := List.take_of_length_le (by show (bvs t).length ≤ 16; rw [bvs_length, ht]; exact Nat.le_refl _)
      simp [part, ha2, hz2, h]
    have e2 := run_equalIn_bytes (P := Tryd.prog) w 9997 23 5 16 Tryd.underlying23 Tryd.underlying5 size_u8 t t ht ht
    rw [show (t == t) = true by simp] at e2
    rw [eqFields_cons w 9999 _ _ f0 [f1, f2] (.int .i64 n) (.int .i64 n) true (by rw [h0, o0]; exact part_one w _ _ 0 _ (ha0 w) rfl) (by rw [h0, o0]; exact part_one w _ _ 0 _ (ha0 w) rfl) (by rw [h0]; rw [run_equalIn_int w 9998 3 .i64 .i64 n n Tryd.underlying3]; simp)
      (eqFields_cons w 9999 _ _ f1 [f2] (.string s) (.string s) true (by rw [h1, o1]; exact part_one w _ _ 1 _ (ha1 w) rfl) (by rw [h1, o1]; exact part_one w _ _ 1 _ (ha1 w) rfl) (by rw [h1]; rw [run_equalIn_string w 9998 9 s s Tryd.underlying9]; simp)
        (eqFields_cons w 9999 _ _ f2 [] (.agg (bvs t).toArray) (.agg (bvs t).toArray) true (by rw [h2, o2]; exact hp2) (by rw [h2, o2]; exact hp2) (by rw [h2]; exact e2) (by simp [Op.eqFields])))]
    rfl
theorem exec_eql_box {ρ : Operand → Value} {o : Oper} (w : World) (x y : Operand) (ho : o.op = .binOp .eql 25 x y 25) (n : Int) (s : ByteArray) (t : List UInt8) (ht : t.length = 16) (h1 : ρ x = .agg (boxCs n s t).toArray) (h2 : ρ y = .agg (boxCs n s t).toArray) :
    (execOp ρ o).run Tryd.prog w = .ok (.value (.bool true)) w := by
  have hg : Tryd.prog.eqGuardType Tryd.prog.depth 25 = false := by kernel_rfl
  unfold execOp
  simp only [ho, h1, h2, Sem.run_bind, run_eqGuard_agg w _ _ _ _ _ _ hg, Result.andThen_ok, eql_box w n s t ht]
  rfl
/-- The cipher text, taken out of a box value. -/
theorem run_field_str (w : World) (n : Int) (s : ByteArray) (t : List UInt8) : (Instr.field 25 (.agg (boxCs n s t).toArray) 1).run Tryd.prog w = .ok (.string s) w := by
  have ha1 : (isAgg 9).run Tryd.prog w = .ok false w := by kernel_rfl
  have h := part_one (P := Tryd.prog) w 9 (boxCs n s t).toArray 1 (.string s) ha1 rfl
  have hu : Tryd.prog.underlying 25 = some (.struct (Tryd.prog.fieldsOf 25)) := by kernel_rfl
  have hf : ((Tryd.prog.fieldsOf 25)[1]?).map (fun f => (f.type, f.offset)) = some (9, 1) := by kernel_rfl
  cases hq : (Tryd.prog.fieldsOf 25)[1]? with
  | none => simp [hq] at hf
  | some f =>
    simp only [hq, Option.map_some, Option.some.injEq, Prod.mk.injEq] at hf
    simp [Instr.field, run_underlying hu, hq, hf.1, hf.2, asAgg, h]
theorem exec_field_str {ρ : Operand → Value} {o : Oper} (w : World) (x : Operand) (ho : o.op = .field 25 x 1) (n : Int) (s : ByteArray) (t : List UInt8) (h1 : ρ x = .agg (boxCs n s t).toArray) : (execOp ρ o).run Tryd.prog w = .ok (.value (.string s)) w := by
  unfold execOp
  simp [ho, h1, run_field_str]
/-- A row of another type is no slice of the call's own. -/
theorem Row.not_row {W : World} {B : Nat} {t e : TypeId} {cs : List Value} (h : Row W B t cs) (hte : t ≠ e) {base size k : Nat} {v : Value} {xs : List Value} (hr : W.ownsRow base e size v k xs) : some B ≠ v.ownBlock := by
  rcases hr.2 with ⟨rfl, _⟩ | ⟨g, cap, cur, rfl, _, hgb, _⟩
  · simp [Value.ownBlock]
  · intro e'
    obtain rfl : B = g := by simpa [Value.ownBlock] using e'
    have := (show W.heap[B]? = _ from h).symm.trans hgb
    simp at this
    exact hte this.2
/-- What Seal and Open return, behind names. -/
theorem bytes_eta (s : ByteArray) : (⟨s.data.toList.toArray⟩ : ByteArray) = s := by cases s; simp
theorem open_own (key : List UInt8) (hkey : key.length = 16) (n : Int) (hn1 : -9223372036854775808 ≤ n) (hn2 : n ≤ 9223372036854775807) (s C : ByteArray) (hs : s.size ≤ 30000) (hC : C = ⟨(cryp key n s.data.toList).toArray⟩) (w : World) (hK : Consts w) :
    Calls Tryd.prog 9 #[.agg (bvs key).toArray, .agg (boxCs n C (btag key n (cryp key n s.data.toList))).toArray] w fun e w' => e = .returned (.tuple #[.string s, .int .i64 0]) ∧ Below w.heap.size w w' := by
  have hl : (cryp key n s.data.toList).length = s.size := by rw [cryp_len]; simp
  have e := open_any key hkey n hn1 hn2 C (by rw [hC]; show (cryp key n s.data.toList).toArray.size ≤ _; rw [List.size_toArray, hl]; exact hs) (btag key n (cryp key n s.data.toList)) (btag_len _ _ _) w hK
  have h1 : C.data.toList = cryp key n s.data.toList := by rw [hC]
  have h2 : opens key n (cryp key n s.data.toList) (btag key n (cryp key n s.data.toList)) = true := by unfold opens; simp
  unfold openS openE at e
  rw [h1, h2, if_pos rfl, if_pos rfl, cryp_twice] at e
  refine e.mono ?_
  rintro e' w' ⟨rfl, hb⟩
  exact ⟨by rw [bytes_eta], hb⟩
theorem seal_as (key : List UInt8) (hkey : key.length = 16) (n : Int) (hn1 : -9223372036854775808 ≤ n) (hn2 : n ≤ 9223372036854775807) (s : ByteArray) (hs : s.size ≤ 30000) :
    ∃ (C : ByteArray) (T : List UInt8), C = ⟨(cryp key n s.data.toList).toArray⟩ ∧ T = btag key n (cryp key n s.data.toList) ∧ C.size = s.size ∧ T.length = 16 ∧
      ∀ W, Consts W → Hid (Calls Tryd.prog 11 #[.agg (bvs key).toArray, .int .i64 n, .string s] W (GivesV (.agg (boxCs n C T).toArray) W)) :=
  ⟨_, _, rfl, rfl, by show (cryp key n s.data.toList).toArray.size = _; rw [List.size_toArray, cryp_len]; simp, btag_len _ _ _, fun W hW => seal_any key hkey n hn1 hn2 s hs W hW⟩
end Go.Proofs.YtdgflobdnkopbaaDoor
