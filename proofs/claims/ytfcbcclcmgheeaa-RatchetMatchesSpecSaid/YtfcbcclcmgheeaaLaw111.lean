/-
  RatchetMatchesSpec: Level and Raise return what the specification says, for every log of at most 200 results. For every input; no condition.
-/
import Derived.Test.YtfcbcclcmgheeaaRows
import Derived.Test.YtfcbcclcmgheeaaW111
import Derived.Test.YtfcbcclcmgheeaaArgM
import Derived.ProofKit
import Derived.OpenShut
import Derived.SizedLaws
set_option linter.unusedSimpArgs false
set_option linter.unusedVariables false
namespace Go.Proofs.Ytfcbcclcmgheeaa.law111
open Go.ChangeShapes Go.WideShapes Go.ChangeAt Go.RowKit
open Go.Proofs.Ytfcbcclcmgheeaa

theorem own : ownKnob Try.prog.godebug = none := by kernel_rfl
theorem laidOut : laidOutB Try.prog = true := by kernel_rfl

set_option maxRecDepth 100000 in
theorem lifted (os : Os) (started : os.Started) (H : Type) (enc : TypeId × Value → H) :
    ReturnsInHanded {} Try.checked os 3 .any (Rows.ratchetMatchesSpecSpec.pre6 enc Try.prog Try.f3 Rows.ratchetMatchesSpecRow.domain false) (Rows.ratchetMatchesSpecSpec.post enc Try.prog Try.f3 false true false false) := by
  refine returnsInHanded_of_change_sized (C := Try.checked) own started (by kernel_rfl) Try.func3
    (ChangeSpec.witness6 (enc := enc) (C := Try.checked) false ⟨#[], #[.agg #[.int .i64 0, .int .i64 0, .int .i64 0, .slice none 0 0]], []⟩ 8 (by kernel_rfl) (by kernel_rfl) (by kernel_rfl) (by kernel_rfl)) ?_
  intro W base args ds gs before hval0 hW hcnd _ _
  have hval : ∀ (j : Nat) t v, Try.f3.params[j]? = some t → args[j]? = some v → Value.okWide Try.prog W .any base t v := hval0
  have hW' := hW
  obtain ⟨p, q, hA0, hV, rfl, hfz, hnd⟩ := hW
  have hA : DataW.TrodAll enc Try.prog W 0 (fun _ => true) true Try.f3.params.toList args.toList ds p := hA0
  rw [Try.params3] at hA hval
  obtain ⟨v0, vs0, d0, ds0, p0, q0, hargs, rfl, rfl, h0, r0⟩ := trodAll_cons hA
  obtain ⟨rfl, rfl, rfl⟩ := trodAll_nil r0
  obtain rfl : args = #[v0] := by cases args; simp_all
  obtain ⟨rfl, rfl⟩ := trodVars_none hV
  have k0 := h0
  have lt0 : ∀ x ∈ p0, x.block < W.heap.size := by obtain ⟨m, hm⟩ := k0; exact DataW.trod_lt m _ _ _ hm
  obtain ⟨cs, m, rfl, hcl, hF⟩ := arg_fields Try.underlying24 (hval 0 24 v0 rfl rfl) h0
  rw [show Try.prog.cellsOf 24 = 4 by kernel_rfl] at hcl
  obtain ⟨z0, q0, _⟩ := field_int hF 0 0 ⟨_, rfl, rfl, rfl⟩ Try.underlying3 (by kernel_rfl)
  obtain ⟨z1, q1, _⟩ := field_int hF 1 1 ⟨_, rfl, rfl, rfl⟩ Try.underlying3 (by kernel_rfl)
  obtain ⟨z2, q2, _⟩ := field_int hF 2 2 ⟨_, rfl, rfl, rfl⟩ Try.underlying3 (by kernel_rfl)
  obtain ⟨A3, n3, c3, l3, q3, rd3, nc3, hn3⟩ := field_ress hF 3 3 ⟨_, rfl, rfl, rfl⟩ (by kernel_rfl) Try.underlying22 Try.underlying78 (by kernel_rfl) ⟨_, rfl, rfl, rfl⟩ ⟨_, rfl, rfl, rfl⟩ Try.underlying3 (by kernel_rfl) Try.underlying9 (by kernel_rfl)
  have hcs : cs = [.int .i64 z0, .int .i64 z1, .int .i64 z2, .slice A3 n3 c3] := by
    have e0 := cut_up cs 0 1 1 rfl
    rw [q0, cut_up cs 1 1 2 rfl, q1, cut_up cs 2 1 3 rfl, q2, cut_up cs 3 1 4 rfl, q3, cut_end cs hcl] at e0
    exact e0.trans (by simp only [List.append_nil]; rfl)
  subst hcs
  clear hA0 hval0
  refine (w111_any z0 z1 z2 A3 n3 c3 l3 W rd3 nc3 hn3).mono fun e W' ⟨he, bel⟩ => ?_
  subst he
  exact ⟨_, rfl, _, _, _, [], _, [], hW', trodAll_mk1 (shut_bool Try.underlying4 _), (trodAll_cons_mk (Below.trod laidOut (by kernel_rfl) (of_decide_eq_true (by kernel_rfl)) k0 bel lt0) trodAll_mk0), rfl, bel.frame _, fun h => by cases h⟩

theorem over : Rows.ratchetMatchesSpecRow.holds Try.pinned (OpenSpec.ofChange Rows.ratchetMatchesSpecSpec) :=
  OpenClaim.holds_of_wide 3 Try.f3 rfl rfl rfl rfl rfl rfl rfl ⟨rfl, rfl, rfl, rfl, rfl⟩ rfl rfl rfl rfl rfl (by kernel_rfl) Try.func3 (by kernel_rfl)
    (of_decide_eq_true (by kernel_rfl)) (by unfold Func.isWrapper; first | (rw [if_pos (by decide +kernel)]; kernel_rfl) | (rw [if_neg (by decide +kernel)]; exact ⟨rfl, rfl⟩))
    (fun os started H enc _ => lifted os started H enc)

/-- The statement. -/
theorem proved : Rows.RatchetMatchesSpecSaid := over
end Go.Proofs.Ytfcbcclcmgheeaa.law111
