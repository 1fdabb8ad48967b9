/-
  FlashTearsAtByte: behind a cut write each byte before the cut is the new one and each from it on the old one. For every input; no condition.
-/
import Derived.Test.YtlllllcmbnmmkaaRows
import Derived.Test.YtlllllcmbnmmkaaW83
import Derived.Test.YtlllllcmbnmmkaaArgL
import Derived.ProofKit
import Derived.OpenShut
import Derived.SizedLaws
namespace Go.Proofs.Ytlllllcmbnmmkaa.law83
open Go.ChangeShapes Go.WideShapes Go.ChangeAt Go.RowKit
open Go.Proofs.Ytlllllcmbnmmkaa

theorem own : ownKnob Try.prog.godebug = none := by kernel_rfl
theorem laidOut : laidOutB Try.prog = true := by kernel_rfl

set_option maxRecDepth 100000 in
theorem lifted (os : Os) (started : os.Started) (H : Type) (enc : TypeId × Value → H) :
    ReturnsInHanded {} Try.checked os 5 .any (Rows.flashTearsAtByteSpec.pre6 enc Try.prog Try.f5 Rows.flashTearsAtByteRow.domain false) (Rows.flashTearsAtByteSpec.post enc Try.prog Try.f5 false true false false) := by
  refine returnsInHanded_of_change_sized (C := Try.checked) own started (by kernel_rfl) Try.func5
    (ChangeSpec.witness6 (enc := enc) (C := Try.checked) false ⟨#[], #[.agg #[.slice none 0 0, .int .u8 0, .int .u8 0, .int .i64 0]], []⟩ 8 (by kernel_rfl) (by kernel_rfl) (by kernel_rfl) (by kernel_rfl)) ?_
  intro W base args ds gs before hval0 hW hcnd _ _
  have hval : ∀ (j : Nat) t v, Try.f5.params[j]? = some t → args[j]? = some v → Value.okWide Try.prog W .any base t v := hval0
  have hW' := hW
  obtain ⟨p, q, hA0, hV, rfl, hfz, hnd⟩ := hW
  have hA : DataW.TrodAll enc Try.prog W 0 (fun _ => true) true Try.f5.params.toList args.toList ds p := hA0
  rw [Try.params5] at hA hval
  obtain ⟨v0, vs0, d0, ds0, p0, q0, hargs, rfl, rfl, h0, r0⟩ := trodAll_cons hA
  obtain ⟨rfl, rfl, rfl⟩ := trodAll_nil r0
  obtain rfl : args = #[v0] := by cases args; simp_all
  obtain ⟨rfl, rfl⟩ := trodVars_none hV
  have k0 := h0
  have lt0 : ∀ x ∈ p0, x.block < W.heap.size := by obtain ⟨m, hm⟩ := k0; exact DataW.trod_lt m _ _ _ hm
  obtain ⟨cs, m, rfl, hcl, hF⟩ := arg_fields Try.underlying42 (hval 0 42 v0 rfl rfl) h0
  rw [show Try.prog.cellsOf 42 = 4 by kernel_rfl] at hcl
  obtain ⟨A0, n0, c0, l0, q0, ok0⟩ := field_flash hF 0 0 ⟨_, rfl, rfl, rfl⟩ Try.underlying24 (by kernel_rfl) ⟨rfl, rfl⟩ Try.underlying22 (by kernel_rfl) Try.underlying9 (by kernel_rfl)
  obtain ⟨z1, q1, w1⟩ := field_int hF 1 1 ⟨_, rfl, rfl, rfl⟩ Try.underlying5 (by kernel_rfl)
  have b1 := bounds_u8 w1
  obtain ⟨x1, rfl⟩ : ∃ x : Nat, z1 = (x : Int) := ⟨z1.toNat, by omega⟩
  obtain ⟨z2, q2, w2⟩ := field_int hF 2 2 ⟨_, rfl, rfl, rfl⟩ Try.underlying5 (by kernel_rfl)
  have b2 := bounds_u8 w2
  obtain ⟨x2, rfl⟩ : ∃ x : Nat, z2 = (x : Int) := ⟨z2.toNat, by omega⟩
  obtain ⟨z3, q3, w3⟩ := field_int hF 3 3 ⟨_, rfl, rfl, rfl⟩ Try.underlying3 (by kernel_rfl)
  have hcs : cs = [.slice A0 n0 c0, .int .u8 (x1 : Int), .int .u8 (x2 : Int), .int .i64 z3] := by
    have e0 := cut_up cs 0 1 1 rfl
    rw [q0, cut_up cs 1 1 2 rfl, q1, cut_up cs 2 1 3 rfl, q2, cut_up cs 3 1 4 rfl, q3, cut_end cs hcl] at e0
    exact e0.trans (by simp only [List.append_nil]; rfl)
  subst hcs
  obtain ⟨bb, hbb⟩ := u8_of (x := x2) (by omega)
  subst hbb
  clear hA0 hval0
  refine (walk83 A0 n0 c0 l0 x1 bb z3 W (by omega) ok0).mono fun e W' ⟨he, bel⟩ => ?_
  subst he
  exact ⟨_, rfl, _, _, _, [], _, [], hW', trodAll_mk1 (shut_bool Try.underlying4 _), (trodAll_cons_mk (Below.trod laidOut (by kernel_rfl) (of_decide_eq_true (by kernel_rfl)) k0 bel lt0) trodAll_mk0), rfl, bel.frame _, fun h => by cases h⟩

theorem over : Rows.flashTearsAtByteRow.holds Try.pinned (OpenSpec.ofChange Rows.flashTearsAtByteSpec) :=
  OpenClaim.holds_of_wide 5 Try.f5 rfl rfl rfl rfl rfl rfl rfl ⟨rfl, rfl, rfl, rfl, rfl⟩ rfl rfl rfl rfl rfl (by kernel_rfl) Try.func5 (by kernel_rfl)
    (of_decide_eq_true (by kernel_rfl)) (by unfold Func.isWrapper; first | (rw [if_pos (by decide +kernel)]; kernel_rfl) | (rw [if_neg (by decide +kernel)]; exact ⟨rfl, rfl⟩))
    (fun os started H enc _ => lifted os started H enc)

/-- The statement. -/
theorem proved : Rows.FlashTearsAtByteSaid := over
end Go.Proofs.Ytlllllcmbnmmkaa.law83
