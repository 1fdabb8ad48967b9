/-
  ShaArgumentsUnchanged: no function changes the bytes that are passed to it, and each returns the same when it is called again. For every input; no condition.
-/
import Derived.Test.YtoghjdcfbbhjnaaDoorRows
import Derived.Test.YtoghjdcfbbhjnaaDoorCards
import Derived.Test.YtoghjdcfbbhjnaaDoorTie
import Derived.Test.YtoghjdcfbbhjnaaDoorLaid
import Derived.Test.YtoghjdcfbbhjnaaDoorArgsB
import Derived.Test.YtoghjdcfbbhjnaaDoorWArg
import Derived.Test.YtoghjdcfbbhjnaaDoorArgS
import Derived.ProofKit
import Derived.OpenShut
import Derived.LaidMore
import Derived.Stop.Joined
import Derived.SevenTiedAt
namespace Go.Proofs.YtoghjdcfbbhjnaaDoor.lawArg
open Go.ChangeShapes Go.WideShapes Go.ChangeAt Go.RowKit
open Go.ChangeMaps (open_string shut_string)
open Go.Proofs.YtoghjdcfbbhjnaaDoor

theorem own : ownKnob Tryd.prog.godebug = none := by kernel_rfl
theorem laidOut : laidOutB Tryd.prog = true := by kernel_rfl

set_option maxRecDepth 100000 in
theorem lifted (os : Os) (started : os.Started) (H : Type) (enc : TypeId × Value → H) :
    ReturnsInHanded {} Tryd.checked os 7 .any (fun w args => (Rows.shaArgumentsUnchangedSpec.pre enc Tryd.prog Tryd.f7 [] false w args ∧ laidMetH Tryd.prog laidL w) ∧ sizedMet enc Tryd.prog Tryd.f7 (OpenSpec.ofChange Rows.shaArgumentsUnchangedSpec) false w args)
      (Rows.shaArgumentsUnchangedSpec.post enc Tryd.prog Tryd.f7 false true false false) := by
  refine returnsInHanded_of_change_and (C := Tryd.checked) (X := fun w _ => laidMetH Tryd.prog laidL w) (fun _ _ _ hh h => h.of_heap hh) own started (by kernel_rfl) Tryd.func7
    (ChangeSpec.witness_shaped (enc := enc) (C := Tryd.checked) (os := os) (X := fun w _ => laidMetH Tryd.prog laidL w) false (World.doorLaid Tryd.prog 400 os) #[.agg #[.slice none 0 0, .slice none 0 0, .int .i64 0, .slice none 0 0]] 8 rfl (World.shaped_of_RefB (by kernel_rfl) (by kernel_rfl)) (by kernel_rfl) (by kernel_rfl) (by kernel_rfl) (door_met os _)) ?_
  intro W base args ds gs before hval0 hW hcnd hsz0 hL _
  have hK : Consts W := consts_of hL
  have hval : ∀ (j : Nat) t v, Tryd.f7.params[j]? = some t → args[j]? = some v → Value.okWide Tryd.prog W .any base t v := hval0
  have hsz : (DataW.weightsEach Tryd.prog (Tryd.f7.params.toList ++ Rows.shaArgumentsUnchangedSpec.plain.varTypes Tryd.prog) (ds ++ gs)).all (· ≤ reachBytes) = true := hsz0
  have hW' := hW
  obtain ⟨p, q, hA0, hV, rfl, hfz, hnd⟩ := hW
  have hA : DataW.TrodAll enc Tryd.prog W 0 (fun _ => true) true Tryd.f7.params.toList args.toList ds p := hA0
  rw [Tryd.params7] at hA hval hsz
  obtain ⟨v0, vs0, d0, ds0, p0, q0, hargs, rfl, rfl, h0, r0⟩ := trodAll_cons hA
  obtain ⟨rfl, rfl, rfl⟩ := trodAll_nil r0
  obtain rfl : args = #[v0] := by cases args; simp_all
  obtain ⟨rfl, rfl⟩ := trodVars_none hV
  have k0 := h0
  have lt0 : ∀ x ∈ p0, x.block < W.heap.size := by obtain ⟨m, hm⟩ := k0; exact DataW.trod_lt m _ _ _ hm
  obtain ⟨x0, x1, x2, x3, m, y0, y1, y2, y3, rfl, t0, t1, t2, t3⟩ := arg_four Tryd.underlying43 (by kernel_rfl) rfl rfl rfl rfl (by kernel_rfl) (by kernel_rfl) (by kernel_rfl) (by kernel_rfl) (hval 0 43 v0 rfl rfl) h0
  obtain ⟨b0, u0, o0, m0⟩ := part_of_trod Tryd.underlying22 Tryd.underlying5 (by kernel_rfl) t0
  obtain rfl := (List.cons.inj u0).1
  replace m0 := Nat.le_trans m0 (show maxLen ≤ 9223372036854775807 by decide)
  obtain ⟨b1, u1, o1, m1⟩ := part_of_trod Tryd.underlying22 Tryd.underlying5 (by kernel_rfl) t1
  obtain rfl := (List.cons.inj u1).1
  replace m1 := Nat.le_trans m1 (show maxLen ≤ 9223372036854775807 by decide)
  obtain ⟨z2, u2, _, w2⟩ := DataW.trod_int Tryd.underlying3 t2
  obtain rfl := (List.cons.inj u2).1
  obtain ⟨A3, n3, c3, l3, rfl, m3, r3, e3⟩ := arg_slices Tryd.underlying31 Tryd.underlying22 Tryd.underlying5 (by kernel_rfl) (by kernel_rfl) t3
  replace m3 := Nat.le_trans m3 (show maxLen ≤ 9223372036854775807 by decide)
  clear hA0 hval0
  refine (walkArg z2 b0.A b1.A b0.n b0.c b1.n b1.c b0.l b1.l A3 n3 c3 l3 W hK o0.1 o0.2 m0 o1.1 o1.2 m1 r3 m3 e3).mono fun e W' ⟨he, bel⟩ => ?_
  subst he
  exact ⟨_, rfl, _, _, _, [], _, [], hW', trodAll_mk1 (shut_bool Tryd.underlying4 _), (trodAll_cons_mk (Below.trod laidOut (by kernel_rfl) (of_decide_eq_true (by kernel_rfl)) k0 bel lt0) trodAll_mk0), rfl, bel.frame _, fun h => by cases h⟩

theorem over : Rows.shaArgumentsUnchangedRow.holds Tryd.pinned (OpenSpec.ofChange Rows.shaArgumentsUnchangedSpec) :=
  OpenClaim.holds_of_wide 7 Tryd.f7 rfl rfl rfl rfl rfl rfl rfl ⟨rfl, rfl, rfl, rfl, rfl⟩ rfl rfl rfl rfl rfl (by kernel_rfl) Tryd.func7 (by kernel_rfl)
    (of_decide_eq_true (by kernel_rfl)) (by unfold Func.isWrapper; first | (rw [if_pos (by decide +kernel)]; kernel_rfl) | (rw [if_neg (by decide +kernel)]; exact ⟨rfl, rfl⟩))
    (fun os started H enc _ => lifted os started H enc)

theorem card : Claim7.holds Tryd.pinned (.plain (OpenSpec.ofChange Rows.shaArgumentsUnchangedSpec)) Rows.shaArgumentsUnchangedCard :=
  Claim7.holds_tied_plain_at .later [] [.data] true (true, "777851e0dcfd344fa7bf25c6db1356e7ae496cee7b67a9f077f301ddb708b205") false
    over (fun _ h => by cases h) (by kernel_rfl) (fun _ h => by cases h) shaArgumentsUnchanged_row_tie rfl ⟨rfl, rfl⟩ (by kernel_rfl) rfl
    (fun f fn hf hfn => by
      obtain rfl : f = 7 := Option.some.inj ((show Tryd.prog.funcNamed "bootchain/bootchainlaw02.ShaArgumentsUnchanged" = some 7 by kernel_rfl).symm.trans hf) |>.symm
      obtain rfl : fn = Tryd.f7 := (Option.some.inj (Tryd.func7.symm.trans hfn)).symm
      exact ⟨by kernel_rfl, fun j t ht => by
        have hm : t ∈ Tryd.f7.params.toList := by simpa using Array.mem_of_getElem? ht
        have hall : (Tryd.f7.params.toList.all fun u => !Tryd.prog.wantsStandIn u) = true := by kernel_rfl
        exact (show Tryd.prog.wantsStandIn t = false by simpa using List.all_eq_true.1 hall t hm)⟩)
    (by kernel_rfl)

/-- The statement. -/
theorem proved : Rows.ShaArgumentsUnchangedCardSaid := card
end Go.Proofs.YtoghjdcfbbhjnaaDoor.lawArg
