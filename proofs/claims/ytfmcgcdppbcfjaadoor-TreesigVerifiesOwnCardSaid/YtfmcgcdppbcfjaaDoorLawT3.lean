/-
  TreesigVerifiesOwn: a signature verifies under the root of its key pair, its path has height elements and its chain 68. For every input; no condition.
-/
import Derived.Test.YtfmcgcdppbcfjaaDoorRows
import Derived.Test.YtfmcgcdppbcfjaaDoorCards
import Derived.Test.YtfmcgcdppbcfjaaDoorTie
import Derived.Test.YtfmcgcdppbcfjaaDoorLaid
import Derived.Test.YtfmcgcdppbcfjaaDoorArgsB
import Derived.Test.YtfmcgcdppbcfjaaDoorWT3
import Derived.Test.YtfmcgcdppbcfjaaDoorArgT
import Derived.ProofKit
import Derived.OpenShut
import Derived.LaidMore
import Derived.Stop.Joined
import Derived.SevenTiedAt
namespace Go.Proofs.YtfmcgcdppbcfjaaDoor.lawT3
open Go.ChangeShapes Go.WideShapes Go.ChangeAt Go.RowKit
open Go.ChangeMaps (open_string shut_string)
open Go.Proofs.YtfmcgcdppbcfjaaDoor

theorem own : ownKnob Tryd.prog.godebug = none := by kernel_rfl
theorem laidOut : laidOutB Tryd.prog = true := by kernel_rfl

set_option maxRecDepth 100000 in
theorem lifted (os : Os) (started : os.Started) (H : Type) (enc : TypeId × Value → H) :
    ReturnsInHanded {} Tryd.checked os 5 .any (fun w args => (Rows.treesigVerifiesOwnSpec.pre enc Tryd.prog Tryd.f5 [] false w args ∧ laidMetH Tryd.prog laidL w) ∧ sizedMet enc Tryd.prog Tryd.f5 (OpenSpec.ofChange Rows.treesigVerifiesOwnSpec) false w args)
      (Rows.treesigVerifiesOwnSpec.post enc Tryd.prog Tryd.f5 false true false false) := by
  refine returnsInHanded_of_change_and (C := Tryd.checked) (X := fun w _ => laidMetH Tryd.prog laidL w) (fun _ _ _ hh h => h.of_heap hh) own started (by kernel_rfl) Tryd.func5
    (ChangeSpec.witness_shaped (enc := enc) (C := Tryd.checked) (os := os) (X := fun w _ => laidMetH Tryd.prog laidL w) false (World.doorLaid Tryd.prog 400 os) #[.agg #[.int .u8 0, .int .u8 0, .int .u8 0, .int .u8 0, .int .u8 0, .int .u8 0, .int .u8 0, .int .u8 0, .int .u8 0, .int .u8 0, .int .u8 0, .int .u8 0, .int .u8 0, .int .u8 0, .int .u8 0, .int .u8 0, .int .u8 0, .int .u8 0, .int .u8 0, .int .u8 0, .int .u8 0, .int .u8 0, .int .u8 0, .int .u8 0, .int .u8 0, .int .u8 0, .int .u8 0, .int .u8 0, .int .u8 0, .int .u8 0, .int .u8 0, .int .u8 0, .int .u8 0, .int .u8 0]] 8 rfl (World.shaped_of_RefB (by kernel_rfl) (by kernel_rfl)) (by kernel_rfl) (by kernel_rfl) (by kernel_rfl) (door_met os _)) ?_
  intro W base args ds gs before hval0 hW hcnd hsz0 hL _
  have hK : Consts W := consts_of hL
  have hval : ∀ (j : Nat) t v, Tryd.f5.params[j]? = some t → args[j]? = some v → Value.okWide Tryd.prog W .any base t v := hval0
  have hsz : (DataW.weightsEach Tryd.prog (Tryd.f5.params.toList ++ Rows.treesigVerifiesOwnSpec.plain.varTypes Tryd.prog) (ds ++ gs)).all (· ≤ reachBytes) = true := hsz0
  have hW' := hW
  obtain ⟨p, q, hA0, hV, rfl, hfz, hnd⟩ := hW
  have hA : DataW.TrodAll enc Tryd.prog W 0 (fun _ => true) true Tryd.f5.params.toList args.toList ds p := hA0
  rw [Tryd.params5] at hA hval hsz
  obtain ⟨v0, vs0, d0, ds0, p0, q0, hargs, rfl, rfl, h0, r0⟩ := trodAll_cons hA
  obtain ⟨rfl, rfl, rfl⟩ := trodAll_nil r0
  obtain rfl : args = #[v0] := by cases args; simp_all
  obtain ⟨rfl, rfl⟩ := trodVars_none hV
  have k0 := h0
  have lt0 : ∀ x ∈ p0, x.block < W.heap.size := by obtain ⟨m, hm⟩ := k0; exact DataW.trod_lt m _ _ _ hm
  obtain ⟨cs, m, rfl, hcl, hF⟩ := arg_fields Tryd.underlying43 (hval 0 43 v0 rfl rfl) h0
  rw [show Tryd.prog.cellsOf 43 = 34 by kernel_rfl] at hcl
  obtain ⟨l0, q0, g0⟩ := field_dig hF 0 0 ⟨_, rfl, rfl, rfl⟩ Tryd.underlying23 Tryd.underlying5 (by kernel_rfl) (by kernel_rfl) (by omega)
  obtain ⟨n1, q1, w1⟩ := field_int hF 1 16 ⟨_, rfl, rfl, rfl⟩ Tryd.underlying5 (by kernel_rfl)
  have b1 := bounds_u8 w1
  obtain ⟨x1, rfl⟩ : ∃ x : Nat, n1 = (x : Int) := ⟨n1.toNat, by omega⟩
  obtain ⟨n2, q2, w2⟩ := field_int hF 2 17 ⟨_, rfl, rfl, rfl⟩ Tryd.underlying5 (by kernel_rfl)
  have b2 := bounds_u8 w2
  obtain ⟨x2, rfl⟩ : ∃ x : Nat, n2 = (x : Int) := ⟨n2.toNat, by omega⟩
  obtain ⟨l3, q3, g3⟩ := field_dig hF 3 18 ⟨_, rfl, rfl, rfl⟩ Tryd.underlying23 Tryd.underlying5 (by kernel_rfl) (by kernel_rfl) (by omega)
  have hcs : cs = bvs l0 ++ ([Value.int .u8 (x1 : Int)] ++ ([Value.int .u8 (x2 : Int)] ++ (bvs l3))) := by
    have e0 := cut_up cs 0 16 16 rfl
    rw [q0, cut_up cs 16 1 17 rfl, q1, cut_up cs 17 1 18 rfl, q2, cut_up cs 18 16 34 rfl, q3, cut_end cs hcl] at e0
    exact e0.trans (by simp only [List.append_nil])
  subst hcs
  clear hA0 hval0
  refine (walkT3 l0 l3 g0 g3 x1 x2 (by omega) (by omega) W hK).mono fun e W' ⟨he, bel⟩ => ?_
  subst he
  exact ⟨_, rfl, _, _, _, [], _, [], hW', trodAll_mk1 (shut_bool Tryd.underlying4 _), (trodAll_cons_mk (Below.trod laidOut (by kernel_rfl) (of_decide_eq_true (by kernel_rfl)) k0 bel lt0) trodAll_mk0), rfl, bel.frame _, fun h => by cases h⟩

theorem over : Rows.treesigVerifiesOwnRow.holds Tryd.pinned (OpenSpec.ofChange Rows.treesigVerifiesOwnSpec) :=
  OpenClaim.holds_of_wide 5 Tryd.f5 rfl rfl rfl rfl rfl rfl rfl ⟨rfl, rfl, rfl, rfl, rfl⟩ rfl rfl rfl rfl rfl (by kernel_rfl) Tryd.func5 (by kernel_rfl)
    (of_decide_eq_true (by kernel_rfl)) (by unfold Func.isWrapper; first | (rw [if_pos (by decide +kernel)]; kernel_rfl) | (rw [if_neg (by decide +kernel)]; exact ⟨rfl, rfl⟩))
    (fun os started H enc _ => lifted os started H enc)

theorem card : Claim7.holds Tryd.pinned (.plain (OpenSpec.ofChange Rows.treesigVerifiesOwnSpec)) Rows.treesigVerifiesOwnCard :=
  Claim7.holds_tied_plain_at .later [] [.data] true (true, _) false
    over (fun _ h => by cases h) (by kernel_rfl) (fun _ h => by cases h) treesigVerifiesOwn_row_tie rfl ⟨rfl, rfl⟩ (by kernel_rfl) rfl
    (fun f fn hf hfn => by
      obtain rfl : f = 5 := Option.some.inj ((show Tryd.prog.funcNamed "bootchain/bootchainlaw05.TreesigVerifiesOwn" = some 5 by kernel_rfl).symm.trans hf) |>.symm
      obtain rfl : fn = Tryd.f5 := (Option.some.inj (Tryd.func5.symm.trans hfn)).symm
      exact ⟨by kernel_rfl, fun j t ht => by
        have hm : t ∈ Tryd.f5.params.toList := by simpa using Array.mem_of_getElem? ht
        have hall : (Tryd.f5.params.toList.all fun u => !Tryd.prog.wantsStandIn u) = true := by kernel_rfl
        exact (show Tryd.prog.wantsStandIn t = false by simpa using List.all_eq_true.1 hall t hm)⟩)
    (by kernel_rfl)

/-- The statement. -/
theorem proved : Rows.TreesigVerifiesOwnCardSaid := card
end Go.Proofs.YtfmcgcdppbcfjaaDoor.lawT3
