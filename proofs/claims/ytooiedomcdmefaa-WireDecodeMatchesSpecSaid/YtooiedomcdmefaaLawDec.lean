/-
  WireDecodeMatchesSpec: decoding an integer, a string, a list of integers and a list of digests at the beginning of any bytes gives the specification's results and errors. For every input; no condition.
-/
import Derived.Test.YtooiedomcdmefaaRows
import Derived.Test.YtooiedomcdmefaaSanity
import Derived.Test.YtooiedomcdmefaaArgs
import Derived.Test.YtooiedomcdmefaaBds
namespace Go.Proofs.Ytooiedomcdmefaa.lawDec
open Go.ChangeShapes Go.WideShapes Go.ChangeAt Go.RowKit
open Go.ChangeMaps (open_string shut_string)
open Go.Proofs.Ytooiedomcdmefaa

theorem own : ownKnob Try.prog.godebug = none := by kernel_rfl
theorem laidOut : laidOutB Try.prog = true := by kernel_rfl

set_option maxRecDepth 100000 in
set_option maxHeartbeats 4000000 in
theorem walk (A : Option Addr) (n c : Nat) (l : List UInt8) (w : World) (hl : Reads w w.heap.size 1 A n (bvs l)) (hn : n ≤ 140737488351232) (hc : n ≤ c) :
    Calls Try.prog 4 #[.slice A n c] w fun e w' => e = .returned (.bool true) ∧ Below w.heap.size w w' := by
  by_cases hs : 2000 < n
  · go_enter Try.func4, Try.ntmps4
    go_wp2_with fail
    refine (sanity_any _).mono ?_
    rintro e w1 ⟨rfl, hb1⟩
    go_wp2_with fail
    go_ret
    exact ⟨rfl, hb1⟩
  · have hln := hl.bytes_len
    have hI := getInts_bd l
    have hD := getDigs_bd l
    have c1 := Lib.hid (getInt_any A c l n w _ hl (by omega))
    have c2 := Lib.hid (refGetInt_any A c l n w hl (by omega) hc)
    have c3 : Hid (∀ w', Below w.heap.size w w' → Calls Try.prog 23 #[.slice A n c] w' (RetsS (getBytes l) w')) := fun w' hb => getBytes_any A c l n w' _ (hl.below hb) (by omega) hc
    have c4 : Hid (∀ w', Below w.heap.size w w' → Calls Try.prog 24 #[.slice A n c] w' (RetsSB (getBytes l) w')) := fun w' hb => refGetBytes_any A c l n w' ((hl.below hb).more hb.size) (by omega) hc
    have c5 : Hid (∀ w', Below w.heap.size w w' → Calls Try.prog 25 #[.slice A n c] w' (GivesI (getInts l) w')) := fun w' hb => getInts_any A c l n w' ((hl.below hb).more hb.size) (by omega) hc
    have c6 : Hid (∀ w', Below w.heap.size w w' → Calls Try.prog 26 #[.slice A n c] w' (GivesI (getInts l) w')) := fun w' hb => refGetInts_any A c l n w' ((hl.below hb).more hb.size) (by omega) hc
    have c7 : Hid (∀ w', Below w.heap.size w w' → Calls Try.prog 28 #[.slice A n c] w' (GivesD (getDigs l) w')) := fun w' hb => getDigests_any A c l n w' ((hl.below hb).more hb.size) (by omega) hc
    have c8 : Hid (∀ w', Below w.heap.size w w' → Calls Try.prog 29 #[.slice A n c] w' (GivesD (getDigs l) w')) := fun w' hb => refGetDigests_any A c l n w' ((hl.below hb).more hb.size) (by omega) hc
    unfold Rets at c1
    unfold RetsS at c3
    unfold RetsSB at c4
    unfold GivesI at c5 c6
    unfold GivesD at c7 c8
    generalize getInt l = r1 at *
    generalize getBytes l = r2 at *
    generalize getInts l = r3 at *
    generalize getDigs l = r4 at *
    obtain ⟨m, u1, e1⟩ := r1
    obtain ⟨s, u2, e2⟩ := r2
    obtain ⟨li, u3, e3⟩ := r3
    obtain ⟨ds, u4, e4⟩ := r4
    obtain ⟨hI1, hI2⟩ := hI
    obtain ⟨hD1, hD2⟩ := hD
    simp only at c1 c2 c3 c4 c5 c6 c7 c8 hI1 hI2 hD1 hD2
    have hi : li.length ≤ 2000 := by omega
    have hd : ds.length ≤ 2000 := by omega
    have D16' := Lib.hid hD2
    clear hI1 hI2 hD1 hD2 hln hl
    go_enter Try.func4, Try.ntmps4
    go_wp2_with fail
    refine c1.out.mono ?_
    rintro e w1 ⟨rfl, rfl⟩
    go_wp2_with fail
    refine c2.out.mono ?_
    rintro e w2 ⟨rfl, hb2⟩
    clear c1 c2
    go_wp2_with fail
    refine (c3.out _ hb2).mono ?_
    rintro e w3 ⟨rfl, rfl⟩
    go_wp2_with fail
    refine (c4.out _ hb2).mono ?_
    rintro e w4 ⟨rfl, hb4⟩
    have hb4 := hb2.trans (hb4.mono hb2.size)
    clear c3 c4
    go_wp2_with fail
    refine (c5.out _ hb4).mono ?_
    rintro e w5 ⟨v5, rfl, hown5, hb5⟩
    have hb5 := hb4.trans (hb5.mono hb4.size)
    obtain ⟨A5, d5, rfl, _, _, hr5⟩ := own_form hown5
    go_wp2_with fail
    refine (c6.out _ hb5).mono ?_
    rintro e w6 ⟨v6, rfl, hown6, hb6⟩
    have hr5 := hr5.below hb6
    have hb6 := hb5.trans (hb6.mono hb5.size)
    obtain ⟨A6, d6, rfl, _, _, hr6⟩ := own_form hown6
    clear hown5 hown6 c5 c6
    go_wp2_with fail
    refine (sameInts_any _ _ _ _ li li _ _ _ _ _ hr5 hr6 (by omega) (by omega)).mono ?_
    rw [show (li == li) = true from by simp]
    rintro e w7 ⟨rfl, q7, hw7⟩
    have hb7 : Below w.heap.size w w7 := by rw [hw7]; exact below_drewN _ hb6
    clear hw7 hr5 hr6
    go_wp2_with fail
    refine (c7.out _ hb7).mono ?_
    rintro e w8 ⟨v8, rfl, hown8, hb8⟩
    have hb8 := hb7.trans (hb8.mono hb7.size)
    obtain ⟨A8, d8, rfl, _, _, hr8⟩ := own_form hown8
    go_wp2_with fail
    refine (c8.out _ hb8).mono ?_
    rintro e w9 ⟨v9, rfl, hown9, hb9⟩
    have hz89 := hb9.size
    have hr8 := hr8.below hb9
    have hb9 := hb8.trans (hb9.mono hb8.size)
    obtain ⟨A9, d9, rfl, _, _, hr9⟩ := own_form hown9
    clear hown8 hown9 c7 c8
    go_wp2_with fail
    refine (sanity_any _).mono ?_
    rintro e w10 ⟨rfl, hb10⟩
    have hr8 := hr8.below (hb10.mono hz89)
    have hr9 := hr9.below hb10
    have hb10 := hb9.trans (hb10.mono hb9.size)
    go_wp2_with fail
    refine (sameDigests_any _ _ _ _ ds ds _ _ _ _ _ hr8 hr9 D16'.out D16'.out (by omega) (by omega)).mono ?_
    rw [show (ds == ds) = true from by simp]
    rintro e w11 ⟨rfl, q11, hw11⟩
    have hb11 : Below w.heap.size w w11 := by rw [hw11]; exact below_drewN _ hb10
    clear hw11
    go_wp2_with fail
    go_ret
    exact ⟨rfl, hb11⟩

set_option maxRecDepth 100000 in
theorem lifted (os : Os) (started : os.Started) (H : Type) (enc : TypeId × Value → H) :
    ReturnsInHanded {} Try.checked os 4 .any (Rows.wireDecodeMatchesSpecSpec.pre6 enc Try.prog Try.f4 Rows.wireDecodeMatchesSpecRow.domain false) (Rows.wireDecodeMatchesSpecSpec.post enc Try.prog Try.f4 false true false false) := by
  refine returnsInHanded_of_change_sized (C := Try.checked) own started (by kernel_rfl) Try.func4
    (ChangeSpec.witness6 (enc := enc) (C := Try.checked) false ⟨#[], #[.slice none 0 0], []⟩ 8 (by kernel_rfl) (by kernel_rfl) (by kernel_rfl) (by kernel_rfl)) ?_
  intro W base args ds gs before hval0 hW hcnd hsz0 _
  have hval : ∀ (j : Nat) t v, Try.f4.params[j]? = some t → args[j]? = some v → Value.okWide Try.prog W .any base t v := hval0
  have hsz : (DataW.weightsEach Try.prog (Try.f4.params.toList ++ Rows.wireDecodeMatchesSpecSpec.plain.varTypes Try.prog) (ds ++ gs)).all (· ≤ reachBytes) = true := hsz0
  have hW' := hW
  obtain ⟨p, q, hA0, hV, rfl, hfz, hnd⟩ := hW
  have hA : DataW.TrodAll enc Try.prog W 0 (fun _ => true) true Try.f4.params.toList args.toList ds p := hA0
  rw [Try.params4] at hA hval hsz
  obtain ⟨v0, vs0, d0, ds0, p0, q0, hargs, rfl, rfl, h0, r0⟩ := trodAll_cons hA
  obtain ⟨rfl, rfl, rfl⟩ := trodAll_nil r0
  obtain rfl : args = #[v0] := by cases args; simp_all
  obtain ⟨rfl, rfl⟩ := trodVars_none hV
  have k0 := h0
  have lt0 : ∀ x ∈ p0, x.block < W.heap.size := by obtain ⟨m, hm⟩ := k0; exact DataW.trod_lt m _ _ _ hm
  obtain ⟨A0, n0, c0, l0, rfl, nc0, nb0, hr0⟩ := arg_bytes Try.underlying26 Try.underlying5 (by kernel_rfl) (by kernel_rfl) (hval 0 26 v0 rfl rfl) h0 (fun elems spare hd => sized_slice hsz (j := 0) (t := 26) (e := 5) rfl (congrArg some hd) Try.underlying26)
  clear hA0 hval0
  refine (walk A0 n0 c0 l0 W hr0 nb0 nc0).mono fun e W' ⟨he, bel⟩ => ?_
  subst he
  exact ⟨_, rfl, _, _, _, [], _, [], hW', trodAll_mk1 (shut_bool Try.underlying4 _), (trodAll_cons_mk (Below.trod laidOut (by kernel_rfl) (of_decide_eq_true (by kernel_rfl)) k0 bel lt0) trodAll_mk0), rfl, bel.frame _, fun h => by cases h⟩

theorem over : Rows.wireDecodeMatchesSpecRow.holds Try.pinned (OpenSpec.ofChange Rows.wireDecodeMatchesSpecSpec) :=
  OpenClaim.holds_of_wide 4 Try.f4 rfl rfl rfl rfl rfl rfl rfl ⟨rfl, rfl, rfl, rfl, rfl⟩ rfl rfl rfl rfl rfl (by kernel_rfl) Try.func4 (by kernel_rfl)
    (of_decide_eq_true (by kernel_rfl)) (by unfold Func.isWrapper; first | (rw [if_pos (by decide +kernel)]; kernel_rfl) | (rw [if_neg (by decide +kernel)]; exact ⟨rfl, rfl⟩))
    (fun os started H enc _ => lifted os started H enc)

/-- The statement. -/
theorem proved : Rows.WireDecodeMatchesSpecSaid := over
end Go.Proofs.Ytooiedomcdmefaa.lawDec
