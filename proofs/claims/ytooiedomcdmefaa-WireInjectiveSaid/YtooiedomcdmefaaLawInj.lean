/-
  WireInjective: two integers, and two lists of integers, have the same encoding if and only if they are equal. For every input; no condition.
-/
import Derived.Test.YtooiedomcdmefaaRows
import Derived.Test.YtooiedomcdmefaaSanity
import Derived.Test.YtooiedomcdmefaaArgs
import Derived.Test.YtooiedomcdmefaaMath3
namespace Go.Proofs.Ytooiedomcdmefaa.lawInj
open Go.ChangeShapes Go.WideShapes Go.ChangeAt Go.RowKit
open Go.ChangeMaps (open_string shut_string)
open Go.Proofs.Ytooiedomcdmefaa

theorem own : ownKnob Try.prog.godebug = none := by kernel_rfl
theorem laidOut : laidOutB Try.prog = true := by kernel_rfl

set_option maxRecDepth 100000 in
set_option maxHeartbeats 4000000 in
theorem walkB (b1 b2 : Bool) (m n : Int) (A B : Option Addr) (p q c d : Nat) (k l : List Int) (w : World) (hm : I64 m) (hn : I64 n) (hkl : k.length = p) (hll : l.length = q) (hki : ∀ x ∈ k, I64 x) (hli : ∀ x ∈ l, I64 x)
    (hk : Reads w w.heap.size 1 A p (ivs k)) (hl : Reads w w.heap.size 1 B q (ivs l)) (hp : p ≤ 140737488351232) (hq : q ≤ 140737488351232) (hs : p + q ≤ 2000)
    (e1 : (encInt m == encInt n) = b1) (e2 : (m == n) = b1) (e3 : (encInts k == encInts l) = b2) (e4 : (k == l) = b2) :
    Calls Try.prog 9 #[.int .i64 m, .int .i64 n, .slice A p c, .slice B q d] w fun e w' => e = .returned (.bool true) ∧ Below w.heap.size w w' := by
  have KI := Lib.hid hki
  have LI := Lib.hid hli
  have KL := Lib.hid hkl
  have LL := Lib.hid hll
  have hm10 : (encInt m).length ≤ 4611686018427387903 := by have : (encInt m).length ≤ 10 := leb_le10 _ (zz_lt _ hm.1 hm.2); omega
  have hn10 : (encInt n).length ≤ 4611686018427387903 := by have : (encInt n).length ≤ 10 := leb_le10 _ (zz_lt _ hn.1 hn.2); omega
  have hk10 : (encInts k).length ≤ 4611686018427387903 := by
    have h1 := encAll_len k hki
    have h2 : (encInt (k.length : Int)).length ≤ 10 := leb_le10 _ (zz_lt _ (by omega) (by omega))
    unfold encInts; rw [List.length_append]; omega
  have hl10 : (encInts l).length ≤ 4611686018427387903 := by
    have h1 := encAll_len l hli
    have h2 : (encInt (l.length : Int)).length ≤ 10 := leb_le10 _ (zz_lt _ (by omega) (by omega))
    unfold encInts; rw [List.length_append]; omega
  clear hki hli hkl hll
  cases b1 <;> cases b2
  all_goals
    go_enter Try.func9, Try.ntmps9
    go_wp2_with fail
    refine (sanity_any _).mono ?_
    rintro e w1 ⟨rfl, hb1⟩
    go_wp2_with fail
    refine (int_any m _ hm.1 hm.2).mono ?_
    rintro e w2 ⟨v2, rfl, hown2, hb2⟩
    obtain ⟨A2, c2, rfl, _, _, hr2⟩ := own_form hown2
    clear hown2
    go_wp2_with fail
    refine (int_any n _ hn.1 hn.2).mono ?_
    rintro e w3 ⟨v3, rfl, hown3, hb3⟩
    obtain ⟨A3, c3, rfl, _, _, hr3⟩ := own_form hown3
    clear hown3
    have hb13 : Below w.heap.size w w3 := hb1.trans ((hb2.mono hb1.size).trans (hb3.mono (Nat.le_trans hb1.size hb2.size)))
    go_wp2_with fail
    refine (same_any _ _ _ _ _ _ _ _ _ _ _ (hr2.below hb3) hr3 hm10 hn10).mono ?_
    rintro e w4 ⟨rfl, q4, hw4⟩
    have hb4 : Below w.heap.size w w4 := by rw [hw4]; exact below_drewN _ hb13
    clear hw4 hr2 hr3 hb13 hb1 hb2 hb3
    go_wp2_with fail
    refine (ints_any _ _ k _ KL.out _ KI.out ((hk.below hb4).more hb4.size) (by omega)).mono ?_
    rintro e w5 ⟨v5, rfl, hown5, hb5⟩
    obtain ⟨A5, c5, rfl, _, _, hr5⟩ := own_form hown5
    clear hown5
    have hc5 := hb4.trans (hb5.mono hb4.size)
    go_wp2_with fail
    refine (ints_any _ _ l _ LL.out _ LI.out ((hl.below hc5).more hc5.size) (by omega)).mono ?_
    rintro e w6 ⟨v6, rfl, hown6, hb6⟩
    obtain ⟨A6, c6, rfl, _, _, hr6⟩ := own_form hown6
    clear hown6
    have hc6 := hc5.trans (hb6.mono hc5.size)
    go_wp2_with fail
    refine (same_any _ _ _ _ _ _ _ _ _ _ _ (hr5.below hb6) hr6 hk10 hl10).mono ?_
    rintro e w7 ⟨rfl, q7, hw7⟩
    have hc7 : Below w.heap.size w w7 := by rw [hw7]; exact below_drewN _ hc6
    clear hw7
    go_wp2_with fail
    refine (sameInts_any _ _ _ _ k l _ _ _ _ _ (hk.below hc7) (hl.below hc7) (by omega) (by omega)).mono ?_
    rintro e w8 ⟨rfl, q8, hw8⟩
    have hc8 : Below w.heap.size w w8 := by rw [hw8]; exact below_drewN _ hc7
    clear hw8
    go_wp2_with fail
    go_ret
    exact ⟨rfl, hc8⟩

set_option maxRecDepth 100000 in
set_option maxHeartbeats 4000000 in
theorem walk (m n : Int) (A B : Option Addr) (p q c d : Nat) (k l : List Int) (w : World) (hm : I64 m) (hn : I64 n) (hkl : k.length = p) (hll : l.length = q) (hki : ∀ x ∈ k, I64 x) (hli : ∀ x ∈ l, I64 x)
    (hk : Reads w w.heap.size 1 A p (ivs k)) (hl : Reads w w.heap.size 1 B q (ivs l)) (hp : p ≤ 140737488351232) (hq : q ≤ 140737488351232) :
    Calls Try.prog 9 #[.int .i64 m, .int .i64 n, .slice A p c, .slice B q d] w fun e w' => e = .returned (.bool true) ∧ Below w.heap.size w w' := by
  by_cases hs : p + q ≤ 2000
  · refine walkB (m == n) (k == l) m n A B p q c d k l w hm hn hkl hll hki hli hk hl hp hq hs ?_ rfl ?_ rfl
    · rw [Bool.eq_iff_iff]
      simp only [beq_iff_eq]
      exact ⟨encInt_inj hm hn, fun h => by rw [h]⟩
    · rw [Bool.eq_iff_iff]
      simp only [beq_iff_eq]
      exact ⟨encInts_inj hki hli (by omega) (by omega), fun h => by rw [h]⟩
  · clear hki hli hk hl hkl hll
    go_enter Try.func9, Try.ntmps9
    go_wp2_with fail
    refine (sanity_any _).mono ?_
    rintro e w1 ⟨rfl, hb1⟩
    go_wp2_with fail
    go_ret
    exact ⟨rfl, hb1⟩

set_option maxRecDepth 100000 in
theorem lifted (os : Os) (started : os.Started) (H : Type) (enc : TypeId × Value → H) :
    ReturnsInHanded {} Try.checked os 9 .any (Rows.wireInjectiveSpec.pre6 enc Try.prog Try.f9 Rows.wireInjectiveRow.domain false) (Rows.wireInjectiveSpec.post enc Try.prog Try.f9 false true false false) := by
  refine returnsInHanded_of_change_sized (C := Try.checked) own started (by kernel_rfl) Try.func9
    (ChangeSpec.witness6 (enc := enc) (C := Try.checked) false ⟨#[], #[.int .i64 0, .int .i64 0, .slice none 0 0, .slice none 0 0], []⟩ 8 (by kernel_rfl) (by kernel_rfl) (by kernel_rfl) (by kernel_rfl)) ?_
  intro W base args ds gs before hval0 hW hcnd hsz0 _
  have hval : ∀ (j : Nat) t v, Try.f9.params[j]? = some t → args[j]? = some v → Value.okWide Try.prog W .any base t v := hval0
  have hsz : (DataW.weightsEach Try.prog (Try.f9.params.toList ++ Rows.wireInjectiveSpec.plain.varTypes Try.prog) (ds ++ gs)).all (· ≤ reachBytes) = true := hsz0
  have hW' := hW
  obtain ⟨p, q, hA0, hV, rfl, hfz, hnd⟩ := hW
  have hA : DataW.TrodAll enc Try.prog W 0 (fun _ => true) true Try.f9.params.toList args.toList ds p := hA0
  rw [Try.params9] at hA hval hsz
  obtain ⟨v0, vs0, d0, ds0, p0, q0, hargs, rfl, rfl, h0, r0⟩ := trodAll_cons hA
  obtain ⟨v1, vs1, d1, ds1, p1, q1, rfl, rfl, rfl, h1, r1⟩ := trodAll_cons r0
  obtain ⟨v2, vs2, d2, ds2, p2, q2, rfl, rfl, rfl, h2, r2⟩ := trodAll_cons r1
  obtain ⟨v3, vs3, d3, ds3, p3, q3, rfl, rfl, rfl, h3, r3⟩ := trodAll_cons r2
  obtain ⟨rfl, rfl, rfl⟩ := trodAll_nil r3
  obtain rfl : args = #[v0, v1, v2, v3] := by cases args; simp_all
  obtain ⟨rfl, rfl⟩ := trodVars_none hV
  obtain ⟨a0, rfl, rfl, rfl, w0⟩ := open_int Try.underlying3 (hval 0 3 v0 rfl rfl) h0
  have b0 : I64 a0 := bounds_i64 w0
  obtain ⟨a1, rfl, rfl, rfl, w1⟩ := open_int Try.underlying3 (hval 1 3 v1 rfl rfl) h1
  have b1 : I64 a1 := bounds_i64 w1
  have k2 := h2
  have lt2 : ∀ x ∈ p2, x.block < W.heap.size := by obtain ⟨m, hm⟩ := k2; exact DataW.trod_lt m _ _ _ hm
  obtain ⟨A2, n2, c2, l2, rfl, nc2, nb2, nl2, il2, hr2⟩ := arg_ints Try.underlying22 Try.underlying3 (by kernel_rfl) (by kernel_rfl) (hval 2 22 v2 rfl rfl) h2 (fun elems spare hd => sized_slice hsz (j := 2) (t := 22) (e := 3) rfl (congrArg some hd) Try.underlying22)
  have k3 := h3
  have lt3 : ∀ x ∈ p3, x.block < W.heap.size := by obtain ⟨m, hm⟩ := k3; exact DataW.trod_lt m _ _ _ hm
  obtain ⟨A3, n3, c3, l3, rfl, nc3, nb3, nl3, il3, hr3⟩ := arg_ints Try.underlying22 Try.underlying3 (by kernel_rfl) (by kernel_rfl) (hval 3 22 v3 rfl rfl) h3 (fun elems spare hd => sized_slice hsz (j := 3) (t := 22) (e := 3) rfl (congrArg some hd) Try.underlying22)
  clear hA0 hval0
  refine (walk a0 a1 A2 A3 n2 n3 c2 c3 l2 l3 W b0 b1 nl2 nl3 il2 il3 hr2 hr3 nb2 nb3).mono fun e W' ⟨he, bel⟩ => ?_
  subst he
  exact ⟨_, rfl, _, _, _, [], _, [], hW', trodAll_mk1 (shut_bool Try.underlying4 _), (trodAll_cons_mk (shut_int Try.underlying3 w0) (trodAll_cons_mk (shut_int Try.underlying3 w1) (trodAll_cons_mk (Below.trod laidOut (by kernel_rfl) (of_decide_eq_true (by kernel_rfl)) k2 bel lt2) (trodAll_cons_mk (Below.trod laidOut (by kernel_rfl) (of_decide_eq_true (by kernel_rfl)) k3 bel lt3) trodAll_mk0)))), rfl, bel.frame _, fun h => by cases h⟩

theorem over : Rows.wireInjectiveRow.holds Try.pinned (OpenSpec.ofChange Rows.wireInjectiveSpec) :=
  OpenClaim.holds_of_wide 9 Try.f9 rfl rfl rfl rfl rfl rfl rfl ⟨rfl, rfl, rfl, rfl, rfl⟩ rfl rfl rfl rfl rfl (by kernel_rfl) Try.func9 (by kernel_rfl)
    (of_decide_eq_true (by kernel_rfl)) (by unfold Func.isWrapper; first | (rw [if_pos (by decide +kernel)]; kernel_rfl) | (rw [if_neg (by decide +kernel)]; exact ⟨rfl, rfl⟩))
    (fun os started H enc _ => lifted os started H enc)

/-- The statement. -/
theorem proved : Rows.WireInjectiveSaid := over
end Go.Proofs.Ytooiedomcdmefaa.lawInj
