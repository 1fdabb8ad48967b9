/-
  WireEncodeMatchesSpec: the encoding of every integer, string, list of integers and list of digests is the specification's. For every input; no condition.
-/
import Derived.Test.YtooiedomcdmefaaRows
import Derived.Test.YtooiedomcdmefaaSanity
import Derived.Test.YtooiedomcdmefaaArgs
import Derived.Test.YtooiedomcdmefaaArgD
import Derived.Test.YtooiedomcdmefaaLens
namespace Go.Proofs.Ytooiedomcdmefaa.lawEnc
open Go.ChangeShapes Go.WideShapes Go.ChangeAt Go.RowKit
open Go.ChangeMaps (open_string shut_string)
open Go.Proofs.Ytooiedomcdmefaa

theorem own : ownKnob Try.prog.godebug = none := by kernel_rfl
theorem laidOut : laidOutB Try.prog = true := by kernel_rfl

set_option maxRecDepth 100000 in
set_option maxHeartbeats 8000000 in
theorem walk (n : Int) (s : ByteArray) (A B : Option Addr) (p q c d : Nat) (l : List Int) (ds : List (List UInt8)) (w : World) (hn : I64 n) (hs : s.size ≤ 140737488351232) (hll : l.length = p) (hli : ∀ x ∈ l, I64 x) (hl : Reads w w.heap.size 1 A p (ivs l)) (hp : p ≤ 140737488351232)
    (hdl : ds.length = q) (hd16 : Len16 ds) (hd : Reads w w.heap.size 16 B q (bvs ds.flatten)) (hq : q ≤ 140737488351232) :
    Calls Try.prog 3 #[.int .i64 n, .string s, .slice A p c, .slice B q d] w fun e w' => e = .returned (.bool true) ∧ Below w.heap.size w w' := by
  by_cases hbig : 2000 < s.size + p + q
  · clear hli hl hll hdl hd16 hd
    go_enter Try.func3, Try.ntmps3
    go_wp2_with fail
    refine (sanity_any _).mono ?_
    rintro e w1 ⟨rfl, hb1⟩
    go_wp2_with fail
    go_ret
    exact ⟨rfl, hb1⟩
  · have hsz : s.data.toList.length = s.size := by simp
    have len1 : (encInt n).length ≤ 4611686018427387903 := by have := encInt_len n hn; omega
    have len2 : (encBytes s.data.toList).length ≤ 4611686018427387903 := by have := encBytes_len s.data.toList (by omega); omega
    have len3 : (encInts l).length ≤ 4611686018427387903 := by have := encInts_len l hli (by omega); omega
    have len4 : (encDigs ds).length ≤ 4611686018427387903 := by have := encDigs_len ds hd16 (by omega); omega
    have LL := Lib.hid hll
    have LI := Lib.hid hli
    have DL := Lib.hid hdl
    have DS := Lib.hid hd16
    clear hsz hll hli hdl hd16
    go_enter Try.func3, Try.ntmps3
    go_wp2_with fail
    refine (sanity_any _).mono ?_
    rintro e w0 ⟨rfl, hc0⟩
    go_wp2_with fail
    refine (int_any n _ hn.1 hn.2).mono ?_
    rintro e w1 ⟨v1, rfl, hown1, hb1⟩
    obtain ⟨A1, c1, rfl, _, _, hr1⟩ := own_form hown1
    have hc1 := hc0.trans (hb1.mono hc0.size)
    clear hown1
    go_wp2_with fail
    refine (refInt_any n _ hn.1 hn.2).mono ?_
    rintro e w2 ⟨v2, rfl, hown2, hb2⟩
    obtain ⟨A2, c2, rfl, _, _, hr2⟩ := own_form hown2
    have hc2 := hc1.trans (hb2.mono hc1.size)
    clear hown2
    go_wp2_with fail
    refine (same_any _ _ _ _ _ _ _ _ _ _ _ (hr1.below hb2) hr2 len1 len1).mono ?_
    rw [beq_self_eq_true]
    rintro e w3 ⟨rfl, q3, hw3⟩
    have hc3 : Below w.heap.size w w3 := by rw [hw3]; exact below_drewN _ hc2
    clear hw3 hr1 hr2 hb1 hb2
    go_wp2_with fail
    refine (bytes_any s _ (by omega)).mono ?_
    rintro e w4 ⟨v4, rfl, hown4, hb4⟩
    obtain ⟨A4, c4, rfl, _, _, hr4⟩ := own_form hown4
    have hc4 := hc3.trans (hb4.mono hc3.size)
    clear hown4
    go_wp2_with fail
    refine (refBytes_any s _ (by omega)).mono ?_
    rintro e w5 ⟨v5, rfl, hown5, hb5⟩
    obtain ⟨A5, c5, rfl, _, _, hr5⟩ := own_form hown5
    have hc5 := hc4.trans (hb5.mono hc4.size)
    clear hown5
    go_wp2_with fail
    refine (same_any _ _ _ _ _ _ _ _ _ _ _ (hr4.below hb5) hr5 len2 len2).mono ?_
    rw [beq_self_eq_true]
    rintro e w6 ⟨rfl, q6, hw6⟩
    have hc6 : Below w.heap.size w w6 := by rw [hw6]; exact below_drewN _ hc5
    clear hw6 hr4 hr5 hb4 hb5
    go_wp2_with fail
    refine (ints_any _ _ l _ LL.out _ LI.out ((hl.below hc6).more hc6.size) (by omega)).mono ?_
    rintro e w7 ⟨v7, rfl, hown7, hb7⟩
    obtain ⟨A7, c7, rfl, _, _, hr7⟩ := own_form hown7
    have hc7 := hc6.trans (hb7.mono hc6.size)
    clear hown7
    go_wp2_with fail
    refine (refInts_any _ _ l _ LL.out _ LI.out ((hl.below hc7).more hc7.size) (by omega)).mono ?_
    rintro e w8 ⟨v8, rfl, hown8, hb8⟩
    obtain ⟨A8, c8, rfl, _, _, hr8⟩ := own_form hown8
    have hc8 := hc7.trans (hb8.mono hc7.size)
    clear hown8
    go_wp2_with fail
    refine (same_any _ _ _ _ _ _ _ _ _ _ _ (hr7.below hb8) hr8 len3 len3).mono ?_
    rw [beq_self_eq_true]
    rintro e w9 ⟨rfl, q9, hw9⟩
    have hc9 : Below w.heap.size w w9 := by rw [hw9]; exact below_drewN _ hc8
    clear hw9 hr7 hr8 hb7 hb8
    go_wp2_with fail
    refine (digests_any _ _ ds _ DL.out _ DS.out ((hd.below hc9).more hc9.size) (by omega)).mono ?_
    rintro e w10 ⟨v10, rfl, hown10, hb10⟩
    obtain ⟨A10, c10, rfl, _, _, hr10⟩ := own_form hown10
    have hc10 := hc9.trans (hb10.mono hc9.size)
    clear hown10
    go_wp2_with fail
    refine (refDigests_any _ _ ds _ DL.out _ DS.out ((hd.below hc10).more hc10.size) (by omega)).mono ?_
    rintro e w11 ⟨v11, rfl, hown11, hb11⟩
    obtain ⟨A11, c11, rfl, _, _, hr11⟩ := own_form hown11
    have hc11 := hc10.trans (hb11.mono hc10.size)
    clear hown11
    go_wp2_with fail
    refine (same_any _ _ _ _ _ _ _ _ _ _ _ (hr10.below hb11) hr11 len4 len4).mono ?_
    rw [beq_self_eq_true]
    rintro e w12 ⟨rfl, q12, hw12⟩
    have hc12 : Below w.heap.size w w12 := by rw [hw12]; exact below_drewN _ hc11
    clear hw12 hr10 hr11 hb10 hb11
    go_wp2_with fail
    go_ret
    exact ⟨rfl, hc12⟩

set_option maxRecDepth 100000 in
theorem lifted (os : Os) (started : os.Started) (H : Type) (enc : TypeId × Value → H) :
    ReturnsInHanded {} Try.checked os 3 .any (Rows.wireEncodeMatchesSpecSpec.pre6 enc Try.prog Try.f3 Rows.wireEncodeMatchesSpecRow.domain false) (Rows.wireEncodeMatchesSpecSpec.post enc Try.prog Try.f3 false true false false) := by
  refine returnsInHanded_of_change_sized (C := Try.checked) own started (by kernel_rfl) Try.func3
    (ChangeSpec.witness6 (enc := enc) (C := Try.checked) false ⟨#[], #[.int .i64 0, .string ⟨#[]⟩, .slice none 0 0, .slice none 0 0], []⟩ 8 (by kernel_rfl) (by kernel_rfl) (by kernel_rfl) (by kernel_rfl)) ?_
  intro W base args ds gs before hval0 hW hcnd hsz0 _
  have hval : ∀ (j : Nat) t v, Try.f3.params[j]? = some t → args[j]? = some v → Value.okWide Try.prog W .any base t v := hval0
  have hsz : (DataW.weightsEach Try.prog (Try.f3.params.toList ++ Rows.wireEncodeMatchesSpecSpec.plain.varTypes Try.prog) (ds ++ gs)).all (· ≤ reachBytes) = true := hsz0
  have hW' := hW
  obtain ⟨p, q, hA0, hV, rfl, hfz, hnd⟩ := hW
  have hA : DataW.TrodAll enc Try.prog W 0 (fun _ => true) true Try.f3.params.toList args.toList ds p := hA0
  rw [Try.params3] at hA hval hsz
  obtain ⟨v0, vs0, d0, ds0, p0, q0, hargs, rfl, rfl, h0, r0⟩ := trodAll_cons hA
  obtain ⟨v1, vs1, d1, ds1, p1, q1, rfl, rfl, rfl, h1, r1⟩ := trodAll_cons r0
  obtain ⟨v2, vs2, d2, ds2, p2, q2, rfl, rfl, rfl, h2, r2⟩ := trodAll_cons r1
  obtain ⟨v3, vs3, d3, ds3, p3, q3, rfl, rfl, rfl, h3, r3⟩ := trodAll_cons r2
  obtain ⟨rfl, rfl, rfl⟩ := trodAll_nil r3
  obtain rfl : args = #[v0, v1, v2, v3] := by cases args; simp_all
  obtain ⟨rfl, rfl⟩ := trodVars_none hV
  obtain ⟨a0, rfl, rfl, rfl, w0⟩ := open_int Try.underlying3 (hval 0 3 v0 rfl rfl) h0
  have b0 : I64 a0 := bounds_i64 w0
  have z1 := fun bytes (hd : d1 = .lit (.string bytes)) => sized_string hsz (j := 1) (t := 9) rfl (congrArg some hd)
  obtain ⟨s1, rfl, rfl, rfl, w1⟩ := open_string Try.underlying9 (hval 1 9 v1 rfl rfl) h1
  have b1 : s1.size ≤ 140737488351232 := by have := z1 _ rfl; simpa [reachBytes] using this
  have k2 := h2
  have lt2 : ∀ x ∈ p2, x.block < W.heap.size := by obtain ⟨m, hm⟩ := k2; exact DataW.trod_lt m _ _ _ hm
  obtain ⟨A2, n2, c2, l2, rfl, nc2, nb2, nl2, il2, hr2⟩ := arg_ints Try.underlying22 Try.underlying3 (by kernel_rfl) (by kernel_rfl) (hval 2 22 v2 rfl rfl) h2 (fun elems spare hd => sized_slice hsz (j := 2) (t := 22) (e := 3) rfl (congrArg some hd) Try.underlying22)
  have k3 := h3
  have lt3 : ∀ x ∈ p3, x.block < W.heap.size := by obtain ⟨m, hm⟩ := k3; exact DataW.trod_lt m _ _ _ hm
  obtain ⟨A3, n3, c3, l3, rfl, nc3, nb3, nl3, il3, hr3⟩ := arg_digs Try.underlying23 Try.underlying51 Try.underlying5 (by kernel_rfl) (by kernel_rfl) (by kernel_rfl) (hval 3 23 v3 rfl rfl) h3 (fun elems spare hd => sized_slice hsz (j := 3) (t := 23) (e := 51) rfl (congrArg some hd) Try.underlying23)
  clear hA0 hval0
  refine (walk a0 s1 A2 A3 n2 n3 c2 c3 l2 l3 W b0 b1 nl2 il2 hr2 nb2 nl3 il3 hr3 nb3).mono fun e W' ⟨he, bel⟩ => ?_
  subst he
  exact ⟨_, rfl, _, _, _, [], _, [], hW', trodAll_mk1 (shut_bool Try.underlying4 _), (trodAll_cons_mk (shut_int Try.underlying3 w0) (trodAll_cons_mk (shut_string Try.underlying9 w1) (trodAll_cons_mk (Below.trod laidOut (by kernel_rfl) (of_decide_eq_true (by kernel_rfl)) k2 bel lt2) (trodAll_cons_mk (Below.trod laidOut (by kernel_rfl) (of_decide_eq_true (by kernel_rfl)) k3 bel lt3) trodAll_mk0)))), rfl, bel.frame _, fun h => by cases h⟩

theorem over : Rows.wireEncodeMatchesSpecRow.holds Try.pinned (OpenSpec.ofChange Rows.wireEncodeMatchesSpecSpec) :=
  OpenClaim.holds_of_wide 3 Try.f3 rfl rfl rfl rfl rfl rfl rfl ⟨rfl, rfl, rfl, rfl, rfl⟩ rfl rfl rfl rfl rfl (by kernel_rfl) Try.func3 (by kernel_rfl)
    (of_decide_eq_true (by kernel_rfl)) (by unfold Func.isWrapper; first | (rw [if_pos (by decide +kernel)]; kernel_rfl) | (rw [if_neg (by decide +kernel)]; exact ⟨rfl, rfl⟩))
    (fun os started H enc _ => lifted os started H enc)

/-- The statement. -/
theorem proved : Rows.WireEncodeMatchesSpecSaid := over
end Go.Proofs.Ytooiedomcdmefaa.lawEnc
