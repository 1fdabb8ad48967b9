/-
  WireListRoundTrip: decoding the encoding of a string, a list of integers or a list of digests gives the value and the length of the encoding, whatever follows it. For every input; no condition.
-/
import Derived.Test.YtooiedomcdmefaaRows
import Derived.Test.YtooiedomcdmefaaSanity
import Derived.Test.YtooiedomcdmefaaArgs
import Derived.Test.YtooiedomcdmefaaArgD
import Derived.Test.YtooiedomcdmefaaLens
namespace Go.Proofs.Ytooiedomcdmefaa.lawRound
open Go.ChangeShapes Go.WideShapes Go.ChangeAt Go.RowKit
open Go.ChangeMaps (open_string shut_string)
open Go.Proofs.Ytooiedomcdmefaa

theorem own : ownKnob Try.prog.godebug = none := by kernel_rfl
theorem laidOut : laidOutB Try.prog = true := by kernel_rfl

set_option maxRecDepth 100000 in
set_option maxHeartbeats 8000000 in
theorem walk (s : ByteArray) (A B E : Option Addr) (p q r c d f : Nat) (l : List Int) (ds : List (List UInt8)) (tl : List UInt8) (w : World) (hs : s.size ≤ 140737488351232) (hll : l.length = p) (hli : ∀ x ∈ l, I64 x) (hl : Reads w w.heap.size 1 A p (ivs l)) (hp : p ≤ 140737488351232)
    (hdl : ds.length = q) (hd16 : Len16 ds) (hd : Reads w w.heap.size 16 B q (bvs ds.flatten)) (hq : q ≤ 140737488351232) (ht : Reads w w.heap.size 1 E r (bvs tl)) (hr : r ≤ 140737488351232) :
    Calls Try.prog 7 #[.string s, .slice A p c, .slice B q d, .slice E r f] w fun e w' => e = .returned (.bool true) ∧ Below w.heap.size w w' := by
  by_cases hbig : 2000 < s.size + p + q + r
  · clear hli hl hll hdl hd16 hd ht
    go_enter Try.func7, Try.ntmps7
    go_wp2_with fail
    refine (sanity_any _).mono ?_
    rintro e w1 ⟨rfl, hb1⟩
    go_wp2_with fail
    go_ret
    exact ⟨rfl, hb1⟩
  · obtain ⟨i0, hi0, hz0, hz1, hz2⟩ := info_parts info_u8
    have hsz : s.data.toList.length = s.size := by simp
    have len2 := encBytes_len s.data.toList (by omega)
    have len3 := encInts_len l hli (by omega)
    have len4 := encDigs_len ds hd16 (by omega)
    have g2 := Lib.hid (getBytes_enc s.data.toList tl (by omega))
    have g3 := Lib.hid (getInts_enc l tl hli (by omega))
    have g4 := Lib.hid (getDigs_enc ds tl hd16 (by omega))
    rw [hsz] at len2
    rw [hll] at len3
    rw [hdl] at len4
    have hlp : l.length ≤ 2000 := by omega
    have hdq : ds.length ≤ 2000 := by omega
    have LL := Lib.hid hll
    have LI := Lib.hid hli
    have DL := Lib.hid hdl
    have DS := Lib.hid hd16
    clear hsz hll hli hdl hd16
    have hc0 := Below.refl w.heap.size w
    go_enter Try.func7, Try.ntmps7
    go_wp2_with fail
    refine (bytes_any s _ (by omega)).mono ?_
    rintro e w1 ⟨v1, rfl, hown1, hb1⟩
    obtain ⟨A1, c1, rfl, _, _, hr1⟩ := own_form hown1
    have hc1 := hc0.trans (hb1.mono hc0.size)
    clear hown1
    go_wp2_with fail
    refine (ints_any _ _ l _ LL.out _ LI.out ((hl.below hc1).more hc1.size) (by omega)).mono ?_
    rintro e w2 ⟨v2, rfl, hown2, hb2⟩
    obtain ⟨A2, c2, rfl, _, _, hr2⟩ := own_form hown2
    have hc2 := hc1.trans (hb2.mono hc1.size)
    clear hown2
    have hr1 := hr1.below hb2
    go_wp2_with fail
    refine (digests_any _ _ ds _ DL.out _ DS.out ((hd.below hc2).more hc2.size) (by omega)).mono ?_
    rintro e w3 ⟨v3, rfl, hown3, hb3⟩
    obtain ⟨A3, c3, rfl, _, _, hr3⟩ := own_form hown3
    have hc3 := hc2.trans (hb3.mono hc2.size)
    clear hown3
    have hz1' := hb2.size
    have hz2' := hb3.size
    have hr1 := hr1.below (hb3.mono hz1')
    have hr2 := hr2.below hb3
    have ht3 := ht.below hc3
    clear hb1 hb2 hb3
    go_wp2_with (at_builtin; refine wpList_append_full _ rfl (.tmp 46) (.tmp 47) _ _ rfl 5 i0 _ 1 1 Try.underlying26 hi0 hz0 hz1 hz2 rfl _ _ _ _ rfl hr1 (by omega) r _ (Src.ofReads _ Try.underlying26 ht3 (bvs_one _)) (by unfold maxLen; omega) (by omega) ?_; intro A4 c4 w4 hd4 hr4 hb4)
    rw [← bvs_append] at hr4
    have hc4 := hc3.trans (hb4.mono hc3.size)
    refine (getBytes_any _ _ _ _ _ _ hr4 (by omega) hd4).mono ?_
    unfold RetsS
    rw [g2.out]
    rintro e w5 ⟨rfl, rfl⟩
    have hr2 := hr2.below (hb4.mono (by omega))
    have hr3 := hr3.below hb4
    have hz4 := hb4.size
    have ht4 := ht.below hc4
    clear hr4 hb4 hr1 ht3
    go_wp2_with (at_builtin; refine wpList_append_full _ rfl (.tmp 59) (.tmp 60) _ _ rfl 5 i0 _ 1 1 Try.underlying26 hi0 hz0 hz1 hz2 rfl _ _ _ _ rfl hr2 (by omega) r _ (Src.ofReads _ Try.underlying26 ht4 (bvs_one _)) (by unfold maxLen; omega) (by omega) ?_; intro A5 c5 w5 hd5 hr5 hb5)
    rw [← bvs_append] at hr5
    have hc5 := hc4.trans (hb5.mono hc4.size)
    refine (getInts_any _ _ _ _ _ hr5 (by omega) hd5).mono ?_
    unfold GivesI
    rw [g3.out]
    rintro e w6 ⟨v6, rfl, hown6, hb6⟩
    obtain ⟨A6, c6, rfl, _, _, hr6⟩ := own_form hown6
    have hc6 := hc5.trans (hb6.mono hc5.size)
    have hz5 := hb5.size
    have hz6 := hb6.size
    have hr3 := (hr3.below (hb5.mono (by omega))).below (hb6.mono (by omega))
    have ht6 := ht.below hc6
    clear hown6 hr5 hb5 hb6 hr2 ht4
    go_wp2_with (at_builtin; refine wpList_append_full _ rfl (.tmp 72) (.tmp 73) _ _ rfl 5 i0 _ 1 1 Try.underlying26 hi0 hz0 hz1 hz2 rfl _ _ _ _ rfl hr3 (by omega) r _ (Src.ofReads _ Try.underlying26 ht6 (bvs_one _)) (by unfold maxLen; omega) (by omega) ?_; intro A7 c7 w7 hd7 hr7 hb7)
    rw [← bvs_append] at hr7
    have hc7 := hc6.trans (hb7.mono hc6.size)
    refine (getDigests_any _ _ _ _ _ hr7 (by omega) hd7).mono ?_
    unfold GivesD
    rw [g4.out]
    rintro e w8 ⟨v8, rfl, hown8, hb8⟩
    obtain ⟨A8, c8, rfl, _, _, hr8⟩ := own_form hown8
    have hc8 := hc7.trans (hb8.mono hc7.size)
    have hz7 := hb7.size
    have hz8 := hb8.size
    have hr6 := (hr6.below hb7).below (hb8.mono hz7)
    clear hown8 hr7 hb7 hb8 hr3 ht6
    go_wp2_with fail
    refine (sanity_any _).mono ?_
    rintro e w9 ⟨rfl, hb9⟩
    have hc9 := hc8.trans (hb9.mono hc8.size)
    have hr6 := hr6.below (hb9.mono (by omega))
    have hr8 := hr8.below hb9
    go_wp2_with fail
    refine (sameInts_any _ _ _ _ l l _ _ _ _ _ hr6 (hl.below hc9) (by omega) (by omega)).mono ?_
    rw [show (l == l) = true from by simp]
    rintro e w10 ⟨rfl, q10, hw10⟩
    have hc10 : Below w.heap.size w w10 := by rw [hw10]; exact below_drewN _ hc9
    have hr8 := hr8.drew_to hw10
    clear hw10
    go_wp2_with fail
    refine (sameDigests_any _ _ _ _ ds ds _ _ _ _ _ hr8 (hd.below hc10) DS.out DS.out (by omega) (by omega)).mono ?_
    rw [show (ds == ds) = true from by simp]
    rintro e w11 ⟨rfl, q11, hw11⟩
    have hc11 : Below w.heap.size w w11 := by rw [hw11]; exact below_drewN _ hc10
    clear hw11
    go_wp2_with fail
    go_ret
    exact ⟨rfl, hc11⟩

set_option maxRecDepth 100000 in
theorem lifted (os : Os) (started : os.Started) (H : Type) (enc : TypeId × Value → H) :
    ReturnsInHanded {} Try.checked os 7 .any (Rows.wireListRoundTripSpec.pre6 enc Try.prog Try.f7 Rows.wireListRoundTripRow.domain false) (Rows.wireListRoundTripSpec.post enc Try.prog Try.f7 false true false false) := by
  refine returnsInHanded_of_change_sized (C := Try.checked) own started (by kernel_rfl) Try.func7
    (ChangeSpec.witness6 (enc := enc) (C := Try.checked) false ⟨#[], #[.string ⟨#[]⟩, .slice none 0 0, .slice none 0 0, .slice none 0 0], []⟩ 8 (by kernel_rfl) (by kernel_rfl) (by kernel_rfl) (by kernel_rfl)) ?_
  intro W base args ds gs before hval0 hW hcnd hsz0 _
  have hval : ∀ (j : Nat) t v, Try.f7.params[j]? = some t → args[j]? = some v → Value.okWide Try.prog W .any base t v := hval0
  have hsz : (DataW.weightsEach Try.prog (Try.f7.params.toList ++ Rows.wireListRoundTripSpec.plain.varTypes Try.prog) (ds ++ gs)).all (· ≤ reachBytes) = true := hsz0
  have hW' := hW
  obtain ⟨p, q, hA0, hV, rfl, hfz, hnd⟩ := hW
  have hA : DataW.TrodAll enc Try.prog W 0 (fun _ => true) true Try.f7.params.toList args.toList ds p := hA0
  rw [Try.params7] at hA hval hsz
  obtain ⟨v0, vs0, d0, ds0, p0, q0, hargs, rfl, rfl, h0, r0⟩ := trodAll_cons hA
  obtain ⟨v1, vs1, d1, ds1, p1, q1, rfl, rfl, rfl, h1, r1⟩ := trodAll_cons r0
  obtain ⟨v2, vs2, d2, ds2, p2, q2, rfl, rfl, rfl, h2, r2⟩ := trodAll_cons r1
  obtain ⟨v3, vs3, d3, ds3, p3, q3, rfl, rfl, rfl, h3, r3⟩ := trodAll_cons r2
  obtain ⟨rfl, rfl, rfl⟩ := trodAll_nil r3
  obtain rfl : args = #[v0, v1, v2, v3] := by cases args; simp_all
  obtain ⟨rfl, rfl⟩ := trodVars_none hV
  have z0 := fun bytes (hd : d0 = .lit (.string bytes)) => sized_string hsz (j := 0) (t := 9) rfl (congrArg some hd)
  obtain ⟨s0, rfl, rfl, rfl, w0⟩ := open_string Try.underlying9 (hval 0 9 v0 rfl rfl) h0
  have b0 : s0.size ≤ 140737488351232 := by have := z0 _ rfl; simpa [reachBytes] using this
  have k1 := h1
  have lt1 : ∀ x ∈ p1, x.block < W.heap.size := by obtain ⟨m, hm⟩ := k1; exact DataW.trod_lt m _ _ _ hm
  obtain ⟨A1, n1, c1, l1, rfl, nc1, nb1, nl1, il1, hr1⟩ := arg_ints Try.underlying22 Try.underlying3 (by kernel_rfl) (by kernel_rfl) (hval 1 22 v1 rfl rfl) h1 (fun elems spare hd => sized_slice hsz (j := 1) (t := 22) (e := 3) rfl (congrArg some hd) Try.underlying22)
  have k2 := h2
  have lt2 : ∀ x ∈ p2, x.block < W.heap.size := by obtain ⟨m, hm⟩ := k2; exact DataW.trod_lt m _ _ _ hm
  obtain ⟨A2, n2, c2, l2, rfl, nc2, nb2, nl2, il2, hr2⟩ := arg_digs Try.underlying23 Try.underlying51 Try.underlying5 (by kernel_rfl) (by kernel_rfl) (by kernel_rfl) (hval 2 23 v2 rfl rfl) h2 (fun elems spare hd => sized_slice hsz (j := 2) (t := 23) (e := 51) rfl (congrArg some hd) Try.underlying23)
  have k3 := h3
  have lt3 : ∀ x ∈ p3, x.block < W.heap.size := by obtain ⟨m, hm⟩ := k3; exact DataW.trod_lt m _ _ _ hm
  obtain ⟨A3, n3, c3, l3, rfl, nc3, nb3, hr3⟩ := arg_bytes Try.underlying26 Try.underlying5 (by kernel_rfl) (by kernel_rfl) (hval 3 26 v3 rfl rfl) h3 (fun elems spare hd => sized_slice hsz (j := 3) (t := 26) (e := 5) rfl (congrArg some hd) Try.underlying26)
  clear hA0 hval0
  refine (walk s0 A1 A2 A3 n1 n2 n3 c1 c2 c3 l1 l2 l3 W b0 nl1 il1 hr1 nb1 nl2 il2 hr2 nb2 hr3 nb3).mono fun e W' ⟨he, bel⟩ => ?_
  subst he
  exact ⟨_, rfl, _, _, _, [], _, [], hW', trodAll_mk1 (shut_bool Try.underlying4 _), (trodAll_cons_mk (shut_string Try.underlying9 w0) (trodAll_cons_mk (Below.trod laidOut (by kernel_rfl) (of_decide_eq_true (by kernel_rfl)) k1 bel lt1) (trodAll_cons_mk (Below.trod laidOut (by kernel_rfl) (of_decide_eq_true (by kernel_rfl)) k2 bel lt2) (trodAll_cons_mk (Below.trod laidOut (by kernel_rfl) (of_decide_eq_true (by kernel_rfl)) k3 bel lt3) trodAll_mk0)))), rfl, bel.frame _, fun h => by cases h⟩

theorem over : Rows.wireListRoundTripRow.holds Try.pinned (OpenSpec.ofChange Rows.wireListRoundTripSpec) :=
  OpenClaim.holds_of_wide 7 Try.f7 rfl rfl rfl rfl rfl rfl rfl ⟨rfl, rfl, rfl, rfl, rfl⟩ rfl rfl rfl rfl rfl (by kernel_rfl) Try.func7 (by kernel_rfl)
    (of_decide_eq_true (by kernel_rfl)) (by unfold Func.isWrapper; first | (rw [if_pos (by decide +kernel)]; kernel_rfl) | (rw [if_neg (by decide +kernel)]; exact ⟨rfl, rfl⟩))
    (fun os started H enc _ => lifted os started H enc)

/-- The statement. -/
theorem proved : Rows.WireListRoundTripSaid := over
end Go.Proofs.Ytooiedomcdmefaa.lawRound
