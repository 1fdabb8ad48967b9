/-
  WireConcat: two encodings that were written one after the other are decoded one after the other. For every input; no condition.
-/
import Derived.Test.YtooiedomcdmefaaRows
import Derived.Test.YtooiedomcdmefaaSanity
import Derived.Test.YtooiedomcdmefaaArgs
import Derived.Test.YtooiedomcdmefaaMath3
namespace Go.Proofs.Ytooiedomcdmefaa.lawCat
open Go.ChangeShapes Go.WideShapes Go.ChangeAt Go.RowKit
open Go.ChangeMaps (open_string shut_string)
open Go.Proofs.Ytooiedomcdmefaa

theorem own : ownKnob Try.prog.godebug = none := by kernel_rfl
theorem laidOut : laidOutB Try.prog = true := by kernel_rfl

set_option maxRecDepth 100000 in
set_option maxHeartbeats 4000000 in
theorem walk (s : ByteArray) (A : Option Addr) (n c : Nat) (l : List Int) (w : World) (hs : s.size ≤ 140737488351232) (hln : l.length = n) (hli : ∀ x ∈ l, I64 x) (hl : Reads w w.heap.size 1 A n (ivs l)) (hn : n ≤ 140737488351232) :
    Calls Try.prog 10 #[.string s, .slice A n c] w fun e w' => e = .returned (.bool true) ∧ Below w.heap.size w w' := by
  by_cases hbig : 2000 < s.size + n
  · clear hli hl hln
    go_enter Try.func10, Try.ntmps10
    go_wp2_with fail
    refine (sanity_any _).mono ?_
    rintro e w1 ⟨rfl, hb1⟩
    go_wp2_with fail
    go_ret
    exact ⟨rfl, hb1⟩
  · obtain ⟨i0, hi0, hz0, hz1, hz2⟩ := info_parts info_u8
    have hsz : s.data.toList.length = s.size := by simp
    have g1 := Lib.hid (getBytes_enc s.data.toList (encInts l) (by omega))
    have g2 := Lib.hid (getInts_enc l [] hli (by omega))
    have hx0 : (encBytes s.data.toList).length ≤ 2010 := by
      have : (encInt (s.data.toList.length : Int)).length ≤ 10 := leb_le10 _ (zz_lt _ (by omega) (by omega))
      unfold encBytes; rw [List.length_append]; omega
    have hy0 : (encInts l).length ≤ 20010 := by
      have h1 := encAll_len l hli
      have h2 : (encInt (l.length : Int)).length ≤ 10 := leb_le10 _ (zz_lt _ (by omega) (by omega))
      unfold encInts; rw [List.length_append]; omega
    have hy1 : 1 ≤ (encInts l).length := by
      have := leb_pos (zz (l.length : Int))
      unfold encInts encInt; rw [List.length_append]; omega
    obtain ⟨x, hx⟩ : ∃ x, x = (encBytes s.data.toList).length := ⟨_, rfl⟩
    obtain ⟨y, hy⟩ : ∃ y, y = (encInts l).length := ⟨_, rfl⟩
    rw [← hx] at hx0
    rw [← hy] at hy0 hy1
    have HX := Lib.hid hx
    have HY := Lib.hid hy
    have LN := Lib.hid hln
    have LI := Lib.hid hli
    clear hsz hx hy hln hli
    go_enter Try.func10, Try.ntmps10
    go_wp2_with fail
    refine (bytes_any s _ (by omega)).mono ?_
    rintro e w1 ⟨v1, rfl, hown1, hb1⟩
    rw [← HX.out] at hown1
    go_wp2_with fail
    refine (ints_any _ _ l _ LN.out _ LI.out ((hl.below hb1).more hb1.size) (by omega)).mono ?_
    rintro e w2 ⟨v2, rfl, hown2, hb2⟩
    rw [← HY.out] at hown2
    have hown1 := own_below hown1 hb2
    have hc2 := hb1.trans (hb2.mono hb1.size)
    obtain ⟨A2, d2, rfl, _, _, hr2⟩ := own_form hown2
    clear hown2
    go_wp2_with (at_builtin; refine wpList_append_src _ rfl (.tmp 20) (.tmp 22) _ _ rfl w.heap.size 5 i0 _ 1 1 Try.underlying26 hi0 hz0 hz1 hz2 rfl _ _ _ rfl hown1 y _ (Src.ofReads _ Try.underlying26 hr2 (bvs_one _)) (by unfold maxLen; omega) (by omega) hc2.size ?_; intro v3 w3 hown3 hb3; obtain ⟨A3, d3, hv3, hd3, _, hr3⟩ := own_form hown3; subst hv3)
    rw [← bvs_append] at hr3
    have hc3 := hc2.trans hb3
    clear hown1 hown3 hr2 hb3
    refine (getBytes_any _ _ _ _ _ _ hr3 (by omega) hd3).mono ?_
    unfold RetsS
    rw [g1.out, ← HX.out]
    rintro e w4 ⟨rfl, rfl⟩
    have hcut := hr3.cut (k := x) (cap := d3) (by omega) hd3
    have e2 : (bvs (encBytes s.data.toList ++ encInts l)).drop (x * 1) = bvs (encInts l ++ []) := by unfold bvs; rw [Nat.mul_one, ← List.map_drop, HX.out, List.drop_left, List.append_nil]
    rw [e2, if_neg (show ¬ d3 = x by omega), Nat.mul_one] at hcut
    rw [Nat.add_sub_cancel_left] at hcut
    clear e2 hr3
    have hlp : l.length ≤ 2000 := by have := LN.out; omega
    go_wp2_with fail
    refine (getInts_any _ _ _ _ _ hcut (by omega) (by omega)).mono ?_
    unfold GivesI
    rw [g2.out, ← HY.out]
    rintro e w5 ⟨v5, rfl, hown5, hb5⟩
    obtain ⟨A5, d5, rfl, _, _, hr5⟩ := own_form hown5
    have hc5 := hc3.trans (hb5.mono hc3.size)
    clear hown5 hcut hb5
    go_wp2_with fail
    refine (sanity_any _).mono ?_
    rintro e w6 ⟨rfl, hb6⟩
    have hc6 := hc5.trans (hb6.mono hc5.size)
    have hr6 := hr5.below hb6
    go_wp2_with fail
    refine (sameInts_any _ _ _ _ l l _ _ _ _ _ hr6 (hl.below hc6) (by omega) (by omega)).mono ?_
    rw [show (l == l) = true from by simp]
    rintro e w7 ⟨rfl, q7, hw7⟩
    have hc7 : Below w.heap.size w w7 := by rw [hw7]; exact below_drewN _ hc6
    clear hw7
    go_wp2_with fail
    go_ret
    exact ⟨rfl, hc7⟩

set_option maxRecDepth 100000 in
theorem lifted (os : Os) (started : os.Started) (H : Type) (enc : TypeId × Value → H) :
    ReturnsInHanded {} Try.checked os 10 .any (Rows.wireConcatSpec.pre6 enc Try.prog Try.f10 Rows.wireConcatRow.domain false) (Rows.wireConcatSpec.post enc Try.prog Try.f10 false true false false) := by
  refine returnsInHanded_of_change_sized (C := Try.checked) own started (by kernel_rfl) Try.func10
    (ChangeSpec.witness6 (enc := enc) (C := Try.checked) false ⟨#[], #[.string ⟨#[]⟩, .slice none 0 0], []⟩ 8 (by kernel_rfl) (by kernel_rfl) (by kernel_rfl) (by kernel_rfl)) ?_
  intro W base args ds gs before hval0 hW hcnd hsz0 _
  have hval : ∀ (j : Nat) t v, Try.f10.params[j]? = some t → args[j]? = some v → Value.okWide Try.prog W .any base t v := hval0
  have hsz : (DataW.weightsEach Try.prog (Try.f10.params.toList ++ Rows.wireConcatSpec.plain.varTypes Try.prog) (ds ++ gs)).all (· ≤ reachBytes) = true := hsz0
  have hW' := hW
  obtain ⟨p, q, hA0, hV, rfl, hfz, hnd⟩ := hW
  have hA : DataW.TrodAll enc Try.prog W 0 (fun _ => true) true Try.f10.params.toList args.toList ds p := hA0
  rw [Try.params10] at hA hval hsz
  obtain ⟨v0, vs0, d0, ds0, p0, q0, hargs, rfl, rfl, h0, r0⟩ := trodAll_cons hA
  obtain ⟨v1, vs1, d1, ds1, p1, q1, rfl, rfl, rfl, h1, r1⟩ := trodAll_cons r0
  obtain ⟨rfl, rfl, rfl⟩ := trodAll_nil r1
  obtain rfl : args = #[v0, v1] := by cases args; simp_all
  obtain ⟨rfl, rfl⟩ := trodVars_none hV
  have z0 := fun bytes (hd : d0 = .lit (.string bytes)) => sized_string hsz (j := 0) (t := 9) rfl (congrArg some hd)
  obtain ⟨s0, rfl, rfl, rfl, w0⟩ := open_string Try.underlying9 (hval 0 9 v0 rfl rfl) h0
  have b0 : s0.size ≤ 140737488351232 := by have := z0 _ rfl; simpa [reachBytes] using this
  have k1 := h1
  have lt1 : ∀ x ∈ p1, x.block < W.heap.size := by obtain ⟨m, hm⟩ := k1; exact DataW.trod_lt m _ _ _ hm
  obtain ⟨A1, n1, c1, l1, rfl, nc1, nb1, nl1, il1, hr1⟩ := arg_ints Try.underlying22 Try.underlying3 (by kernel_rfl) (by kernel_rfl) (hval 1 22 v1 rfl rfl) h1 (fun elems spare hd => sized_slice hsz (j := 1) (t := 22) (e := 3) rfl (congrArg some hd) Try.underlying22)
  clear hA0 hval0
  refine (walk s0 A1 n1 c1 l1 W b0 nl1 il1 hr1 nb1).mono fun e W' ⟨he, bel⟩ => ?_
  subst he
  exact ⟨_, rfl, _, _, _, [], _, [], hW', trodAll_mk1 (shut_bool Try.underlying4 _), (trodAll_cons_mk (shut_string Try.underlying9 w0) (trodAll_cons_mk (Below.trod laidOut (by kernel_rfl) (of_decide_eq_true (by kernel_rfl)) k1 bel lt1) trodAll_mk0)), rfl, bel.frame _, fun h => by cases h⟩

theorem over : Rows.wireConcatRow.holds Try.pinned (OpenSpec.ofChange Rows.wireConcatSpec) :=
  OpenClaim.holds_of_wide 10 Try.f10 rfl rfl rfl rfl rfl rfl rfl ⟨rfl, rfl, rfl, rfl, rfl⟩ rfl rfl rfl rfl rfl (by kernel_rfl) Try.func10 (by kernel_rfl)
    (of_decide_eq_true (by kernel_rfl)) (by unfold Func.isWrapper; first | (rw [if_pos (by decide +kernel)]; kernel_rfl) | (rw [if_neg (by decide +kernel)]; exact ⟨rfl, rfl⟩))
    (fun os started H enc _ => lifted os started H enc)

/-- The statement. -/
theorem proved : Rows.WireConcatSaid := over
end Go.Proofs.Ytooiedomcdmefaa.lawCat
