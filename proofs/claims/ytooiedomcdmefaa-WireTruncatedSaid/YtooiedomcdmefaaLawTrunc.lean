/-
  WireTruncated: an encoding that ends too early yields ErrTruncated. For every input; no condition.
-/
import Derived.Test.YtooiedomcdmefaaRows
import Derived.Test.YtooiedomcdmefaaSanity
import Derived.Test.YtooiedomcdmefaaArgs
import Derived.Test.YtooiedomcdmefaaArgD
import Derived.Test.YtooiedomcdmefaaLens
namespace Go.Proofs.Ytooiedomcdmefaa.lawTrunc
open Go.ChangeShapes Go.WideShapes Go.ChangeAt Go.RowKit
open Go.ChangeMaps (open_string shut_string)
open Go.Proofs.Ytooiedomcdmefaa

theorem own : ownKnob Try.prog.godebug = none := by kernel_rfl
theorem laidOut : laidOutB Try.prog = true := by kernel_rfl

theorem take_bvs {w : World} {B n j : Nat} {A : Option Addr} {l : List UInt8} (h : Reads w B 1 A n (bvs l)) (hj : j ≤ n) : Reads w B 1 A j (bvs (l.take j)) := by
  have h1 := h.take hj
  have e : (bvs l).take (j * 1) = bvs (l.take j) := by unfold bvs; rw [Nat.mul_one, List.map_take]
  rw [e] at h1
  exact h1

set_option maxRecDepth 100000 in
set_option maxHeartbeats 16000000 in
theorem walk (n : Int) (s : ByteArray) (A B : Option Addr) (p q c d : Nat) (l : List Int) (ds : List (List UInt8)) (w : World) (hn : I64 n) (hs : s.size ≤ 140737488351232) (hll : l.length = p) (hli : ∀ x ∈ l, I64 x) (hl : Reads w w.heap.size 1 A p (ivs l)) (hp : p ≤ 140737488351232)
    (hdl : ds.length = q) (hd16 : Len16 ds) (hd : Reads w w.heap.size 16 B q (bvs ds.flatten)) (hq : q ≤ 140737488351232) :
    Calls Try.prog 8 #[.int .i64 n, .string s, .slice A p c, .slice B q d] w fun e w' => e = .returned (.bool true) ∧ Below w.heap.size w w' := by
  by_cases hbig : 400 < s.size + 8 * p + 16 * q
  · clear hli hl hll hdl hd16 hd
    go_enter Try.func8, Try.ntmps8
    go_wp2_with fail
    refine (sanity_any _).mono ?_
    rintro e w1 ⟨rfl, hb1⟩
    go_wp2_with fail
    go_ret
    exact ⟨rfl, hb1⟩
  · have hsz : s.data.toList.length = s.size := by simp
    have len1 := encInt_len n hn
    have len2 := encBytes_len s.data.toList (by omega)
    have len3 := encInts_len l hli (by omega)
    have len4 := encDigs_len ds hd16 (by omega)
    have g1 : Hid (∀ j, j < (encInt n).length → getInt ((encInt n).take j) = (0, 0, 6)) := fun j hj => getInt_prefix n hn j hj
    have g2 : Hid (∀ j, j < (encBytes s.data.toList).length → (getBytes ((encBytes s.data.toList).take j)).2.2 = 6) := fun j hj => getBytes_prefix _ (by omega) j hj
    have g3 : Hid (∀ j, j < (encInts l).length → (getInts ((encInts l).take j)).2.2 = 6) := fun j hj => getInts_prefix l hli (by omega) j hj
    have g4 : Hid (∀ j, j < (encDigs ds).length → (getDigs ((encDigs ds).take j)).2.2 = 6) := fun j hj => getDigs_prefix ds hd16 (by omega) j hj
    rw [hsz] at len2
    rw [hll] at len3
    rw [hdl] at len4
    have LL := Lib.hid hll
    have LI := Lib.hid hli
    have DL := Lib.hid hdl
    have DS := Lib.hid hd16
    clear hsz hll hli hdl hd16
    have hc0 := Below.refl w.heap.size w
    go_enter Try.func8, Try.ntmps8
    go_wp2_with fail
    refine (int_any n _ hn.1 hn.2).mono ?_
    rintro e w1 ⟨v1, rfl, hown1, hb1⟩
    obtain ⟨A1, c1, rfl, _, _, hr1⟩ := own_form hown1
    have hc1 := hc0.trans (hb1.mono hc0.size)
    clear hown1
    go_wp2_with fail
    refine (bytes_any s _ (by omega)).mono ?_
    rintro e w2 ⟨v2, rfl, hown2, hb2⟩
    obtain ⟨A2, c2, rfl, _, _, hr2⟩ := own_form hown2
    have hc2 := hc1.trans (hb2.mono hc1.size)
    clear hown2
    have hr1 := hr1.below hb2
    have z2 := hb2.size
    go_wp2_with fail
    refine (ints_any _ _ l _ LL.out _ LI.out ((hl.below hc2).more hc2.size) (by omega)).mono ?_
    rintro e w3 ⟨v3, rfl, hown3, hb3⟩
    obtain ⟨A3, c3, rfl, _, _, hr3⟩ := own_form hown3
    have hc3 := hc2.trans (hb3.mono hc2.size)
    clear hown3
    have z3 := hb3.size
    have hr1 := hr1.below (hb3.mono z2)
    have hr2 := hr2.below hb3
    go_wp2_with fail
    refine (digests_any _ _ ds _ DL.out _ DS.out ((hd.below hc3).more hc3.size) (by omega)).mono ?_
    rintro e w4 ⟨v4, rfl, hown4, hb4⟩
    obtain ⟨A4, c4, rfl, _, _, hr4⟩ := own_form hown4
    have hc4 := hc3.trans (hb4.mono hc3.size)
    clear hown4
    have z4 := hb4.size
    have hr1 := (hr1.below (hb4.mono (by omega))).more (show _ ≤ w4.heap.size by omega)
    have hr2 := (hr2.below (hb4.mono (by omega))).more (show _ ≤ w4.heap.size by omega)
    have hr3 := (hr3.below hb4).more (show _ ≤ w4.heap.size by omega)
    clear hb1 hb2 hb3 hb4 hl hd
    generalize encInt n = E1 at *
    generalize encBytes s.data.toList = E2 at *
    generalize encInts l = E3 at *
    generalize encDigs ds = E4 at *
    go_wp2_with fail
    have z5 : w4.heap.size ≤ w4.heap.size := Nat.le_refl _
    have HB : Hid (∀ wx : World, Below (w4.heap.size + 1) (w4.alloc (.cells #[.slice A1 E1.length c1, .slice A2 E2.length c2, .slice A3 E3.length c3, .slice A4 E4.length c4] 26)) wx → wx.cell? ⟨w4.heap.size, 0, none⟩ = some (.slice A1 E1.length c1) ∧ wx.cell? ⟨w4.heap.size, 1, none⟩ = some (.slice A2 E2.length c2) ∧ wx.cell? ⟨w4.heap.size, 2, none⟩ = some (.slice A3 E3.length c3) ∧ wx.cell? ⟨w4.heap.size, 3, none⟩ = some (.slice A4 E4.length c4)) := by
      intro wx hwx
      refine ⟨?_, ?_, ?_, ?_⟩ <;> (rw [hwx.cell (by show w4.heap.size < w4.heap.size + 1; omega)]; simp)
    go_loopg [35] 4 (fun g s35 wr => ∃ (k : Nat) (z : Int), Hid (k + g = 4) ∧ Hid (z = (k : Int)) ∧ k ≤ 4 ∧ 0 ≤ z ∧ z ≤ 4 ∧ s35 = .int .i64 z ∧ Below (w4.heap.size + 1) (w4.alloc (.cells #[.slice A1 E1.length c1, .slice A2 E2.length c2, .slice A3 E3.length c3, .slice A4 E4.length c4] 26)) wr ∧ Below w4.heap.size w4 wr)
    case atStart => exact ⟨0, 0, rfl, rfl, by omega, by omega, by omega, rfl, Below.refl _ _, (Below.refl _ _).alloc (Nat.le_refl _) _⟩
    case round =>
      obtain ⟨k, z, HK, HZ, hk4, hz0, hz4, rfl, hbB, hbw⟩ := hrel
      obtain ⟨cl0, cl1, cl2, cl3⟩ := HB.out wr hbB
      obtain ⟨wo, rfl⟩ : ∃ wo : World, wo = wr := ⟨_, rfl⟩
      obtain ⟨g0, rfl⟩ : ∃ g0 : Nat, g0 = gk := ⟨_, rfl⟩
      by_cases hz : z = 4
      · subst hz
        have hwo := hbw.size
        clear cl0 cl1 cl2 cl3
        go_wp2_with fail
        refine (sanity_any _).mono ?_
        rintro e w9 ⟨rfl, hb9⟩
        go_wp2_with fail
        go_ret
        exact ⟨rfl, hc4.trans ((hbw.trans (hb9.mono hwo)).mono hc4.size)⟩
      · have hcase : z = 0 ∨ z = 1 ∨ z = 2 ∨ z = 3 := by omega
        clear hz hz0 hz4
        rcases hcase with rfl | rfl | rfl | rfl
        · have hk : k = 0 := by have := HZ.out; omega
          have hg : g0 = 4 := by have := HK.out; omega
          have HG := Lib.hid hg
          clear hk hg
          go_wp2_with fail
          go_loopg [42] E1.length (fun g2 s42 wi => ∃ jj : Nat, Hid (jj + g2 = E1.length) ∧ jj ≤ E1.length ∧ s42 = .int .i64 jj ∧ Below (w4.heap.size + 1) (w4.alloc (.cells #[.slice A1 E1.length c1, .slice A2 E2.length c2, .slice A3 E3.length c3, .slice A4 E4.length c4] 26)) wi ∧ Below w4.heap.size w4 wi)
          case atStart => exact ⟨0, by show _ = _; omega, by omega, rfl, hbB, hbw⟩
          case round =>
          obtain ⟨jj, HJ, hjl, rfl, hbBi, hbi⟩ := hrel
          by_cases hlt : jj < E1.length
          · have hjn : jj ≤ E1.length := by omega
            go_wp2_with fail
            refine (getInt_any _ _ _ _ _ _ (take_bvs (hr1.below hbi) hjn) (by omega)).mono ?_
            unfold Rets
            rw [g1.out jj (by omega)]
            rintro e w6 ⟨rfl, rfl⟩
            have hb6 := hbi
            have hbB6 : Below (w4.heap.size + 1) (w4.alloc (.cells #[.slice A1 E1.length c1, .slice A2 E2.length c2, .slice A3 E3.length c3, .slice A4 E4.length c4] 26)) wr := hbBi
            go_wp2_with fail
            go_roundg (gk - 1)
            case measure => have := HJ.out; omega
            case rel => exact ⟨jj + 1, by have := HJ.out; show _ = _; omega, by omega, by go_num, hbB6, hb6⟩
          · go_wp2_with fail
            go_roundg (g0 - 1)
            case measure => have := HG.out; omega
            case rel => exact ⟨1, 1, by have := HG.out; show _ = _; omega, rfl, by omega, by omega, by omega, by go_num, hbBi, hbi⟩
        · have hk : k = 1 := by have := HZ.out; omega
          have hg : g0 = 3 := by have := HK.out; omega
          have HG := Lib.hid hg
          clear hk hg
          go_wp2_with fail
          go_loopg [42] E2.length (fun g2 s42 wi => ∃ jj : Nat, Hid (jj + g2 = E2.length) ∧ jj ≤ E2.length ∧ s42 = .int .i64 jj ∧ Below (w4.heap.size + 1) (w4.alloc (.cells #[.slice A1 E1.length c1, .slice A2 E2.length c2, .slice A3 E3.length c3, .slice A4 E4.length c4] 26)) wi ∧ Below w4.heap.size w4 wi)
          case atStart => exact ⟨0, by show _ = _; omega, by omega, rfl, hbB, hbw⟩
          case round =>
          obtain ⟨jj, HJ, hjl, rfl, hbBi, hbi⟩ := hrel
          by_cases hlt : jj < E2.length
          · have hjn : jj ≤ E2.length := by omega
            go_wp2_with fail
            refine (getBytes_any _ _ _ _ _ _ (take_bvs (hr2.below hbi) hjn) (by omega) (by omega)).mono ?_
            unfold RetsS
            rw [g2.out jj (by omega)]
            rintro e w6 ⟨rfl, rfl⟩
            have hb6 := hbi
            have hbB6 : Below (w4.heap.size + 1) (w4.alloc (.cells #[.slice A1 E1.length c1, .slice A2 E2.length c2, .slice A3 E3.length c3, .slice A4 E4.length c4] 26)) wr := hbBi
            go_wp2_with fail
            go_roundg (gk - 1)
            case measure => have := HJ.out; omega
            case rel => exact ⟨jj + 1, by have := HJ.out; show _ = _; omega, by omega, by go_num, hbB6, hb6⟩
          · go_wp2_with fail
            go_roundg (g0 - 1)
            case measure => have := HG.out; omega
            case rel => exact ⟨2, 2, by have := HG.out; show _ = _; omega, rfl, by omega, by omega, by omega, by go_num, hbBi, hbi⟩
        · have hk : k = 2 := by have := HZ.out; omega
          have hg : g0 = 2 := by have := HK.out; omega
          have HG := Lib.hid hg
          clear hk hg
          go_wp2_with fail
          go_loopg [42] E3.length (fun g2 s42 wi => ∃ jj : Nat, Hid (jj + g2 = E3.length) ∧ jj ≤ E3.length ∧ s42 = .int .i64 jj ∧ Below (w4.heap.size + 1) (w4.alloc (.cells #[.slice A1 E1.length c1, .slice A2 E2.length c2, .slice A3 E3.length c3, .slice A4 E4.length c4] 26)) wi ∧ Below w4.heap.size w4 wi)
          case atStart => exact ⟨0, by show _ = _; omega, by omega, rfl, hbB, hbw⟩
          case round =>
          obtain ⟨jj, HJ, hjl, rfl, hbBi, hbi⟩ := hrel
          by_cases hlt : jj < E3.length
          · have hjn : jj ≤ E3.length := by omega
            go_wp2_with fail
            refine (getInts_any _ _ _ _ _ (((take_bvs hr3 hjn).below hbi).more hbi.size) (by omega) (by omega)).mono ?_
            unfold GivesI
            rw [g3.out jj (by omega)]
            rintro e w6 ⟨v6, rfl, _, hb6'⟩
            have hb6 := hbi.trans (hb6'.mono hbi.size)
            have hbB6 : Below (w4.heap.size + 1) (w4.alloc (.cells #[.slice A1 E1.length c1, .slice A2 E2.length c2, .slice A3 E3.length c3, .slice A4 E4.length c4] 26)) w6 := hbBi.trans (hb6'.mono (by have := hbBi.size; simp at this; omega))
            go_wp2_with fail
            go_roundg (gk - 1)
            case measure => have := HJ.out; omega
            case rel => exact ⟨jj + 1, by have := HJ.out; show _ = _; omega, by omega, by go_num, hbB6, hb6⟩
          · go_wp2_with fail
            go_roundg (g0 - 1)
            case measure => have := HG.out; omega
            case rel => exact ⟨3, 3, by have := HG.out; show _ = _; omega, rfl, by omega, by omega, by omega, by go_num, hbBi, hbi⟩
        · have hk : k = 3 := by have := HZ.out; omega
          have hg : g0 = 1 := by have := HK.out; omega
          have HG := Lib.hid hg
          clear hk hg
          go_wp2_with fail
          go_loopg [42] E4.length (fun g2 s42 wi => ∃ jj : Nat, Hid (jj + g2 = E4.length) ∧ jj ≤ E4.length ∧ s42 = .int .i64 jj ∧ Below (w4.heap.size + 1) (w4.alloc (.cells #[.slice A1 E1.length c1, .slice A2 E2.length c2, .slice A3 E3.length c3, .slice A4 E4.length c4] 26)) wi ∧ Below w4.heap.size w4 wi)
          case atStart => exact ⟨0, by show _ = _; omega, by omega, rfl, hbB, hbw⟩
          case round =>
          obtain ⟨jj, HJ, hjl, rfl, hbBi, hbi⟩ := hrel
          by_cases hlt : jj < E4.length
          · have hjn : jj ≤ E4.length := by omega
            go_wp2_with fail
            refine (getDigests_any _ _ _ _ _ (((take_bvs hr4 hjn).below hbi).more hbi.size) (by omega) (by omega)).mono ?_
            unfold GivesD
            rw [g4.out jj (by omega)]
            rintro e w6 ⟨v6, rfl, _, hb6'⟩
            have hb6 := hbi.trans (hb6'.mono hbi.size)
            have hbB6 : Below (w4.heap.size + 1) (w4.alloc (.cells #[.slice A1 E1.length c1, .slice A2 E2.length c2, .slice A3 E3.length c3, .slice A4 E4.length c4] 26)) w6 := hbBi.trans (hb6'.mono (by have := hbBi.size; simp at this; omega))
            go_wp2_with fail
            go_roundg (gk - 1)
            case measure => have := HJ.out; omega
            case rel => exact ⟨jj + 1, by have := HJ.out; show _ = _; omega, by omega, by go_num, hbB6, hb6⟩
          · go_wp2_with fail
            go_roundg (g0 - 1)
            case measure => have := HG.out; omega
            case rel => exact ⟨4, 4, by have := HG.out; show _ = _; omega, rfl, by omega, by omega, by omega, by go_num, hbBi, hbi⟩

set_option maxRecDepth 100000 in
theorem lifted (os : Os) (started : os.Started) (H : Type) (enc : TypeId × Value → H) :
    ReturnsInHanded {} Try.checked os 8 .any (Rows.wireTruncatedSpec.pre6 enc Try.prog Try.f8 Rows.wireTruncatedRow.domain false) (Rows.wireTruncatedSpec.post enc Try.prog Try.f8 false true false false) := by
  refine returnsInHanded_of_change_sized (C := Try.checked) own started (by kernel_rfl) Try.func8
    (ChangeSpec.witness6 (enc := enc) (C := Try.checked) false ⟨#[], #[.int .i64 0, .string ⟨#[]⟩, .slice none 0 0, .slice none 0 0], []⟩ 8 (by kernel_rfl) (by kernel_rfl) (by kernel_rfl) (by kernel_rfl)) ?_
  intro W base args ds gs before hval0 hW hcnd hsz0 _
  have hval : ∀ (j : Nat) t v, Try.f8.params[j]? = some t → args[j]? = some v → Value.okWide Try.prog W .any base t v := hval0
  have hsz : (DataW.weightsEach Try.prog (Try.f8.params.toList ++ Rows.wireTruncatedSpec.plain.varTypes Try.prog) (ds ++ gs)).all (· ≤ reachBytes) = true := hsz0
  have hW' := hW
  obtain ⟨p, q, hA0, hV, rfl, hfz, hnd⟩ := hW
  have hA : DataW.TrodAll enc Try.prog W 0 (fun _ => true) true Try.f8.params.toList args.toList ds p := hA0
  rw [Try.params8] at hA hval hsz
  obtain ⟨v0, vs0, d0, ds0, p0, q0, hargs, rfl, rfl, h0, r0⟩ := trodAll_cons hA
  obtain ⟨v1, vs1, d1, ds1, p1, q1, rfl, rfl, rfl, h1, r1⟩ := trodAll_cons r0
  obtain ⟨v2, vs2, d2, ds2, p2, q2, rfl, rfl, rfl, h2, r2⟩ := trodAll_cons r1
  obtain ⟨v3, vs3, d3, ds3, p3, q3, rfl, rfl, rfl, h3, r3⟩ := trodAll_cons r2
  obtain ⟨rfl, rfl, rfl⟩ := trodAll_nil r3
  obtain rfl : args = #[v0, v1, v2, v3] := by cases args; simp_all
  obtain ⟨rfl, rfl⟩ := trodVars_none hV
  obtain ⟨a0, rfl, rfl, rfl, w0⟩ := open_int Try.underlying3 (hval 0 3 v0 rfl rfl) h0
  have b0 : I64 a0 := bounds_i64 w0
  have z1 := fun bytes (hd : d1 = .lit (.string bytes)) => sized_string hsz (j := 1) (t := 9) rfl (congrArg some hd)
  obtain ⟨s1, rfl, rfl, rfl, w1⟩ := open_string Try.underlying9 (hval 1 9 v1 rfl rfl) h1
  have b1 : s1.size ≤ 140737488351232 := by have := z1 _ rfl; simpa [reachBytes] using this
  have k2 := h2
  have lt2 : ∀ x ∈ p2, x.block < W.heap.size := by obtain ⟨m, hm⟩ := k2; exact DataW.trod_lt m _ _ _ hm
  obtain ⟨A2, n2, c2, l2, rfl, nc2, nb2, nl2, il2, hr2⟩ := arg_ints Try.underlying22 Try.underlying3 (by kernel_rfl) (by kernel_rfl) (hval 2 22 v2 rfl rfl) h2 (fun elems spare hd => sized_slice hsz (j := 2) (t := 22) (e := 3) rfl (congrArg some hd) Try.underlying22)
  have k3 := h3
  have lt3 : ∀ x ∈ p3, x.block < W.heap.size := by obtain ⟨m, hm⟩ := k3; exact DataW.trod_lt m _ _ _ hm
  obtain ⟨A3, n3, c3, l3, rfl, nc3, nb3, nl3, il3, hr3⟩ := arg_digs Try.underlying23 Try.underlying51 Try.underlying5 (by kernel_rfl) (by kernel_rfl) (by kernel_rfl) (hval 3 23 v3 rfl rfl) h3 (fun elems spare hd => sized_slice hsz (j := 3) (t := 23) (e := 51) rfl (congrArg some hd) Try.underlying23)
  clear hA0 hval0
  refine (walk a0 s1 A2 A3 n2 n3 c2 c3 l2 l3 W b0 b1 nl2 il2 hr2 nb2 nl3 il3 hr3 nb3).mono fun e W' ⟨he, bel⟩ => ?_
  subst he
  exact ⟨_, rfl, _, _, _, [], _, [], hW', trodAll_mk1 (shut_bool Try.underlying4 _), (trodAll_cons_mk (shut_int Try.underlying3 w0) (trodAll_cons_mk (shut_string Try.underlying9 w1) (trodAll_cons_mk (Below.trod laidOut (by kernel_rfl) (of_decide_eq_true (by kernel_rfl)) k2 bel lt2) (trodAll_cons_mk (Below.trod laidOut (by kernel_rfl) (of_decide_eq_true (by kernel_rfl)) k3 bel lt3) trodAll_mk0)))), rfl, bel.frame _, fun h => by cases h⟩

theorem over : Rows.wireTruncatedRow.holds Try.pinned (OpenSpec.ofChange Rows.wireTruncatedSpec) :=
  OpenClaim.holds_of_wide 8 Try.f8 rfl rfl rfl rfl rfl rfl rfl ⟨rfl, rfl, rfl, rfl, rfl⟩ rfl rfl rfl rfl rfl (by kernel_rfl) Try.func8 (by kernel_rfl)
    (of_decide_eq_true (by kernel_rfl)) (by unfold Func.isWrapper; first | (rw [if_pos (by decide +kernel)]; kernel_rfl) | (rw [if_neg (by decide +kernel)]; exact ⟨rfl, rfl⟩))
    (fun os started H enc _ => lifted os started H enc)

/-- The statement. -/
theorem proved : Rows.WireTruncatedSaid := over
end Go.Proofs.Ytooiedomcdmefaa.lawTrunc
