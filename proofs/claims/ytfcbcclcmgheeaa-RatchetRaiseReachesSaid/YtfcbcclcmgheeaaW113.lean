/-
  RatchetRaiseReaches: a walk. No condition.
-/
import Derived.Test.YtfcbcclcmgheeaaSan11
import Derived.Test.YtfcbcclcmgheeaaFuRG
set_option linter.unusedSimpArgs false
set_option linter.unusedVariables false
namespace Go.Proofs.Ytfcbcclcmgheeaa
open Go.RowKit

theorem quiet_lev {cs : List UInt8} {bits : Nat} (hs : Small3 cs) (hl : cs.length = 3 * bits) : ∃ f m, rtExec ⟨false, 0, []⟩ bits cs = ⟨f, ((lvl cs false : Nat) : Int), 0, true, m⟩ := by
  have H := rtExec_ok ⟨false, 0, []⟩ bits cs hs hl
  obtain ⟨h1, h2⟩ := ses_quiet H hl rtFl_nil
  rw [show rtT ⟨false, 0, []⟩ bits = 0 from rfl] at h2
  rcases h2 with ⟨_, p, _, _, h3, _⟩ | ⟨h2, h3, h4⟩
  · omega
  · exact ⟨_, _, RtRun.is (by rw [h3, Nat.max_zero]) h2 h1 rfl⟩
theorem quiet_reach (l : List UInt8) (tb : UInt8) : ∃ fB mB, rtExec ⟨true, tb, []⟩ (rtBits l) (rtCells l true) = ⟨fB, ((max (lvl (rtCells l true) false) (tb.toNat % (rtBits l + 1)) : Nat) : Int), 0, true, mB⟩ ∧ Small3 fB ∧ fB.length = 3 * rtBits l ∧
    max (lvl (rtCells l true) false) (tb.toNat % (rtBits l + 1)) ≤ lvl fB false := by
  have H := rtExec_ok ⟨true, tb, []⟩ (rtBits l) (rtCells l true) (rtCells_small l true) (rtCells_len l true)
  obtain ⟨h1, h2⟩ := ses_quiet H (rtCells_len l true) rtFl_nil
  obtain ⟨h3, _, _, h4⟩ := ses_least H (rtCells_len l true) (rtCells_sound l) h1
  rw [show rtT ⟨true, tb, []⟩ (rtBits l) = tb.toNat % (rtBits l + 1) from rfl] at h2
  rcases h2 with ⟨h2, _⟩ | ⟨_, h5, _⟩
  · rw [h3] at h2; exact absurd h2 (by decide)
  · refine ⟨_, _, RtRun.is h5 h3 h1 rfl, (rtCells_small l true).up H.up, by rw [← H.up.1]; exact rtCells_len l true, ?_⟩
    rw [h5] at h4
    omega
set_option maxRecDepth 100000 in
set_option maxHeartbeats 4000000 in
theorem w113_any (A : Option Addr) (n c : Nat) (l : List UInt8) (tb : UInt8) (w : World) (hr : Reads w w.heap.size 1 A n (bvs l)) (hn : n ≤ 9223372036854775807) :
    Calls Try.prog 5 #[.slice A n c, .int .u8 (tb.toNat : Int)] w (GivesX (.bool true) w) := by
  have HEQ : ∀ (w : World) (ρ : Operand → Value) (o : Oper) (x y : Operand) (a : RtO), o.op = .binOp .eql 30 x y 30 → ρ x = .agg a.cs.toArray → ρ y = .agg a.cs.toArray → (execOp ρ o).run Try.prog w = .ok (.value (.bool true)) w := fun w ρ o x y a h1 h2 h3 => by
    rw [← loEq_self a]; exact exec_eqlL w x y h1 a a h2 h3
  have hB0 : Below w.heap.size w w := Below.refl _ _
  go_enter Try.func5, Try.ntmps5
  go_wp2_with fail
  refine ((san11_any _)).mono ?_
  rintro e w1 ⟨rfl, h1⟩
  have B1 := hB0.trans (h1.mono hB0.size)
  have rd_1 := hr.on h1
  have sz1 := h1.size
  by_cases hbig : 48 < n
  · have q : decide ((48 : Int) < (n : Int)) = true := decide_eq_true (by omega)
    go_wp2_with fail
    go_ret
    exact ⟨rfl, B1⟩
  · have q : decide ((48 : Int) < (n : Int)) = false := decide_eq_false (by omega)
    go_wp2_with fail
    obtain ⟨bits, hbits⟩ : ∃ bits, bits = rtBits l := ⟨_, rfl⟩
    have hb16 := rtBits_le l
    have HCE := cells11_any A n c l true _ rd_1 (by omega)
    have hcl := rtCells_len l true
    have hsm := rtCells_small l true
    obtain ⟨fB, mB, hB, hsB, hlB, hgB⟩ := quiet_reach l tb
    rw [← hbits] at hb16 HCE hB hcl hlB hgB
    clear hbits
    generalize rtCells l true = cs at *
    obtain ⟨fA, mA, hA⟩ := quiet_lev hsm hcl
    obtain ⟨fC, mC, hC⟩ := quiet_lev hsB hlB
    have hlv := lvl_le (z := false) hcl
    have hlvB := lvl_le (z := false) hlB
    have hLB := fuLevel_lvl fB false
    obtain ⟨v, hv⟩ : ∃ v, v = lvl cs false := ⟨_, rfl⟩
    rw [← hv] at hA hB hgB hlv
    clear hv
    obtain ⟨u, hu⟩ : ∃ u, u = lvl fB false := ⟨_, rfl⟩
    rw [← hu] at hC hgB hlvB hLB
    clear hu
    obtain ⟨tg, htg⟩ : ∃ tg, tg = tb.toNat % (bits + 1) := ⟨_, rfl⟩
    rw [← htg] at hB hgB
    have hq : (tb.toNat : Int) % ((bits : Int) + 1) = (tg : Int) := by rw [htg, Int.natCast_emod]; rfl
    have ht255 : tb.toNat ≤ 255 := by have := tb.toNat_lt; omega
    have htl : tg ≤ bits := by rw [htg]; have := Nat.mod_lt tb.toNat (show 0 < bits + 1 by omega); omega
    obtain ⟨M, hM⟩ : ∃ M, M = max v tg := ⟨_, rfl⟩
    rw [← hM] at hB hgB
    have HM := Lib.hid hM
    have HLB := Lib.hid hLB
    have HQ := Lib.hid hq
    clear hq htg hM hLB
    refine (HCE).mono ?_
    rintro e w2 ⟨A2, c2, p2, rfl, fa, hp2, hi2, h2⟩
    have B2 := B1.trans (h2.mono B1.size)
    have sz2 := h2.size
    have hnfa := fa.in_
    go_wp2_with (first
      | (with_reducible refine wpList_alloc_row (o := ⟨some 6, _, _, _, _, _⟩) rfl _ rfl zeroF zero_fu ?_; intro w3 r3 s3 g3)
      | ((with_reducible refine wpList_at ⟨none, .store _ (.tmp 6) _, _, _, _, _⟩ ?_); refine wpList_store_all rfl _ _ _ rfl w2.heap.size rfl _ _ r3 [.slice A2 1 c2] rfl (slice_one _ _ _) rfl (by kernel_rfl) ?_; intro w4 vfa_4 g4; have k4 : Below w2.heap.size w2 w4 := below_kept (grown_below g3 (Nat.le_refl _) (by simp)) g4 (Nat.le_of_lt s3) (by rintro q hq; cases hq; exact Nat.le_refl _); have B4 := B2.trans (k4.mono B2.size); have fa_4 := fa.on k4; clear r3 g3 g4; have s4 := vfa_4.lt)
      | ((with_reducible refine wpList_at ⟨some 22, _, _, _, _, _⟩ ?_); refine wpList_valueG rfl _ (by exact exec_loadF1 _ _ rfl (w2.heap.size) rfl A2 1 c2 vfa_4) ?_))
    have hx5 := exec_any (fun _ => True) A2 c2 p2 cs bits hb16 hcl (⟨false, 0, none, 0, 0⟩ : Se) [] _ fa_4 hp2 (by exact ⟨fun _ _ _ => trivial, fun _ _ _ _ _ => trivial⟩) Reads.nil_
    rw [show rtExec (Se.m (⟨false, 0, none, 0, 0⟩ : Se) []) bits cs = ⟨fA, (v : Int), 0, true, mA⟩ from hA] at hx5
    refine hx5.mono ?_
    rintro e w5 ⟨A5, n5, c5, p5, rfl, hk5, hb5, hi5, h5⟩
    have B5 := B4.trans (h5.mono B4.size)
    have fa_5 := fa_4.on h5
    have vfa_5 := vfa_4.on h5
    clear fa_4 vfa_4
    have sz5 := h5.size
    go_wp2_with (first
      | (with_reducible refine wpList_alloc_row (o := ⟨some 8, _, _, _, _, _⟩) rfl _ rfl zeroRN zero_rn ?_; intro w6 r6 s6 g6)
      | ((with_reducible refine wpList_at ⟨none, .store _ (.tmp 8) _, _, _, _, _⟩ ?_); refine wpList_store_all rfl _ _ _ rfl w5.heap.size rfl _ _ r6 ((⟨A5, n5, c5, ⟨(v : Int), 0⟩, true, (mA : Int), false⟩ : Rn).cs) rfl ((⟨A5, n5, c5, ⟨(v : Int), 0⟩, true, (mA : Int), false⟩ : Rn).cs_one) rfl (by kernel_rfl) ?_; intro w7 ra_7 g7; have k7 : Below w5.heap.size w5 w7 := below_kept (grown_below g6 (Nat.le_refl _) (by simp)) g7 (Nat.le_of_lt s6) (by rintro q hq; cases hq; exact Nat.le_refl _); have B7 := B5.trans (k7.mono B5.size); have fa_7 := fa_5.on k7; have vfa_7 := vfa_5.on k7; clear fa_5 vfa_5; clear r6 g6 g7; have s7 := ra_7.lt; have cra0 := ra_7.cell (j := 0) rfl; have cra1 := ra_7.cell (j := 1) rfl; have cra2 := ra_7.cell (j := 2) rfl; have cra3 := ra_7.cell (j := 3) rfl; have cra4 := ra_7.cell (j := 4) rfl; have cra5 := ra_7.cell (j := 5) rfl)
      | ((with_reducible refine wpList_at ⟨some 26, _, _, _, _, _⟩ ?_); refine wpList_valueG rfl _ (by exact exec_loadF1 _ _ rfl (w2.heap.size) rfl A2 1 c2 vfa_7) ?_))
    have hx8 := exec_any (fun _ => True) A2 c2 p2 cs bits hb16 hcl (⟨true, tb, none, 0, 0⟩ : Se) [] _ fa_7 hp2 (by exact ⟨fun _ _ _ => trivial, fun _ _ _ _ _ => trivial⟩) Reads.nil_
    rw [show rtExec (Se.m (⟨true, tb, none, 0, 0⟩ : Se) []) bits cs = ⟨fB, (M : Int), 0, true, mB⟩ from hB] at hx8
    refine hx8.mono ?_
    rintro e w8 ⟨A8, n8, c8, p8, rfl, hk8, hb8, hi8, h8⟩
    have B8 := B7.trans (h8.mono B7.size)
    have fa_8 := fa_7.on h8
    have vfa_8 := vfa_7.on h8
    have ra_8 := ra_7.on h8
    clear fa_7 vfa_7 ra_7
    have cra0 := ra_8.cell (j := 0) rfl
    have cra1 := ra_8.cell (j := 1) rfl
    have cra2 := ra_8.cell (j := 2) rfl
    have cra3 := ra_8.cell (j := 3) rfl
    have cra4 := ra_8.cell (j := 4) rfl
    have cra5 := ra_8.cell (j := 5) rfl
    have sz8 := h8.size
    have hnfb := hk8.in_
    have hlfb : n8 = 1 := by have h1 := hk8.1.len; have h2 := bk_len p8; rw [hb8] at h2; simp at h2; omega
    subst hlfb
    go_wp2_with (first
      | (with_reducible refine wpList_alloc_row (o := ⟨some 9, _, _, _, _, _⟩) rfl _ rfl zeroRN zero_rn ?_; intro w9 r9 s9 g9)
      | ((with_reducible refine wpList_at ⟨none, .store _ (.tmp 9) _, _, _, _, _⟩ ?_); refine wpList_store_all rfl _ _ _ rfl w8.heap.size rfl _ _ r9 ((⟨A8, 1, c8, ⟨(M : Int), 0⟩, true, (mB : Int), false⟩ : Rn).cs) rfl ((⟨A8, 1, c8, ⟨(M : Int), 0⟩, true, (mB : Int), false⟩ : Rn).cs_one) rfl (by kernel_rfl) ?_; intro w10 rb_10 g10; have k10 : Below w8.heap.size w8 w10 := below_kept (grown_below g9 (Nat.le_refl _) (by simp)) g10 (Nat.le_of_lt s9) (by rintro q hq; cases hq; exact Nat.le_refl _); have B10 := B8.trans (k10.mono B8.size); have fa_10 := fa_8.on k10; have vfa_10 := vfa_8.on k10; have ra_10 := ra_8.on k10; have fb_10 := hk8.on k10; clear fa_8 vfa_8 ra_8; have cra0 := ra_10.cell (j := 0) rfl; have cra1 := ra_10.cell (j := 1) rfl; have cra2 := ra_10.cell (j := 2) rfl; have cra3 := ra_10.cell (j := 3) rfl; have cra4 := ra_10.cell (j := 4) rfl; have cra5 := ra_10.cell (j := 5) rfl; clear r9 g9 g10; have s10 := rb_10.lt; have crb0 := rb_10.cell (j := 0) rfl; have crb1 := rb_10.cell (j := 1) rfl; have crb2 := rb_10.cell (j := 2) rfl; have crb3 := rb_10.cell (j := 3) rfl; have crb4 := rb_10.cell (j := 4) rfl; have crb5 := rb_10.cell (j := 5) rfl)
      | ((with_reducible refine wpList_at ⟨some 32, _, _, _, _, _⟩ ?_); refine wpList_valueG rfl _ (by exact exec_load _ 40 _ rfl ⟨w8.heap.size, 0, none⟩ rfl [.slice A8 1 c8] (Row.part rb_10 (pre := []) (post := [.int .i64 (M : Int), .int .i64 0, .bool true, .int .i64 (mB : Int), .bool false]) rfl rfl) _ Try.underlying40 rfl (by kernel_rfl)) ?_))
    have hx11 := exec_any (fun _ => True) A8 c8 p8 fB bits hb16 hlB (⟨false, 0, none, 0, 0⟩ : Se) [] _ fb_10 hb8 (by exact ⟨fun _ _ _ => trivial, fun _ _ _ _ _ => trivial⟩) Reads.nil_
    rw [show rtExec (Se.m (⟨false, 0, none, 0, 0⟩ : Se) []) bits fB = ⟨fC, (u : Int), 0, true, mC⟩ from hC] at hx11
    refine hx11.mono ?_
    rintro e w11 ⟨A11, n11, c11, p11, rfl, hk11, hb11, hi11, h11⟩
    have B11 := B10.trans (h11.mono B10.size)
    have fa_11 := fa_10.on h11
    have vfa_11 := vfa_10.on h11
    have ra_11 := ra_10.on h11
    have fb_11 := fb_10.on h11
    have rb_11 := rb_10.on h11
    clear fa_10 vfa_10 ra_10 fb_10 rb_10
    have cra0 := ra_11.cell (j := 0) rfl
    have cra1 := ra_11.cell (j := 1) rfl
    have cra2 := ra_11.cell (j := 2) rfl
    have cra3 := ra_11.cell (j := 3) rfl
    have cra4 := ra_11.cell (j := 4) rfl
    have cra5 := ra_11.cell (j := 5) rfl
    have crb0 := rb_11.cell (j := 0) rfl
    have crb1 := rb_11.cell (j := 1) rfl
    have crb2 := rb_11.cell (j := 2) rfl
    have crb3 := rb_11.cell (j := 3) rfl
    have crb4 := rb_11.cell (j := 4) rfl
    have crb5 := rb_11.cell (j := 5) rfl
    have sz11 := h11.size
    go_wp2_with (first
      | (with_reducible refine wpList_alloc_row (o := ⟨some 10, _, _, _, _, _⟩) rfl _ rfl zeroRN zero_rn ?_; intro w12 r12 s12 g12)
      | ((with_reducible refine wpList_at ⟨none, .store _ (.tmp 10) _, _, _, _, _⟩ ?_); refine wpList_store_all rfl _ _ _ rfl w11.heap.size rfl _ _ r12 ((⟨A11, n11, c11, ⟨(u : Int), 0⟩, true, (mC : Int), false⟩ : Rn).cs) rfl ((⟨A11, n11, c11, ⟨(u : Int), 0⟩, true, (mC : Int), false⟩ : Rn).cs_one) rfl (by kernel_rfl) ?_; intro w13 rc_13 g13; have k13 : Below w11.heap.size w11 w13 := below_kept (grown_below g12 (Nat.le_refl _) (by simp)) g13 (Nat.le_of_lt s12) (by rintro q hq; cases hq; exact Nat.le_refl _); have B13 := B11.trans (k13.mono B11.size); have fa_13 := fa_11.on k13; have vfa_13 := vfa_11.on k13; have ra_13 := ra_11.on k13; have fb_13 := fb_11.on k13; have rb_13 := rb_11.on k13; clear fa_11 vfa_11 ra_11 fb_11 rb_11; have cra0 := ra_13.cell (j := 0) rfl; have cra1 := ra_13.cell (j := 1) rfl; have cra2 := ra_13.cell (j := 2) rfl; have cra3 := ra_13.cell (j := 3) rfl; have cra4 := ra_13.cell (j := 4) rfl; have cra5 := ra_13.cell (j := 5) rfl; have crb0 := rb_13.cell (j := 0) rfl; have crb1 := rb_13.cell (j := 1) rfl; have crb2 := rb_13.cell (j := 2) rfl; have crb3 := rb_13.cell (j := 3) rfl; have crb4 := rb_13.cell (j := 4) rfl; have crb5 := rb_13.cell (j := 5) rfl; clear r12 g12 g13; have s13 := rc_13.lt; have crc0 := rc_13.cell (j := 0) rfl; have crc1 := rc_13.cell (j := 1) rfl; have crc2 := rc_13.cell (j := 2) rfl; have crc3 := rc_13.cell (j := 3) rfl; have crc4 := rc_13.cell (j := 4) rfl; have crc5 := rc_13.cell (j := 5) rfl))
    try simp only [Act.put, List.setIfInBounds_toArray, List.set_cons_zero, List.set_cons_succ]
    have hcv : w13.drew.cell? ⟨w5.heap.size, 1, none⟩ = some (.int .i64 (v : Int)) := ra_13.cell (j := 1) rfl
    have hq := HQ.out
    refine wp_region_plan (fun w' => w'.cell? ⟨w5.heap.size, 1, none⟩ = some (.int .i64 (v : Int))) (.take 0 <| .take 1 <| .take 2 <| .take 3 <| .take 4 <| .take 5 <| .take 6 <| .take 7 <| .take 8 <| .take 9 <| .done) (by kernel_rfl) (by kernel_rfl) (by kernel_rfl) (fun _ _ _ _ _ h => h) hcv ?_
    repeat (refine plan_take _ rfl ?_; (first | ((with_reducible refine wpQuiet_at ⟨some 38, _, _, _, _, _⟩ ?_); refine wpQuiet_valueG rfl _ (by intro _ hS; exact exec_load1 _ 3 _ rfl ⟨w5.heap.size, 1, none⟩ rfl _ hS _ Try.underlying3 rfl) (wpQuiet_nil ?_); simp only [Act.put, List.setIfInBounds_toArray, List.set_cons_zero, List.set_cons_succ]) | (go_big_quiet_step ((intros; rfl)); refine wpQuiet_nil ?_)))
    refine plan_done ?_
    have hmx : (if v < tg then (tg : Int) else (v : Int)) = (M : Int) := by rw [HM.out]; split <;> omega
    rw [hmx]
    clear hmx hq
    have rad := ra_13.drew
    have dra1 := rad.cell (j := 1) rfl
    have dra2 := rad.cell (j := 2) rfl
    have dra3 := rad.cell (j := 3) rfl
    have dra4 := rad.cell (j := 4) rfl
    have rbd := rb_13.drew
    have drb1 := rbd.cell (j := 1) rfl
    have drb2 := rbd.cell (j := 2) rfl
    have drb3 := rbd.cell (j := 3) rfl
    have drb4 := rbd.cell (j := 4) rfl
    have rcd := rc_13.drew
    have drc1 := rcd.cell (j := 1) rfl
    have drc2 := rcd.cell (j := 2) rfl
    have drc3 := rcd.cell (j := 3) rfl
    have drc4 := rcd.cell (j := 4) rfl
    have fbd : FuOK w13.drew A8 1 c8 p8 := fb_13
    have hcM : decide ((M : Int) ≤ (u : Int)) = true := decide_eq_true (by omega)
    go_wp2_with (first
      | ((with_reducible refine wpList_at ⟨some 60, _, _, _, _, _⟩ ?_); refine wpList_valueG rfl _ (by exact load_out _ rfl rfl rbd) ?_)
      | ((with_reducible refine wpList_at ⟨some 63, _, _, _, _, _⟩ ?_); refine wpList_valueG rfl _ (by exact HEQ _ _ _ _ _ (⟨(M : Int), 0⟩ : RtO) rfl rfl rfl) ?_)
      | ((with_reducible refine wpList_at ⟨some 74, _, _, _, _, _⟩ ?_); refine wpList_valueG rfl _ (by exact exec_load _ 40 _ rfl ⟨w8.heap.size, 0, none⟩ rfl [.slice A8 1 c8] (Row.part rbd (pre := []) (post := [.int .i64 (M : Int), .int .i64 0, .bool true, .int .i64 (mB : Int), .bool false]) rfl rfl) _ Try.underlying40 rfl (by kernel_rfl)) ?_))
    have HLE := rleast_any A8 1 c8 p8 0 _ fbd.1 fbd.2.2
    rw [hb8, HLB.out] at HLE
    refine HLE.mono ?_
    rintro e wl ⟨rfl, hl⟩
    go_wp2_with fail
    go_ret
    exact ⟨rfl, B13.drew.trans (Below.mono hl B13.size)⟩
end Go.Proofs.Ytfcbcclcmgheeaa
