/-
  RatchetCounts: a walk. No condition.
-/
import Derived.Test.YtfcbcclcmgheeaaSan11
set_option linter.unusedSimpArgs false
set_option linter.unusedVariables false
namespace Go.Proofs.Ytfcbcclcmgheeaa
open Go.RowKit

/-- A Level without faults. -/
theorem quiet_level (l : List UInt8) (snd : Bool) : ∃ f, rtExec ⟨false, 0, []⟩ (rtBits l) (rtCells l snd) = ⟨f, ((lvl (rtCells l snd) false : Nat) : Int), 0, true, 6 * lvl (rtCells l snd) false + (if lvl (rtCells l snd) false < rtBits l then 3 else 0)⟩ := by
  have H := rtExec_ok ⟨false, 0, []⟩ (rtBits l) (rtCells l snd) (rtCells_small l snd) (rtCells_len l snd)
  obtain ⟨h1, h2⟩ := ses_quiet H (rtCells_len l snd) rtFl_nil
  rw [show rtT ⟨false, 0, []⟩ (rtBits l) = 0 from rfl] at h2
  rcases h2 with ⟨_, p, _, _, h3, _⟩ | ⟨h2, h3, h4⟩
  · omega
  · exact ⟨_, RtRun.is (by rw [h3, Nat.max_zero]) h2 h1 (by rw [h4]; omega)⟩
/-- A Raise without faults. -/
theorem quiet_raise (l : List UInt8) (snd : Bool) (tb : UInt8) : ∃ f n e m, rtExec ⟨true, tb, []⟩ (rtBits l) (rtCells l snd) = ⟨f, n, e, true, m⟩ ∧ UpC (rtCells l snd) f ∧
    ((e = 12 ∧ ∃ p : Nat, n = p ∧ p < rtBits l ∧ 2 ≤ stkB (rtCells l snd) p) ∨ (e = 0 ∧ n = ((max (lvl (rtCells l snd) false) (tb.toNat % (rtBits l + 1)) : Nat) : Int) ∧ m = 6 * lvl (rtCells l snd) false + (if lvl (rtCells l snd) false < rtBits l then 3 else 0) + 6 * (tb.toNat % (rtBits l + 1) - lvl (rtCells l snd) false))) := by
  have H := rtExec_ok ⟨true, tb, []⟩ (rtBits l) (rtCells l snd) (rtCells_small l snd) (rtCells_len l snd)
  obtain ⟨h1, h2⟩ := ses_quiet H (rtCells_len l snd) rtFl_nil
  rw [show rtT ⟨true, tb, []⟩ (rtBits l) = tb.toNat % (rtBits l + 1) from rfl] at h2
  refine ⟨_, _, _, _, RtRun.is rfl rfl h1 rfl, H.up, ?_⟩
  rcases h2 with ⟨h2, p, h3, h4, _, h6⟩ | h2
  · exact .inl ⟨h2, p, h3, h4, h6⟩
  · exact .inr h2
set_option maxRecDepth 100000 in
set_option maxHeartbeats 4000000 in
theorem w116_any (A : Option Addr) (n c : Nat) (l : List UInt8) (tb : UInt8) (w : World) (hr : Reads w w.heap.size 1 A n (bvs l)) (hn : n ≤ 9223372036854775807) :
    Calls Try.prog 8 #[.slice A n c, .int .u8 (tb.toNat : Int)] w (GivesX (.bool true) w) := by
  have hB0 : Below w.heap.size w w := Below.refl _ _
  go_enter Try.func8, Try.ntmps8
  go_wp2_with fail
  refine ((san11_any _)).mono ?_
  rintro e w1 ⟨rfl, h1⟩
  have B1 := hB0.trans (h1.mono hB0.size)
  have rd_1 := hr.on h1
  have sz1 := h1.size
  by_cases hbig : 48 < n
  · have q : decide ((48 : Int) < (n : Int)) = true := decide_eq_true (by omega)
    go_wp2_with fail
    go_ret
    exact ⟨rfl, B1⟩
  · have q : decide ((48 : Int) < (n : Int)) = false := decide_eq_false (by omega)
    go_wp2_with fail
    obtain ⟨bits, hbits⟩ : ∃ bits, bits = rtBits l := ⟨_, rfl⟩
    have hb16 := rtBits_le l
    have HCE := cells11_any A n c l false _ rd_1 (by omega)
    obtain ⟨fA, hA⟩ := quiet_level l false
    obtain ⟨fB, nB, eB, mB, hB, _, hB2⟩ := quiet_raise l false tb
    have hcl := rtCells_len l false
    have hlv := lvl_le (z := false) hcl
    rw [← hbits] at hb16 HCE hA hB hB2 hcl hlv
    clear hbits
    generalize rtCells l false = cs at *
    obtain ⟨v, hv⟩ : ∃ v, v = lvl cs false := ⟨_, rfl⟩
    rw [← hv] at hA hB2 hlv
    clear hv
    obtain ⟨tg, htg⟩ : ∃ tg, tg = tb.toNat % (bits + 1) := ⟨_, rfl⟩
    rw [← htg] at hB2
    have hq : (tb.toNat : Int) % ((bits : Int) + 1) = (tg : Int) := by rw [htg, Int.natCast_emod]; rfl
    have htl : tg ≤ bits := by rw [htg]; have := Nat.mod_lt tb.toNat (show 0 < bits + 1 by omega); omega
    have ht255 : tb.toNat ≤ 255 := by have := tb.toNat_lt; omega
    have HQ := Lib.hid hq
    clear hq htg
    have HB2 := Lib.hid hB2
    clear hB2
    by_cases hlt : v < bits
    · have qv : decide ((v : Int) < (bits : Int)) = true := decide_eq_true (by omega)
      refine (HCE).mono ?_
      rintro e w2 ⟨A2, c2, p2, rfl, fa, hp2, hi2, h2⟩
      have B2 := B1.trans (h2.mono B1.size)
      have sz2 := h2.size
      have hnfa := fa.in_
      go_wp2_with (first
        | (with_reducible refine wpList_alloc_row (o := ⟨some 6, _, _, _, _, _⟩) rfl _ rfl zeroF zero_fu ?_; intro w3 r3 s3 g3)
        | ((with_reducible refine wpList_at ⟨none, .store _ (.tmp 6) _, _, _, _, _⟩ ?_); refine wpList_store_all rfl _ _ _ rfl w2.heap.size rfl _ _ r3 [.slice A2 1 c2] rfl (slice_one _ _ _) rfl (by kernel_rfl) ?_; intro w4 vfa_4 g4; have k4 : Below w2.heap.size w2 w4 := below_kept (grown_below g3 (Nat.le_refl _) (by simp)) g4 (Nat.le_of_lt s3) (by rintro q hq; cases hq; exact Nat.le_refl _); have B4 := B2.trans (k4.mono B2.size); have fa_4 := fa.on k4; clear r3 g3 g4; have s4 := vfa_4.lt)
        | ((with_reducible refine wpList_at ⟨some 22, _, _, _, _, _⟩ ?_); refine wpList_valueG rfl _ (by exact exec_loadF1 _ _ rfl (w2.heap.size) rfl A2 1 c2 vfa_4) ?_))
      have hx5 := exec_any (fun _ => True) A2 c2 p2 cs bits hb16 hcl (⟨false, 0, none, 0, 0⟩ : Se) [] _ fa_4 hp2 (by exact ⟨fun _ _ _ => trivial, fun _ _ _ _ _ => trivial⟩) Reads.nil_
      rw [show rtExec (Se.m (⟨false, 0, none, 0, 0⟩ : Se) []) bits cs = ⟨fA, (v : Int), 0, true, 6 * v + 3⟩ from by rw [show Se.m (⟨false, 0, none, 0, 0⟩ : Se) [] = ⟨false, 0, []⟩ from rfl, hA, if_pos hlt]] at hx5
      refine hx5.mono ?_
      rintro e w5 ⟨A5, n5, c5, p5, rfl, hk5, hb5, hi5, h5⟩
      have B5 := B4.trans (h5.mono B4.size)
      have fa_5 := fa_4.on h5
      have vfa_5 := vfa_4.on h5
      clear fa_4 vfa_4
      have sz5 := h5.size
      go_wp2_with (first
        | (with_reducible refine wpList_alloc_row (o := ⟨some 8, _, _, _, _, _⟩) rfl _ rfl zeroRN zero_rn ?_; intro w6 r6 s6 g6)
        | ((with_reducible refine wpList_at ⟨none, .store _ (.tmp 8) _, _, _, _, _⟩ ?_); refine wpList_store_all rfl _ _ _ rfl w5.heap.size rfl _ _ r6 ((⟨A5, n5, c5, ⟨(v : Int), 0⟩, true, ((6 * v + 3 : Nat) : Int), false⟩ : Rn).cs) rfl ((⟨A5, n5, c5, ⟨(v : Int), 0⟩, true, ((6 * v + 3 : Nat) : Int), false⟩ : Rn).cs_one) rfl (by kernel_rfl) ?_; intro w7 ra_7 g7; have k7 : Below w5.heap.size w5 w7 := below_kept (grown_below g6 (Nat.le_refl _) (by simp)) g7 (Nat.le_of_lt s6) (by rintro q hq; cases hq; exact Nat.le_refl _); have B7 := B5.trans (k7.mono B5.size); have fa_7 := fa_5.on k7; have vfa_7 := vfa_5.on k7; clear fa_5 vfa_5; clear r6 g6 g7; have s7 := ra_7.lt; have cra0 := ra_7.cell (j := 0) rfl; have cra1 := ra_7.cell (j := 1) rfl; have cra2 := ra_7.cell (j := 2) rfl; have cra3 := ra_7.cell (j := 3) rfl; have cra4 := ra_7.cell (j := 4) rfl; have cra5 := ra_7.cell (j := 5) rfl)
        | ((with_reducible refine wpList_at ⟨some 37, _, _, _, _, _⟩ ?_); refine wpList_valueG rfl _ (by exact exec_loadF1 _ _ rfl (w2.heap.size) rfl A2 1 c2 vfa_7) ?_))
      have hx8 := exec_any (fun _ => True) A2 c2 p2 cs bits hb16 hcl (⟨true, tb, none, 0, 0⟩ : Se) [] _ fa_7 hp2 (by exact ⟨fun _ _ _ => trivial, fun _ _ _ _ _ => trivial⟩) Reads.nil_
      rw [show rtExec (Se.m (⟨true, tb, none, 0, 0⟩ : Se) []) bits cs = ⟨fB, nB, eB, true, mB⟩ from hB] at hx8
      refine hx8.mono ?_
      rintro e w8 ⟨A8, n8, c8, p8, rfl, hk8, hb8, hi8, h8⟩
      have B8 := B7.trans (h8.mono B7.size)
      have fa_8 := fa_7.on h8
      have vfa_8 := vfa_7.on h8
      have ra_8 := ra_7.on h8
      clear fa_7 vfa_7 ra_7
      have cra0 := ra_8.cell (j := 0) rfl
      have cra1 := ra_8.cell (j := 1) rfl
      have cra2 := ra_8.cell (j := 2) rfl
      have cra3 := ra_8.cell (j := 3) rfl
      have cra4 := ra_8.cell (j := 4) rfl
      have cra5 := ra_8.cell (j := 5) rfl
      have sz8 := h8.size
      go_wp2_with (first
        | (with_reducible refine wpList_alloc_row (o := ⟨some 10, _, _, _, _, _⟩) rfl _ rfl zeroRN zero_rn ?_; intro w9 r9 s9 g9)
        | ((with_reducible refine wpList_at ⟨none, .store _ (.tmp 10) _, _, _, _, _⟩ ?_); refine wpList_store_all rfl _ _ _ rfl w8.heap.size rfl _ _ r9 ((⟨A8, n8, c8, ⟨nB, eB⟩, true, (mB : Int), false⟩ : Rn).cs) rfl ((⟨A8, n8, c8, ⟨nB, eB⟩, true, (mB : Int), false⟩ : Rn).cs_one) rfl (by kernel_rfl) ?_; intro w10 rb_10 g10; have k10 : Below w8.heap.size w8 w10 := below_kept (grown_below g9 (Nat.le_refl _) (by simp)) g10 (Nat.le_of_lt s9) (by rintro q hq; cases hq; exact Nat.le_refl _); have B10 := B8.trans (k10.mono B8.size); have fa_10 := fa_8.on k10; have vfa_10 := vfa_8.on k10; have ra_10 := ra_8.on k10; clear fa_8 vfa_8 ra_8; have cra0 := ra_10.cell (j := 0) rfl; have cra1 := ra_10.cell (j := 1) rfl; have cra2 := ra_10.cell (j := 2) rfl; have cra3 := ra_10.cell (j := 3) rfl; have cra4 := ra_10.cell (j := 4) rfl; have cra5 := ra_10.cell (j := 5) rfl; clear r9 g9 g10; have s10 := rb_10.lt; have crb0 := rb_10.cell (j := 0) rfl; have crb1 := rb_10.cell (j := 1) rfl; have crb2 := rb_10.cell (j := 2) rfl; have crb3 := rb_10.cell (j := 3) rfl; have crb4 := rb_10.cell (j := 4) rfl; have crb5 := rb_10.cell (j := 5) rfl))
      try simp only [Act.put, List.setIfInBounds_toArray, List.set_cons_zero, List.set_cons_succ]
      have hcv : w10.drew.cell? ⟨w5.heap.size, 1, none⟩ = some (.int .i64 (v : Int)) := ra_10.cell (j := 1) rfl
      have hq := HQ.out
      refine wp_region_plan (fun w' => w'.cell? ⟨w5.heap.size, 1, none⟩ = some (.int .i64 (v : Int))) (.take 0 <| .take 1 <| .take 2 <| .take 3 <| .take 4 <| .take 5 <| .take 6 <| .take 7 <| .take 8 <| .take 9 <| .take 10 <| .take 11 <| .done) (by kernel_rfl) (by kernel_rfl) (by kernel_rfl) (fun _ _ _ _ _ h => h) hcv ?_
      repeat (refine plan_take _ rfl ?_; (first | ((with_reducible refine wpQuiet_at ⟨some 49, _, _, _, _, _⟩ ?_); refine wpQuiet_valueG rfl _ (by intro _ hS; exact exec_load1 _ 3 _ rfl ⟨w5.heap.size, 1, none⟩ rfl _ hS _ Try.underlying3 rfl) (wpQuiet_nil ?_); simp only [Act.put, List.setIfInBounds_toArray, List.set_cons_zero, List.set_cons_succ]) | (go_big_quiet_step ((intros; rfl)); refine wpQuiet_nil ?_)))
      refine plan_done ?_
      have rad := ra_10.drew
      have rbd := rb_10.drew
      have hmx : (if (tg : Int) - (v : Int) < 0 then (0 : Int) else (tg : Int) - (v : Int)) = ((tg - v : Nat) : Int) := by split <;> omega
      rw [hmx]
      clear hmx hq
      rcases HB2.out with ⟨rfl, _⟩ | ⟨rfl, _, hm⟩
      · clear HB2
        have dra1 := rad.cell (j := 1) rfl
        have dra2 := rad.cell (j := 2) rfl
        have dra3 := rad.cell (j := 3) rfl
        have dra4 := rad.cell (j := 4) rfl
        have drb1 := rbd.cell (j := 1) rfl
        have drb2 := rbd.cell (j := 2) rfl
        have drb3 := rbd.cell (j := 3) rfl
        have drb4 := rbd.cell (j := 4) rfl
        go_wp2_with fail
        go_ret
        exact ⟨rfl, B10.drew⟩
      · rw [if_pos hlt] at hm
        subst hm
        clear HB2
        have hmx2 : tg - v ≤ 16 := by omega
        generalize tg - v = mx at *
        have dra1 := rad.cell (j := 1) rfl
        have dra2 := rad.cell (j := 2) rfl
        have dra3 := rad.cell (j := 3) rfl
        have dra4 := rad.cell (j := 4) rfl
        have drb1 := rbd.cell (j := 1) rfl
        have drb2 := rbd.cell (j := 2) rfl
        have drb3 := rbd.cell (j := 3) rfl
        have drb4 := rbd.cell (j := 4) rfl
        go_wp2_with fail
        go_ret
        exact ⟨rfl, B10.drew⟩
    · have qv : decide ((v : Int) < (bits : Int)) = false := decide_eq_false (by omega)
      refine (HCE).mono ?_
      rintro e w11 ⟨A11, c11, p11, rfl, fa, hp11, hi11, h11⟩
      have B11 := B1.trans (h11.mono B1.size)
      have sz11 := h11.size
      have hnfa := fa.in_
      go_wp2_with (first
        | (with_reducible refine wpList_alloc_row (o := ⟨some 6, _, _, _, _, _⟩) rfl _ rfl zeroF zero_fu ?_; intro w12 r12 s12 g12)
        | ((with_reducible refine wpList_at ⟨none, .store _ (.tmp 6) _, _, _, _, _⟩ ?_); refine wpList_store_all rfl _ _ _ rfl w11.heap.size rfl _ _ r12 [.slice A11 1 c11] rfl (slice_one _ _ _) rfl (by kernel_rfl) ?_; intro w13 vfa_13 g13; have k13 : Below w11.heap.size w11 w13 := below_kept (grown_below g12 (Nat.le_refl _) (by simp)) g13 (Nat.le_of_lt s12) (by rintro q hq; cases hq; exact Nat.le_refl _); have B13 := B11.trans (k13.mono B11.size); have fa_13 := fa.on k13; clear r12 g12 g13; have s13 := vfa_13.lt)
        | ((with_reducible refine wpList_at ⟨some 22, _, _, _, _, _⟩ ?_); refine wpList_valueG rfl _ (by exact exec_loadF1 _ _ rfl (w11.heap.size) rfl A11 1 c11 vfa_13) ?_))
      have hx14 := exec_any (fun _ => True) A11 c11 p11 cs bits hb16 hcl (⟨false, 0, none, 0, 0⟩ : Se) [] _ fa_13 hp11 (by exact ⟨fun _ _ _ => trivial, fun _ _ _ _ _ => trivial⟩) Reads.nil_
      rw [show rtExec (Se.m (⟨false, 0, none, 0, 0⟩ : Se) []) bits cs = ⟨fA, (v : Int), 0, true, 6 * v⟩ from by rw [show Se.m (⟨false, 0, none, 0, 0⟩ : Se) [] = ⟨false, 0, []⟩ from rfl, hA, if_neg hlt, Nat.add_zero]] at hx14
      refine hx14.mono ?_
      rintro e w14 ⟨A14, n14, c14, p14, rfl, hk14, hb14, hi14, h14⟩
      have B14 := B13.trans (h14.mono B13.size)
      have fa_14 := fa_13.on h14
      have vfa_14 := vfa_13.on h14
      clear fa_13 vfa_13
      have sz14 := h14.size
      go_wp2_with (first
        | (with_reducible refine wpList_alloc_row (o := ⟨some 8, _, _, _, _, _⟩) rfl _ rfl zeroRN zero_rn ?_; intro w15 r15 s15 g15)
        | ((with_reducible refine wpList_at ⟨none, .store _ (.tmp 8) _, _, _, _, _⟩ ?_); refine wpList_store_all rfl _ _ _ rfl w14.heap.size rfl _ _ r15 ((⟨A14, n14, c14, ⟨(v : Int), 0⟩, true, ((6 * v : Nat) : Int), false⟩ : Rn).cs) rfl ((⟨A14, n14, c14, ⟨(v : Int), 0⟩, true, ((6 * v : Nat) : Int), false⟩ : Rn).cs_one) rfl (by kernel_rfl) ?_; intro w16 ra_16 g16; have k16 : Below w14.heap.size w14 w16 := below_kept (grown_below g15 (Nat.le_refl _) (by simp)) g16 (Nat.le_of_lt s15) (by rintro q hq; cases hq; exact Nat.le_refl _); have B16 := B14.trans (k16.mono B14.size); have fa_16 := fa_14.on k16; have vfa_16 := vfa_14.on k16; clear fa_14 vfa_14; clear r15 g15 g16; have s16 := ra_16.lt; have cra0 := ra_16.cell (j := 0) rfl; have cra1 := ra_16.cell (j := 1) rfl; have cra2 := ra_16.cell (j := 2) rfl; have cra3 := ra_16.cell (j := 3) rfl; have cra4 := ra_16.cell (j := 4) rfl; have cra5 := ra_16.cell (j := 5) rfl)
        | ((with_reducible refine wpList_at ⟨some 37, _, _, _, _, _⟩ ?_); refine wpList_valueG rfl _ (by exact exec_loadF1 _ _ rfl (w11.heap.size) rfl A11 1 c11 vfa_16) ?_))
      have hx17 := exec_any (fun _ => True) A11 c11 p11 cs bits hb16 hcl (⟨true, tb, none, 0, 0⟩ : Se) [] _ fa_16 hp11 (by exact ⟨fun _ _ _ => trivial, fun _ _ _ _ _ => trivial⟩) Reads.nil_
      rw [show rtExec (Se.m (⟨true, tb, none, 0, 0⟩ : Se) []) bits cs = ⟨fB, nB, eB, true, mB⟩ from hB] at hx17
      refine hx17.mono ?_
      rintro e w17 ⟨A17, n17, c17, p17, rfl, hk17, hb17, hi17, h17⟩
      have B17 := B16.trans (h17.mono B16.size)
      have fa_17 := fa_16.on h17
      have vfa_17 := vfa_16.on h17
      have ra_17 := ra_16.on h17
      clear fa_16 vfa_16 ra_16
      have cra0 := ra_17.cell (j := 0) rfl
      have cra1 := ra_17.cell (j := 1) rfl
      have cra2 := ra_17.cell (j := 2) rfl
      have cra3 := ra_17.cell (j := 3) rfl
      have cra4 := ra_17.cell (j := 4) rfl
      have cra5 := ra_17.cell (j := 5) rfl
      have sz17 := h17.size
      go_wp2_with (first
        | (with_reducible refine wpList_alloc_row (o := ⟨some 10, _, _, _, _, _⟩) rfl _ rfl zeroRN zero_rn ?_; intro w18 r18 s18 g18)
        | ((with_reducible refine wpList_at ⟨none, .store _ (.tmp 10) _, _, _, _, _⟩ ?_); refine wpList_store_all rfl _ _ _ rfl w17.heap.size rfl _ _ r18 ((⟨A17, n17, c17, ⟨nB, eB⟩, true, (mB : Int), false⟩ : Rn).cs) rfl ((⟨A17, n17, c17, ⟨nB, eB⟩, true, (mB : Int), false⟩ : Rn).cs_one) rfl (by kernel_rfl) ?_; intro w19 rb_19 g19; have k19 : Below w17.heap.size w17 w19 := below_kept (grown_below g18 (Nat.le_refl _) (by simp)) g19 (Nat.le_of_lt s18) (by rintro q hq; cases hq; exact Nat.le_refl _); have B19 := B17.trans (k19.mono B17.size); have fa_19 := fa_17.on k19; have vfa_19 := vfa_17.on k19; have ra_19 := ra_17.on k19; clear fa_17 vfa_17 ra_17; have cra0 := ra_19.cell (j := 0) rfl; have cra1 := ra_19.cell (j := 1) rfl; have cra2 := ra_19.cell (j := 2) rfl; have cra3 := ra_19.cell (j := 3) rfl; have cra4 := ra_19.cell (j := 4) rfl; have cra5 := ra_19.cell (j := 5) rfl; clear r18 g18 g19; have s19 := rb_19.lt; have crb0 := rb_19.cell (j := 0) rfl; have crb1 := rb_19.cell (j := 1) rfl; have crb2 := rb_19.cell (j := 2) rfl; have crb3 := rb_19.cell (j := 3) rfl; have crb4 := rb_19.cell (j := 4) rfl; have crb5 := rb_19.cell (j := 5) rfl))
      try simp only [Act.put, List.setIfInBounds_toArray, List.set_cons_zero, List.set_cons_succ]
      have hcv : w19.drew.cell? ⟨w14.heap.size, 1, none⟩ = some (.int .i64 (v : Int)) := ra_19.cell (j := 1) rfl
      have hq := HQ.out
      refine wp_region_plan (fun w' => w'.cell? ⟨w14.heap.size, 1, none⟩ = some (.int .i64 (v : Int))) (.take 0 <| .take 1 <| .take 2 <| .take 3 <| .take 4 <| .take 5 <| .take 6 <| .take 7 <| .take 8 <| .take 9 <| .take 10 <| .take 11 <| .done) (by kernel_rfl) (by kernel_rfl) (by kernel_rfl) (fun _ _ _ _ _ h => h) hcv ?_
      repeat (refine plan_take _ rfl ?_; (first | ((with_reducible refine wpQuiet_at ⟨some 49, _, _, _, _, _⟩ ?_); refine wpQuiet_valueG rfl _ (by intro _ hS; exact exec_load1 _ 3 _ rfl ⟨w14.heap.size, 1, none⟩ rfl _ hS _ Try.underlying3 rfl) (wpQuiet_nil ?_); simp only [Act.put, List.setIfInBounds_toArray, List.set_cons_zero, List.set_cons_succ]) | (go_big_quiet_step ((intros; rfl)); refine wpQuiet_nil ?_)))
      refine plan_done ?_
      have rad := ra_19.drew
      have rbd := rb_19.drew
      have hmx : (if (tg : Int) - (v : Int) < 0 then (0 : Int) else (tg : Int) - (v : Int)) = ((tg - v : Nat) : Int) := by split <;> omega
      rw [hmx]
      clear hmx hq
      rcases HB2.out with ⟨rfl, _⟩ | ⟨rfl, _, hm⟩
      · clear HB2
        have dra1 := rad.cell (j := 1) rfl
        have dra2 := rad.cell (j := 2) rfl
        have dra3 := rad.cell (j := 3) rfl
        have dra4 := rad.cell (j := 4) rfl
        have drb1 := rbd.cell (j := 1) rfl
        have drb2 := rbd.cell (j := 2) rfl
        have drb3 := rbd.cell (j := 3) rfl
        have drb4 := rbd.cell (j := 4) rfl
        go_wp2_with fail
        go_ret
        exact ⟨rfl, B19.drew⟩
      · rw [if_neg hlt] at hm
        subst hm
        clear HB2
        have hmx2 : tg - v ≤ 16 := by omega
        generalize tg - v = mx at *
        have dra1 := rad.cell (j := 1) rfl
        have dra2 := rad.cell (j := 2) rfl
        have dra3 := rad.cell (j := 3) rfl
        have dra4 := rad.cell (j := 4) rfl
        have drb1 := rbd.cell (j := 1) rfl
        have drb2 := rbd.cell (j := 2) rfl
        have drb3 := rbd.cell (j := 3) rfl
        have drb4 := rbd.cell (j := 4) rfl
        go_wp2_with fail
        go_ret
        exact ⟨rfl, B19.drew⟩
end Go.Proofs.Ytfcbcclcmgheeaa
