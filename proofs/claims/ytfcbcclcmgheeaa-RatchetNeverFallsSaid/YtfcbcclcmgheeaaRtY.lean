/-
  What the law file's execute returns: a contract by a walk. Conditions: one bank of complete bits, at most 16; the faults' length.
-/
import Derived.Test.YtfcbcclcmgheeaaRtYa
set_option linter.unusedSimpArgs false
set_option linter.unusedVariables false
namespace Go.Proofs.Ytfcbcclcmgheeaa
open Go.RowKit

set_option maxRecDepth 100000 in
set_option maxHeartbeats 4000000 in
theorem exec_any (X : Nat → Prop) (A : Option Addr) (c : Nat) (ps : List Part) (cs : List UInt8) (bits : Nat) (hb : bits ≤ 16) (hcs : cs.length = 3 * bits) (s : Se) (fs : List UInt8) (w : World) (hok : FuOK w A 1 c ps) (hps : bk ps = [cs]) (hX : FuIn X A 1 ps) (hfs : Reads w w.heap.size 1 s.A s.n (bvs fs)) :
    Calls Try.prog 16 #[fuv A 1 c, s.v, .int .i64 (bits : Int)] w (GivesRn X (rtExec (s.m fs) bits cs) w) := by
  obtain ⟨i0, hi0, hz0, hz1, hz2⟩ := info_parts info_rs
  have HLEN := Lib.hid hcs
  have HFS := Lib.hid hfs
  obtain ⟨FL, hFL⟩ : ∃ FL, FL = rtFl fs := ⟨_, rfl⟩
  obtain ⟨PR, hPR⟩ : ∃ PR, PR = rtProg (s.m fs) bits := ⟨_, rfl⟩
  obtain ⟨RX, hRX⟩ : ∃ RX, RX = rtExec (s.m fs) bits cs := ⟨_, rfl⟩
  rw [← hRX]
  have HFL := Lib.hid hFL
  have HPR := Lib.hid hPR
  have HRX : Hid (RX = rtRun FL PR 0 cs) := Lib.hid (by rw [hRX, hFL, hPR]; rfl)
  have HDEP : Hid (rtDep PR (3 * bits) (12 * bits)) := Lib.hid (by rw [hPR]; exact rtProg_dep _ _)
  clear hFL hPR hRX hcs
  unfold fuv
  go_enter Try.func16, Try.ntmps16
  go_wp2_with (first
    | ((with_reducible refine wpList_at ⟨some 3, _, _, _, _, _⟩ ?_); refine wpList_box_row rfl _ _ rfl [.slice A 1 c] rfl ?_; intro w2 r3_2 s2 g2; have k2 : Below w.heap.size w w2 := grown_below g2 (Nat.le_refl _) (by simp); have B2 : Below w.heap.size w w2 := k2; have fu_2 := hok.on k2; have fr_2 := hfs.on k2)
    | ((with_reducible refine wpList_at ⟨some 4, _, _, _, _, _⟩ ?_); refine wpList_box_row rfl _ _ rfl (s.cs) rfl ?_; intro w3 se_3 s3 g3; have k3 : Below w2.heap.size w2 w3 := grown_below g3 (Nat.le_refl _) (by simp); have B3 := B2.trans (k3.mono B2.size); have fu_3 := fu_2.on k3; have fr_3 := fr_2.on k3; have r3_3 := r3_2.on k3; clear fu_2 fr_2 r3_2)
    | (with_reducible refine wpList_alloc_row (o := ⟨some 6, _, _, _, _, _⟩) rfl _ rfl zeroRN zero_rn ?_; intro w4 z6_4 s4 g4; have k4 : Below w3.heap.size w3 w4 := grown_below g4 (Nat.le_refl _) (by simp); have B4 := B3.trans (k4.mono B3.size); have fu_4 := fu_3.on k4; have fr_4 := fr_3.on k4; have r3_4 := r3_3.on k4; have se_4 := se_3.on k4; clear fu_3 fr_3 r3_3 se_3)
    | ((with_reducible refine wpList_at ⟨some 17, _, _, _, _, _⟩ ?_); refine wpList_valueG rfl _ (by exact exec_loadF1 _ _ rfl (w.heap.size) rfl A 1 c r3_4) ?_)
    | (with_reducible refine wpList_alloc_row (o := ⟨some 7, _, _, _, _, _⟩) rfl _ rfl zeroH zero_hw ?_; intro w5 r5 s5 g5)
    | ((with_reducible refine wpList_at ⟨none, .store _ (.tmp 7) _, _, _, _, _⟩ ?_); refine wpList_store_all rfl _ _ _ rfl w4.heap.size rfl _ _ r5 ((⟨A, 1, c, ps, none, 0, 0, [], List.replicate 16 0⟩ : Hw).cs) rfl (Hw.cs_one _) rfl (by kernel_rfl) ?_; intro w6 rh_6 g6; have k6 : Below w4.heap.size w4 w6 := below_kept (grown_below g5 (Nat.le_refl _) (by simp)) g6 (Nat.le_of_lt s5) (by rintro q hq; cases hq; exact Nat.le_refl _); have B6 := B4.trans (k6.mono B4.size); have fu_6 := fu_4.on k6; have fr_6 := fr_4.on k6; have r3_6 := r3_4.on k6; have se_6 := se_4.on k6; have z6_6 := z6_4.on k6; clear fu_4 fr_4 r3_4 se_4 z6_4; clear r5 g5 g6; have s6 := rh_6.lt))
  have hk0 : HwOK w6 (⟨A, 1, c, ps, none, 0, 0, [], List.replicate 16 0⟩ : Hw) := ⟨fu_6, ⟨Reads.nil_, Nat.le_refl _, Nat.zero_le _, fun s hs => by cases hs⟩, rfl⟩
  have hin0 : HwIn (fun q => X q ∧ q < w.heap.size) (⟨A, 1, c, ps, none, 0, 0, [], List.replicate 16 0⟩ : Hw) := ⟨hX.and hok.in_, LIn.nil_⟩
  have hs0 : (⟨A, 1, c, ps, none, 0, 0, [], List.replicate 16 0⟩ : Hw).s = rtHs cs := by show DvS.mk (bk ps) [] _ = _; rw [hps]; rfl
  clear hX hps hok hfs
  obtain ⟨YOK, hYOK⟩ : ∃ YOK : (Nat → Prop) → World → Value → Prop, YOK = fun Y wr s8 => (∀ q, Y q → (X q ∧ q < w.heap.size) ∨ w.heap.size ≤ q) ∧ ¬ Y (w3.heap.size) ∧ ¬ Y (w4.heap.size) ∧ (∀ q, Y q → q < wr.heap.size) ∧ (∀ k, s8.ownBlock = some k → ¬ Y k) := ⟨_, rfl⟩
  have HYOK := Lib.hid hYOK
  clear hYOK
  go_loopg [8, 9] (12 * bits) (fun gh s8 s9 wr => ∃ (i : Nat) (T : RtP) (ci : List UInt8) (h : Hw) (l : List DvR) (Y : Nat → Prop), Hid (i + gh ≤ 12 * bits) ∧ i ≤ 12 * bits ∧ s9 = .int .i64 (i : Int) ∧ Hid (rtDep T (3 * bits) gh) ∧ Hid (ci.length = 3 * bits) ∧ Hid (RX = rtRun FL T i ci) ∧ Hid (∀ vs, rtAns 0 PR (rxs l ++ vs) = rtAns 0 T vs) ∧ wr.ownsRow w.heap.size 78 2 s8 i (rrs l) ∧ Row wr (w2.heap.size) 47 s.cs ∧ Row wr (w3.heap.size) 44 zeroRN ∧ Row wr (w4.heap.size) 64 h.cs ∧ HwOK wr h ∧ HwIn Y h ∧ YOK Y wr s8 ∧ Hid (h.s = rtHs ci) ∧ Below w.heap.size w wr ∧ w6.heap.size ≤ wr.heap.size)
  case atStart => exact ⟨0, PR, cs, (⟨A, 1, c, ps, none, 0, 0, [], List.replicate 16 0⟩ : Hw), [], _, by show 0 + 12 * bits ≤ _; omega, by omega, rfl, HDEP, HLEN, HRX, Lib.hid (fun vs => rfl), World.ownsRow_nil _ _ _ _, se_6, z6_6, rh_6, hk0, hin0, by rw [HYOK.out]; exact ⟨fun q h => .inl h, fun h => by have := h.2; omega, fun h => by have := h.2; omega, fun q h => by have := h.2; omega, fun k hk => by simp [Value.ownBlock] at hk⟩, Lib.hid hs0, B6, Nat.le_refl _⟩
  case round =>
    obtain ⟨i, T, ci, h, l, Y, HI, hi, rfl, HDT, HCL, HRT, HAT, ow, se, z6, rh, hk, hin, hY, HHS, hB, sGB⟩ := hrel
    obtain ⟨A8, c8, rfl, hc8, hm8, d8⟩ := own_form ow
    have HLO : ∀ q, (.slice A8 i c8 : Value).ownBlock = some q → q < wr.heap.size := fun q hq => (ow.lt q hq).2
    rw [HYOK.out] at hY
    obtain ⟨Y1, NZ, NH, Y4, NO⟩ := hY
    have NY : ∀ q, wr.heap.size ≤ q → ¬ Y q := fun q h1 h2 => by have := Y4 q h2; omega
    have H16 := hk.h16
    have q400 : decide ((i : Int) < 400) = true := decide_eq_true (by omega)
    have HNX : ∀ W, Below wr.heap.size wr W → Hid (Calls Try.prog 26 #[s.v, .int .i64 (bits : Int), .slice A8 i c8] W (GivesS (rtAns 0 T []) W)) := fun W hW => by
      have h1 := next_any s fs bits hb A8 i c8 l W hc8 (d8.on hW)
      rw [rtNx_ans _ hb] at h1
      have h2 := HAT.out []
      rw [List.append_nil] at h2
      have h3 : rtAns 0 (rtProg (s.m fs) bits) (rxs l) = rtAns 0 T [] := by rw [← HPR.out]; exact h2
      rw [h3] at h1
      exact Lib.hid h1
    have hB0 : Below wr.heap.size wr wr := Below.refl _ _
    rcases rtP_cases T with ⟨tn, te, rfl⟩ | hnd
    · have HE : Hid (RX = ⟨ci, tn, te, true, i⟩) := Lib.hid (by rw [HRT.out]; rfl)
      have HN0 := HNX wr hB0
      rw [show rtAns 0 (RtP.done tn te) [] = (noAc, ⟨tn, te⟩, true) from rfl] at HN0
      go_wp2_with ((with_reducible refine wpList_at ⟨some 24, _, _, _, _, _⟩ ?_); refine wpList_valueG rfl _ (by exact exec_loadSe _ _ rfl (w2.heap.size) rfl s se) ?_)
      refine (HN0.out).mono ?_
      rintro e w7 ⟨rfl, h7⟩
      have B7 := hB0.trans (h7.mono hB0.size)
      have ow_7 := own_below ow h7
      have se_7 := se.on h7
      have z6_7 := z6.on h7
      have rh_7 := rh.on h7
      have hk_7 := hk.on h7
      have sz7 := h7.size
      go_wp2_with (first
        | (with_reducible refine wpList_alloc_row (o := ⟨some 10, _, _, _, _, _⟩) rfl _ rfl zeroA zero_ac ?_; intro w8 ra_8 s8 g8; have k8 : Below w7.heap.size w7 w8 := grown_below g8 (Nat.le_refl _) (by simp); have B8 := B7.trans (k8.mono B7.size); have ow_8 := own_below ow_7 k8; have se_8 := se_7.on k8; have z6_8 := z6_7.on k8; have rh_8 := rh_7.on k8; have hk_8 := hk_7.on k8; clear ow_7 se_7 z6_7 rh_7 hk_7)
        | (with_reducible refine wpList_alloc_row (o := ⟨some 11, _, _, _, _, _⟩) rfl _ rfl zeroLO zero_lo ?_; intro w9 ro_9 s9 g9; have k9 : Below w8.heap.size w8 w9 := grown_below g9 (Nat.le_refl _) (by simp); have B9 := B8.trans (k9.mono B8.size); have ow_9 := own_below ow_8 k9; have se_9 := se_8.on k9; have z6_9 := z6_8.on k9; have rh_9 := rh_8.on k9; have hk_9 := hk_8.on k9; have ra_9 := ra_8.on k9; clear ow_8 se_8 z6_8 rh_8 hk_8 ra_8)
        | ((with_reducible refine wpList_at ⟨none, .store _ (.tmp 10) _, _, _, _, _⟩ ?_); refine wpList_store_all rfl _ _ _ rfl (w7.heap.size) rfl _ _ ra_9 (noAc.cs) rfl (noAc.cs_one) rfl (by kernel_rfl) ?_; intro w10 ra_10 g10; have ow_10 := ow_9.kept g10 (.inr (fun q => by have := HLO _ q; omega)); have se_10 := se_9.kept g10 (by simp; omega); have z6_10 := z6_9.kept g10 (by simp; omega); have rh_10 := rh_9.kept g10 (by simp; omega); have hk_10 := hk_9.apart hin g10 (NY _ (by omega)); have ro_10 := ro_9.kept g10 (by simp; omega); have B10 := below_kept B9 g10 B9.size (by rintro q hq; cases hq; omega); have sz10 := g10.size; clear ow_9 se_9 z6_9 rh_9 hk_9 ro_9)
        | ((with_reducible refine wpList_at ⟨none, .store _ (.tmp 11) _, _, _, _, _⟩ ?_); refine wpList_store_all rfl _ _ _ rfl (w8.heap.size) rfl _ _ ro_10 ((⟨tn, te⟩ : RtO).cs) rfl ((⟨tn, te⟩ : RtO).cs_one) rfl (by kernel_rfl) ?_; intro w11 ro_11 g11; have ow_11 := ow_10.kept g11 (.inr (fun q => by have := HLO _ q; omega)); have se_11 := se_10.kept g11 (by simp; omega); have z6_11 := z6_10.kept g11 (by simp; omega); have rh_11 := rh_10.kept g11 (by simp; omega); have hk_11 := hk_10.apart hin g11 (NY _ (by omega)); have ra_11 := ra_10.kept g11 (by simp; omega); have B11 := below_kept B10 g11 B10.size (by rintro q hq; cases hq; omega); have sz11 := g11.size; clear ow_10 se_10 z6_10 rh_10 hk_10 ra_10)
        | ((with_reducible refine wpList_at ⟨some 33, _, _, _, _, _⟩ ?_); refine wpList_valueG rfl _ (by exact exec_loadHFx _ _ rfl (w4.heap.size) rfl h rh_11) ?_)
        | ((with_reducible refine wpList_at ⟨some 34, _, _, _, _, _⟩ ?_); refine wpList_valueG rfl _ (by exact exec_loadLOx _ _ rfl (w8.heap.size) rfl (⟨tn, te⟩ : RtO) ro_11) ?_; have BW12 := hB.trans (Below.mono B11 hB.size))
        | ((with_reducible refine wpList_at ⟨none, .store _ (.tmp 6) _, _, _, _, _⟩ ?_); refine wpList_store_all rfl _ _ _ rfl (w3.heap.size) rfl _ _ z6_11 ((⟨h.A, h.n, h.c, ⟨tn, te⟩, true, (i : Int), false⟩ : Rn).cs) rfl ((⟨h.A, h.n, h.c, ⟨tn, te⟩, true, (i : Int), false⟩ : Rn).cs_one) rfl (by kernel_rfl) ?_; intro w13 z6_13 g13; have ow_13 := ow_11.kept g13 (.inr (z6_11.not_row7 (by decide) ow_11).symm); have se_13 := se_11.kept g13 (by simp; omega); have rh_13 := rh_11.kept g13 (by simp; omega); have hk_13 := hk_11.apart hin g13 (NZ); have ra_13 := ra_11.kept g13 (by simp; omega); have ro_13 := ro_11.kept g13 (by simp; omega); have B13 := below_kept BW12 g13 BW12.size (by rintro q hq; cases hq; omega); have sz13 := g13.size; clear ow_11 se_11 rh_11 hk_11 ra_11 ro_11))
      refine bodyPost_ret (results_cell1 Try.results16 _ _ _ _ rfl (load_rn (r := ⟨h.A, h.n, h.c, ⟨tn, te⟩, true, (i : Int), false⟩) z6_13)) rfl ?_
      rw [HE.out]
      exact ⟨h.A, h.n, h.c, h.ps, rfl, hk_13.1, congrArg DvS.bs HHS.out, hin.1.weak (fun q hq => (Y1 q hq).elim (fun h => .inl h.1) (fun h => .inr h)), B13⟩
    · obtain ⟨a, T', cj, r, hgk, hcl, hans, hcut1, hcut0, HDO⟩ := do_step FL (i := i) HDT.out HCL.out (by omega) hnd
      have HN0 := HNX wr hB0
      rw [hans] at HN0
      have HFT : ∀ W, Below w.heap.size w W → Hid (Calls Try.prog 27 #[.slice s.A s.n s.c, .int .i64 (i : Int)] W (GivesX (rtDvF (FL i)).v W)) := fun W hW => by rw [HFL.out]; exact Lib.hid (fault11_any s.A s.n s.c fs i W (HFS.out.on hW) (by omega))
      have HD2 := fun W hk => Lib.hid (HDO Y h W HHS.out hin hk)
      have HRT1 : Hid ((FL i).1 = true → RX = ⟨cj, 0, 0, false, i + 1⟩) := Lib.hid (fun h => by rw [HRT.out]; exact hcut1 h)
      have HRT0 : Hid ((FL i).1 = false → RX = rtRun FL T' (i + 1) cj ∧ rtDep T' (3 * bits) (gk - 1) ∧ ∀ vs, rtAns 0 T (r.x :: vs) = rtAns 0 T' vs) := Lib.hid (fun h => by rw [HRT.out]; exact hcut0 h)
      clear hans hcut1 hcut0 HDO hnd
      have HCJ := Lib.hid hcl
      clear hcl
      obtain ⟨p, hp⟩ : ∃ p, p = FL i := ⟨_, rfl⟩
      rw [← hp] at HRT1 HRT0 HD2 HFT
      clear hp
      obtain ⟨cut, nz⟩ := p
      simp only at HRT1 HRT0
      have cse0 := se.cell (j := 0) rfl
      have cse1 := se.cell (j := 1) rfl
      have cse2 := se.cell (j := 2) rfl
      go_wp2_with ((with_reducible refine wpList_at ⟨some 24, _, _, _, _, _⟩ ?_); refine wpList_valueG rfl _ (by exact exec_loadSe _ _ rfl (w2.heap.size) rfl s se) ?_)
      refine (HN0.out).mono ?_
      rintro e w14 ⟨rfl, h14⟩
      have B14 := hB0.trans (h14.mono hB0.size)
      have ow_14 := own_below ow h14
      have se_14 := se.on h14
      have z6_14 := z6.on h14
      have rh_14 := rh.on h14
      have hk_14 := hk.on h14
      have cse0 := se_14.cell (j := 0) rfl
      have cse1 := se_14.cell (j := 1) rfl
      have cse2 := se_14.cell (j := 2) rfl
      have sz14 := h14.size
      go_wp2_with (first
        | (with_reducible refine wpList_alloc_row (o := ⟨some 10, _, _, _, _, _⟩) rfl _ rfl zeroA zero_ac ?_; intro w15 ra_15 s15 g15; have k15 : Below w14.heap.size w14 w15 := grown_below g15 (Nat.le_refl _) (by simp); have B15 := B14.trans (k15.mono B14.size); have ow_15 := own_below ow_14 k15; have se_15 := se_14.on k15; have z6_15 := z6_14.on k15; have rh_15 := rh_14.on k15; have hk_15 := hk_14.on k15; clear ow_14 se_14 z6_14 rh_14 hk_14; have cse0 := se_15.cell (j := 0) rfl; have cse1 := se_15.cell (j := 1) rfl; have cse2 := se_15.cell (j := 2) rfl)
        | (with_reducible refine wpList_alloc_row (o := ⟨some 11, _, _, _, _, _⟩) rfl _ rfl zeroLO zero_lo ?_; intro w16 ro_16 s16 g16; have k16 : Below w15.heap.size w15 w16 := grown_below g16 (Nat.le_refl _) (by simp); have B16 := B15.trans (k16.mono B15.size); have ow_16 := own_below ow_15 k16; have se_16 := se_15.on k16; have z6_16 := z6_15.on k16; have rh_16 := rh_15.on k16; have hk_16 := hk_15.on k16; have ra_16 := ra_15.on k16; clear ow_15 se_15 z6_15 rh_15 hk_15 ra_15; have cse0 := se_16.cell (j := 0) rfl; have cse1 := se_16.cell (j := 1) rfl; have cse2 := se_16.cell (j := 2) rfl)
        | ((with_reducible refine wpList_at ⟨none, .store _ (.tmp 10) _, _, _, _, _⟩ ?_); refine wpList_store_all rfl _ _ _ rfl (w14.heap.size) rfl _ _ ra_16 (a.cs) rfl (a.cs_one) rfl (by kernel_rfl) ?_; intro w17 ra_17 g17; have ow_17 := ow_16.kept g17 (.inr (fun q => by have := HLO _ q; omega)); have se_17 := se_16.kept g17 (by simp; omega); have z6_17 := z6_16.kept g17 (by simp; omega); have rh_17 := rh_16.kept g17 (by simp; omega); have hk_17 := hk_16.apart hin g17 (NY _ (by omega)); have ro_17 := ro_16.kept g17 (by simp; omega); have B17 := below_kept B16 g17 B16.size (by rintro q hq; cases hq; omega); have sz17 := g17.size; clear ow_16 se_16 z6_16 rh_16 hk_16 ro_16; have cse0 := se_17.cell (j := 0) rfl; have cse1 := se_17.cell (j := 1) rfl; have cse2 := se_17.cell (j := 2) rfl)
        | ((with_reducible refine wpList_at ⟨none, .store _ (.tmp 11) _, _, _, _, _⟩ ?_); refine wpList_store_all rfl _ _ _ rfl (w15.heap.size) rfl _ _ ro_17 (noO.cs) rfl (noO.cs_one) rfl (by kernel_rfl) ?_; intro w18 ro_18 g18; have ow_18 := ow_17.kept g18 (.inr (fun q => by have := HLO _ q; omega)); have se_18 := se_17.kept g18 (by simp; omega); have z6_18 := z6_17.kept g18 (by simp; omega); have rh_18 := rh_17.kept g18 (by simp; omega); have hk_18 := hk_17.apart hin g18 (NY _ (by omega)); have ra_18 := ra_17.kept g18 (by simp; omega); have B18 := below_kept B17 g18 B17.size (by rintro q hq; cases hq; omega); have sz18 := g18.size; clear ow_17 se_17 z6_17 rh_17 hk_17 ra_17; have cse0 := se_18.cell (j := 0) rfl; have cse1 := se_18.cell (j := 1) rfl; have cse2 := se_18.cell (j := 2) rfl))
      refine ((HFT _ (hB.trans (Below.mono B18 hB.size))).out).mono ?_
      rintro e w19 ⟨rfl, h19⟩
      have B19 := B18.trans (h19.mono B18.size)
      have ow_19 := own_below ow_18 h19
      have se_19 := se_18.on h19
      have z6_19 := z6_18.on h19
      have rh_19 := rh_18.on h19
      have hk_19 := hk_18.on h19
      have ra_19 := ra_18.on h19
      have ro_19 := ro_18.on h19
      clear ow_18 se_18 z6_18 rh_18 hk_18 ra_18 ro_18
      have cse0 := se_19.cell (j := 0) rfl
      have cse1 := se_19.cell (j := 1) rfl
      have cse2 := se_19.cell (j := 2) rfl
      have sz19 := h19.size
      go_wp2_with (first
        | (with_reducible refine wpList_alloc_row (o := ⟨some 13, _, _, _, _, _⟩) rfl _ rfl zeroT zero_ft ?_; intro w20 rf_20 s20 g20; have k20 : Below w19.heap.size w19 w20 := grown_below g20 (Nat.le_refl _) (by simp); have B20 := B19.trans (k20.mono B19.size); have ow_20 := own_below ow_19 k20; have se_20 := se_19.on k20; have z6_20 := z6_19.on k20; have rh_20 := rh_19.on k20; have hk_20 := hk_19.on k20; have ra_20 := ra_19.on k20; have ro_20 := ro_19.on k20; clear ow_19 se_19 z6_19 rh_19 hk_19 ra_19 ro_19; have cse0 := se_20.cell (j := 0) rfl; have cse1 := se_20.cell (j := 1) rfl; have cse2 := se_20.cell (j := 2) rfl)
        | ((with_reducible refine wpList_at ⟨none, .store _ (.tmp 13) _, _, _, _, _⟩ ?_); refine wpList_store_all rfl _ _ _ rfl (w19.heap.size) rfl _ _ rf_20 ((⟨cut, 0, nz⟩ : DvF).cs) rfl ((⟨cut, 0, nz⟩ : DvF).cs_one) rfl (by kernel_rfl) ?_; intro w21 rf_21 g21; have ow_21 := ow_20.kept g21 (.inr (fun q => by have := HLO _ q; omega)); have se_21 := se_20.kept g21 (by simp; omega); have z6_21 := z6_20.kept g21 (by simp; omega); have rh_21 := rh_20.kept g21 (by simp; omega); have hk_21 := hk_20.apart hin g21 (NY _ (by omega)); have ra_21 := ra_20.kept g21 (by simp; omega); have ro_21 := ro_20.kept g21 (by simp; omega); have B21 := below_kept B20 g21 B20.size (by rintro q hq; cases hq; omega); have sz21 := g21.size; clear ow_20 se_20 z6_20 rh_20 hk_20 ra_20 ro_20; have cse0 := se_21.cell (j := 0) rfl; have cse1 := se_21.cell (j := 1) rfl; have cse2 := se_21.cell (j := 2) rfl; have crf0 := rf_21.cell (j := 0) rfl; have crf1 := rf_21.cell (j := 1) rfl; have crf2 := rf_21.cell (j := 2) rfl)
        | ((with_reducible refine wpList_at ⟨some 42, _, _, _, _, _⟩ ?_); refine wpList_valueG rfl _ (by exact exec_loadH _ _ rfl (w4.heap.size) rfl h H16 rh_21) ?_)
        | ((with_reducible refine wpList_at ⟨some 43, _, _, _, _, _⟩ ?_); refine wpList_valueG rfl _ (by exact exec_loadA _ _ rfl (w14.heap.size) rfl a ra_21) ?_)
        | ((with_reducible refine wpList_at ⟨some 44, _, _, _, _, _⟩ ?_); refine wpList_valueG rfl _ (by exact exec_loadT _ _ rfl (w19.heap.size) rfl (⟨cut, 0, nz⟩ : DvF) rf_21) ?_))
      refine ((HD2 _ hk_21).out).mono ?_
      rintro e w22 ⟨h', rfl, hk', hi', hs', h22⟩
      have sz22 := h22.size
      have B22 := B21.trans (h22.mono B21.size)
      have ow_22 := own_below ow_21 h22
      have se_22 := se_21.on h22
      have z6_22 := z6_21.on h22
      have rh_22 := rh_21.on h22
      have ra_22 := ra_21.on h22
      have ro_22 := ro_21.on h22
      have rf_22 := rf_21.on h22
      clear ow_21 se_21 z6_21 rh_21 ra_21 ro_21 rf_21
      have cse0 := se_22.cell (j := 0) rfl
      have cse1 := se_22.cell (j := 1) rfl
      have cse2 := se_22.cell (j := 2) rfl
      have crf0 := rf_22.cell (j := 0) rfl
      have crf1 := rf_22.cell (j := 1) rfl
      have crf2 := rf_22.cell (j := 2) rfl
      have H16b := hk'.h16
      have HSJ := Lib.hid hs'
      clear hs'
      have hin' := hi'.and hk'.in_
      have NYp : ∀ q, w22.heap.size ≤ q → ¬ ((Y q ∨ w21.heap.size ≤ q) ∧ q < w22.heap.size) := fun q h1 h2 => by have := h2.2; omega
      have lwk : wr.heap.size ≤ w21.heap.size := by omega
      have NZp : ¬ ((Y (w3.heap.size) ∨ w21.heap.size ≤ w3.heap.size) ∧ w3.heap.size < w22.heap.size) := fun h2 => h2.1.elim NZ (by omega)
      have NHp : ¬ ((Y (w4.heap.size) ∨ w21.heap.size ≤ w4.heap.size) ∧ w4.heap.size < w22.heap.size) := fun h2 => h2.1.elim NH (by omega)
      have NOp : ∀ k, (.slice A8 i c8 : Value).ownBlock = some k → ¬ ((Y k ∨ w21.heap.size ≤ k) ∧ k < w22.heap.size) := fun k hk h2 => h2.1.elim (NO k hk) (by have := HLO k hk; omega)
      clear hi'
      cases cut with
      | true =>
        have HE := Lib.hid (HRT1.out rfl)
        go_wp2_with (first
          | (with_reducible refine wpList_alloc_row (o := ⟨some 14, _, _, _, _, _⟩) rfl _ rfl zeroH zero_hw ?_; intro w23 rg_23 s23 g23; have k23 : Below w22.heap.size w22 w23 := grown_below g23 (Nat.le_refl _) (by simp); have B23 := B22.trans (k23.mono B22.size); have ow_23 := own_below ow_22 k23; have se_23 := se_22.on k23; have z6_23 := z6_22.on k23; have rh_23 := rh_22.on k23; have ra_23 := ra_22.on k23; have ro_23 := ro_22.on k23; have rf_23 := rf_22.on k23; have hk_23 := hk'.on k23; clear ow_22 se_22 z6_22 rh_22 ra_22 ro_22 rf_22; have cse0 := se_23.cell (j := 0) rfl; have cse1 := se_23.cell (j := 1) rfl; have cse2 := se_23.cell (j := 2) rfl; have crf0 := rf_23.cell (j := 0) rfl; have crf1 := rf_23.cell (j := 1) rfl; have crf2 := rf_23.cell (j := 2) rfl)
          | (with_reducible refine wpList_alloc_row (o := ⟨some 15, _, _, _, _, _⟩) rfl _ rfl zeroR zero_rs ?_; intro w24 rr_24 s24 g24; have k24 : Below w23.heap.size w23 w24 := grown_below g24 (Nat.le_refl _) (by simp); have B24 := B23.trans (k24.mono B23.size); have ow_24 := own_below ow_23 k24; have se_24 := se_23.on k24; have z6_24 := z6_23.on k24; have rh_24 := rh_23.on k24; have ra_24 := ra_23.on k24; have ro_24 := ro_23.on k24; have rf_24 := rf_23.on k24; have hk_24 := hk_23.on k24; have rg_24 := rg_23.on k24; clear ow_23 se_23 z6_23 rh_23 ra_23 ro_23 rf_23 hk_23 rg_23; have cse0 := se_24.cell (j := 0) rfl; have cse1 := se_24.cell (j := 1) rfl; have cse2 := se_24.cell (j := 2) rfl; have crf0 := rf_24.cell (j := 0) rfl; have crf1 := rf_24.cell (j := 1) rfl; have crf2 := rf_24.cell (j := 2) rfl)
          | ((with_reducible refine wpList_at ⟨none, .store _ (.tmp 14) _, _, _, _, _⟩ ?_); refine wpList_store_all rfl _ _ _ rfl (w22.heap.size) rfl _ _ rg_24 (h'.cs) rfl (h'.cs_one) (hw_zl H16b) (hw_size H16b) ?_; intro w25 rg_25 g25; have ow_25 := ow_24.kept g25 (.inr (fun q => by have := HLO _ q; omega)); have se_25 := se_24.kept g25 (by simp; omega); have z6_25 := z6_24.kept g25 (by simp; omega); have rh_25 := rh_24.kept g25 (by simp; omega); have ra_25 := ra_24.kept g25 (by simp; omega); have ro_25 := ro_24.kept g25 (by simp; omega); have rf_25 := rf_24.kept g25 (by simp; omega); have hk_25 := hk_24.apart hin' g25 (NYp _ (by omega)); have rr_25 := rr_24.kept g25 (by simp; omega); have B25 := below_kept B24 g25 B24.size (by rintro q hq; cases hq; omega); have sz25 := g25.size; clear ow_24 se_24 z6_24 rh_24 ra_24 ro_24 rf_24 hk_24 rr_24; have cse0 := se_25.cell (j := 0) rfl; have cse1 := se_25.cell (j := 1) rfl; have cse2 := se_25.cell (j := 2) rfl; have crf0 := rf_25.cell (j := 0) rfl; have crf1 := rf_25.cell (j := 1) rfl; have crf2 := rf_25.cell (j := 2) rfl)
          | ((with_reducible refine wpList_at ⟨none, .store _ (.tmp 15) _, _, _, _, _⟩ ?_); refine wpList_store_all rfl _ _ _ rfl (w23.heap.size) rfl _ _ rr_25 (r.cs) rfl (r.cs_one) rfl (by kernel_rfl) ?_; intro w26 rr_26 g26; have ow_26 := ow_25.kept g26 (.inr (fun q => by have := HLO _ q; omega)); have se_26 := se_25.kept g26 (by simp; omega); have z6_26 := z6_25.kept g26 (by simp; omega); have rh_26 := rh_25.kept g26 (by simp; omega); have ra_26 := ra_25.kept g26 (by simp; omega); have ro_26 := ro_25.kept g26 (by simp; omega); have rf_26 := rf_25.kept g26 (by simp; omega); have hk_26 := hk_25.apart hin' g26 (NYp _ (by omega)); have rg_26 := rg_25.kept g26 (by simp; omega); have B26 := below_kept B25 g26 B25.size (by rintro q hq; cases hq; omega); have sz26 := g26.size; clear ow_25 se_25 z6_25 rh_25 ra_25 ro_25 rf_25 hk_25 rg_25; have cse0 := se_26.cell (j := 0) rfl; have cse1 := se_26.cell (j := 1) rfl; have cse2 := se_26.cell (j := 2) rfl; have crf0 := rf_26.cell (j := 0) rfl; have crf1 := rf_26.cell (j := 1) rfl; have crf2 := rf_26.cell (j := 2) rfl; have BW27 := hB.trans (Below.mono B26 hB.size))
          | ((with_reducible refine wpList_at ⟨some 54, _, _, _, _, _⟩ ?_); refine wpList_valueG rfl _ (by exact exec_loadH _ _ rfl (w22.heap.size) rfl h' H16b rg_26) ?_)
          | ((with_reducible refine wpList_at ⟨none, .store _ (.tmp 7) _, _, _, _, _⟩ ?_); refine wpList_store_all rfl _ _ _ rfl (w4.heap.size) rfl _ _ rh_26 (h'.cs) rfl (Hw.cs_one _) (by rw [Hw.cs_len H16, Hw.cs_len H16b]) (hw_size H16b) ?_; intro w28 rh_28 g28; have ow_28 := ow_26.kept g28 (.inr (rh_26.not_row7 (by decide) ow_26).symm); have se_28 := se_26.kept g28 (by simp; omega); have z6_28 := z6_26.kept g28 (by simp; omega); have ra_28 := ra_26.kept g28 (by simp; omega); have ro_28 := ro_26.kept g28 (by simp; omega); have rf_28 := rf_26.kept g28 (by simp; omega); have hk_28 := hk_26.apart hin' g28 (NHp); have rg_28 := rg_26.kept g28 (by simp; omega); have rr_28 := rr_26.kept g28 (by simp; omega); have B28 := below_kept BW27 g28 BW27.size (by rintro q hq; cases hq; omega); have sz28 := g28.size; clear ow_26 se_26 z6_26 ra_26 ro_26 rf_26 hk_26 rg_26 rr_26; have cse0 := se_28.cell (j := 0) rfl; have cse1 := se_28.cell (j := 1) rfl; have cse2 := se_28.cell (j := 2) rfl; have crf0 := rf_28.cell (j := 0) rfl; have crf1 := rf_28.cell (j := 1) rfl; have crf2 := rf_28.cell (j := 2) rfl)
          | ((with_reducible refine wpList_at ⟨some 58, _, _, _, _, _⟩ ?_); refine wpList_valueG rfl _ (by exact exec_loadHFx _ _ rfl (w4.heap.size) rfl h' rh_28) ?_)
          | ((with_reducible refine wpList_at ⟨none, .store _ (.tmp 6) _, _, _, _, _⟩ ?_); refine wpList_store_all rfl _ _ _ rfl (w3.heap.size) rfl _ _ z6_28 ((⟨h'.A, h'.n, h'.c, noO, false, (i : Int) + 1, false⟩ : Rn).cs) rfl ((⟨h'.A, h'.n, h'.c, noO, false, (i : Int) + 1, false⟩ : Rn).cs_one) rfl (by kernel_rfl) ?_; intro w29 z6_29 g29; have ow_29 := ow_28.kept g29 (.inr (z6_28.not_row7 (by decide) ow_28).symm); have se_29 := se_28.kept g29 (by simp; omega); have rh_29 := rh_28.kept g29 (by simp; omega); have ra_29 := ra_28.kept g29 (by simp; omega); have ro_29 := ro_28.kept g29 (by simp; omega); have rf_29 := rf_28.kept g29 (by simp; omega); have hk_29 := hk_28.apart hin' g29 (NZp); have rg_29 := rg_28.kept g29 (by simp; omega); have rr_29 := rr_28.kept g29 (by simp; omega); have B29 := below_kept B28 g29 B28.size (by rintro q hq; cases hq; omega); have sz29 := g29.size; clear ow_28 se_28 rh_28 ra_28 ro_28 rf_28 hk_28 rg_28 rr_28; have cse0 := se_29.cell (j := 0) rfl; have cse1 := se_29.cell (j := 1) rfl; have cse2 := se_29.cell (j := 2) rfl; have crf0 := rf_29.cell (j := 0) rfl; have crf1 := rf_29.cell (j := 1) rfl; have crf2 := rf_29.cell (j := 2) rfl))
        refine bodyPost_ret (results_cell1 Try.results16 _ _ _ _ rfl (load_rn (r := ⟨h'.A, h'.n, h'.c, noO, false, (i : Int) + 1, false⟩) z6_29)) rfl ?_
        rw [HE.out]
        have hmn : (((⟨cj, 0, 0, false, i + 1⟩ : RtRun).many : Nat) : Int) = (i : Int) + 1 := Int.natCast_add i 1
        exact ⟨h'.A, h'.n, h'.c, h'.ps, by rw [hmn]; rfl, hk_29.1, congrArg DvS.bs HSJ.out, hin'.1.weak (fun q hq => hq.1.elim (fun h9 => (Y1 q h9).elim (fun h => .inl h.1) (fun h => .inr h)) (fun h9 => .inr (by have := hB.size; omega))), B29⟩
      | false =>
        obtain ⟨hr1, hr2, hr3⟩ := HRT0.out rfl
        have HE := Lib.hid hr1
        have HDT2 := Lib.hid hr2
        have HR3 := Lib.hid hr3
        clear hr1 hr2 hr3
        have HAT2 : Hid (∀ vs, rtAns 0 PR (rxs (l ++ [r]) ++ vs) = rtAns 0 T' vs) := Lib.hid (fun vs => by rw [← HR3.out, ← HAT.out]; unfold rxs; rw [List.map_append, List.append_assoc]; rfl)
        go_wp2_with (first
          | (with_reducible refine wpList_alloc_row (o := ⟨some 14, _, _, _, _, _⟩) rfl _ rfl zeroH zero_hw ?_; intro w30 rg_30 s30 g30; have k30 : Below w22.heap.size w22 w30 := grown_below g30 (Nat.le_refl _) (by simp); have B30 := B22.trans (k30.mono B22.size); have ow_30 := own_below ow_22 k30; have se_30 := se_22.on k30; have z6_30 := z6_22.on k30; have rh_30 := rh_22.on k30; have ra_30 := ra_22.on k30; have ro_30 := ro_22.on k30; have rf_30 := rf_22.on k30; have hk_30 := hk'.on k30; clear ow_22 se_22 z6_22 rh_22 ra_22 ro_22 rf_22; have cse0 := se_30.cell (j := 0) rfl; have cse1 := se_30.cell (j := 1) rfl; have cse2 := se_30.cell (j := 2) rfl; have crf0 := rf_30.cell (j := 0) rfl; have crf1 := rf_30.cell (j := 1) rfl; have crf2 := rf_30.cell (j := 2) rfl)
          | (with_reducible refine wpList_alloc_row (o := ⟨some 15, _, _, _, _, _⟩) rfl _ rfl zeroR zero_rs ?_; intro w31 rr_31 s31 g31; have k31 : Below w30.heap.size w30 w31 := grown_below g31 (Nat.le_refl _) (by simp); have B31 := B30.trans (k31.mono B30.size); have ow_31 := own_below ow_30 k31; have se_31 := se_30.on k31; have z6_31 := z6_30.on k31; have rh_31 := rh_30.on k31; have ra_31 := ra_30.on k31; have ro_31 := ro_30.on k31; have rf_31 := rf_30.on k31; have hk_31 := hk_30.on k31; have rg_31 := rg_30.on k31; clear ow_30 se_30 z6_30 rh_30 ra_30 ro_30 rf_30 hk_30 rg_30; have cse0 := se_31.cell (j := 0) rfl; have cse1 := se_31.cell (j := 1) rfl; have cse2 := se_31.cell (j := 2) rfl; have crf0 := rf_31.cell (j := 0) rfl; have crf1 := rf_31.cell (j := 1) rfl; have crf2 := rf_31.cell (j := 2) rfl)
          | ((with_reducible refine wpList_at ⟨none, .store _ (.tmp 14) _, _, _, _, _⟩ ?_); refine wpList_store_all rfl _ _ _ rfl (w22.heap.size) rfl _ _ rg_31 (h'.cs) rfl (h'.cs_one) (hw_zl H16b) (hw_size H16b) ?_; intro w32 rg_32 g32; have ow_32 := ow_31.kept g32 (.inr (fun q => by have := HLO _ q; omega)); have se_32 := se_31.kept g32 (by simp; omega); have z6_32 := z6_31.kept g32 (by simp; omega); have rh_32 := rh_31.kept g32 (by simp; omega); have ra_32 := ra_31.kept g32 (by simp; omega); have ro_32 := ro_31.kept g32 (by simp; omega); have rf_32 := rf_31.kept g32 (by simp; omega); have hk_32 := hk_31.apart hin' g32 (NYp _ (by omega)); have rr_32 := rr_31.kept g32 (by simp; omega); have B32 := below_kept B31 g32 B31.size (by rintro q hq; cases hq; omega); have sz32 := g32.size; clear ow_31 se_31 z6_31 rh_31 ra_31 ro_31 rf_31 hk_31 rr_31; have cse0 := se_32.cell (j := 0) rfl; have cse1 := se_32.cell (j := 1) rfl; have cse2 := se_32.cell (j := 2) rfl; have crf0 := rf_32.cell (j := 0) rfl; have crf1 := rf_32.cell (j := 1) rfl; have crf2 := rf_32.cell (j := 2) rfl)
          | ((with_reducible refine wpList_at ⟨none, .store _ (.tmp 15) _, _, _, _, _⟩ ?_); refine wpList_store_all rfl _ _ _ rfl (w30.heap.size) rfl _ _ rr_32 (r.cs) rfl (r.cs_one) rfl (by kernel_rfl) ?_; intro w33 rr_33 g33; have ow_33 := ow_32.kept g33 (.inr (fun q => by have := HLO _ q; omega)); have se_33 := se_32.kept g33 (by simp; omega); have z6_33 := z6_32.kept g33 (by simp; omega); have rh_33 := rh_32.kept g33 (by simp; omega); have ra_33 := ra_32.kept g33 (by simp; omega); have ro_33 := ro_32.kept g33 (by simp; omega); have rf_33 := rf_32.kept g33 (by simp; omega); have hk_33 := hk_32.apart hin' g33 (NYp _ (by omega)); have rg_33 := rg_32.kept g33 (by simp; omega); have B33 := below_kept B32 g33 B32.size (by rintro q hq; cases hq; omega); have sz33 := g33.size; clear ow_32 se_32 z6_32 rh_32 ra_32 ro_32 rf_32 hk_32 rg_32; have cse0 := se_33.cell (j := 0) rfl; have cse1 := se_33.cell (j := 1) rfl; have cse2 := se_33.cell (j := 2) rfl; have crf0 := rf_33.cell (j := 0) rfl; have crf1 := rf_33.cell (j := 1) rfl; have crf2 := rf_33.cell (j := 2) rfl; have BW34 := hB.trans (Below.mono B33 hB.size))
          | ((with_reducible refine wpList_at ⟨some 54, _, _, _, _, _⟩ ?_); refine wpList_valueG rfl _ (by exact exec_loadH _ _ rfl (w22.heap.size) rfl h' H16b rg_33) ?_)
          | ((with_reducible refine wpList_at ⟨none, .store _ (.tmp 7) _, _, _, _, _⟩ ?_); refine wpList_store_all rfl _ _ _ rfl (w4.heap.size) rfl _ _ rh_33 (h'.cs) rfl (Hw.cs_one _) (by rw [Hw.cs_len H16, Hw.cs_len H16b]) (hw_size H16b) ?_; intro w35 rh_35 g35; have ow_35 := ow_33.kept g35 (.inr (rh_33.not_row7 (by decide) ow_33).symm); have se_35 := se_33.kept g35 (by simp; omega); have z6_35 := z6_33.kept g35 (by simp; omega); have ra_35 := ra_33.kept g35 (by simp; omega); have ro_35 := ro_33.kept g35 (by simp; omega); have rf_35 := rf_33.kept g35 (by simp; omega); have hk_35 := hk_33.apart hin' g35 (NHp); have rg_35 := rg_33.kept g35 (by simp; omega); have rr_35 := rr_33.kept g35 (by simp; omega); have B35 := below_kept BW34 g35 BW34.size (by rintro q hq; cases hq; omega); have sz35 := g35.size; clear ow_33 se_33 z6_33 ra_33 ro_33 rf_33 hk_33 rg_33 rr_33; have cse0 := se_35.cell (j := 0) rfl; have cse1 := se_35.cell (j := 1) rfl; have cse2 := se_35.cell (j := 2) rfl; have crf0 := rf_35.cell (j := 0) rfl; have crf1 := rf_35.cell (j := 1) rfl; have crf2 := rf_35.cell (j := 2) rfl)
          | ((with_reducible refine wpList_at ⟨some 63, _, _, _, _, _⟩ ?_); refine wpList_valueG rfl _ (by exact exec_loadR _ _ rfl (w30.heap.size) rfl r rr_35) ?_)
          | (refine wpList_valueW (o := ⟨some 64, _, _, _, _, _⟩) rfl _ (by exact exec_slice1 _ 22 78 _ rfl Try.underlying22 i0 _ hi0 hz0 r.cs (by rw [hz1]; rfl) (by show 0 < 2; decide) (by show 2 ≤ 1000; decide) rfl) ?_)
          | (at_builtin; have bx36 : Below w35.heap.size w35 (w35.alloc (.cells (r.cs).toArray 78)) := (Below.refl _ _).alloc (Nat.le_refl _) _; have sbx36 := bx36.size; have owx36 := own_below ow_35 bx36; have sex36 := se_35.on bx36; have z6x36 := z6_35.on bx36; have rhx36 := rh_35.on bx36; have hkx36 := hk_35.on bx36; have rrx36 := rr_35.on bx36; refine wpList_append_at9 rfl (.tmp 62) (.tmp 64) _ _ rfl w.heap.size 78 i0 _ 2 24 Try.underlying22 hi0 hz0 hz1 hz2 rfl _ _ _ rfl owx36 1 (r.cs) (boxRow9 Try.underlying22 _ _ _ 2 rfl (r.cs_one) _) (by unfold maxLen; omega) (by omega) (by have := sex36.lt; omega) ?_; intro v36 w36 ow_36 g36 ob36; have se_36 := sex36.kept g36 (sex36.not_row7 (by decide) owx36); have z6_36 := z6x36.kept g36 (z6x36.not_row7 (by decide) owx36); have rh_36 := rhx36.kept g36 (rhx36.not_row7 (by decide) owx36); have hk_36 := hkx36.apartO hin' g36 NOp; have rr_36 := rrx36.kept g36 (fun e => by have := HLO _ e.symm; omega); have B36 := below_kept (B35.trans (bx36.mono B35.size)) g36 (Nat.le_trans B35.size bx36.size) (by intro q hq; exact (owx36.lt q hq).1); have sz36 : w35.heap.size ≤ w36.heap.size := Nat.le_trans bx36.size g36.size; have ebx36 : (w35.alloc (.cells (r.cs).toArray 78)).heap.size = w35.heap.size + 1 := by simp))
        go_roundg (gk - 1)
        case measure => omega
        case rel => exact ⟨i + 1, T', cj, h', l ++ [r], _, by have := HI.out; show i + 1 + (gk - 1) ≤ _; omega, by have := HI.out; omega, by go_num, HDT2, HCJ, HE, HAT2, by rw [show rrs (l ++ [r]) = rrs l ++ r.cs by unfold rrs; simp]; exact ow_36, se_36, z6_36, rh_36, hk_36, hin', by rw [HYOK.out]; exact ⟨fun q h9 => h9.1.elim (fun h8 => Y1 q h8) (fun h8 => .inr (by have := hB.size; omega)), NZp, NHp, fun q h9 => by have := h9.2; omega, fun k hk => ob36.elim (fun h8 => NOp k (h8 ▸ hk)) (fun h8 => NYp k (by rw [h8] at hk; cases hk; omega))⟩, HSJ, B36, by omega⟩
end Go.Proofs.Ytfcbcclcmgheeaa
