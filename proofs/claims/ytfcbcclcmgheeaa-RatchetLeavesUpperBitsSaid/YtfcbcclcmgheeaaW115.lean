/-
  RatchetLeavesUpperBits: a walk. No condition.
-/
import Derived.Test.YtfcbcclcmgheeaaW116
import Derived.Test.YtfcbcclcmgheeaaFuRG
import Derived.Deep.LoopGhost
set_option linter.unusedSimpArgs false
set_option linter.unusedVariables false
namespace Go.Proofs.Ytfcbcclcmgheeaa
open Go.RowKit

theorem upper_ses (s : RtSes) (l : List UInt8) : ∃ f n e d m, rtExec s (rtBits l) (rtCells l false) = ⟨f, n, e, d, m⟩ ∧ f.length = 3 * rtBits l ∧ ∀ c, 3 * max (lvl (rtCells l false) true) (rtT s (rtBits l)) ≤ c → cl f c = cl (rtCells l false) c := by
  have H := rtExec_ok s (rtBits l) (rtCells l false) (rtCells_small l false) (rtCells_len l false)
  exact ⟨_, _, _, _, _, RtRun.is rfl rfl rfl rfl, by rw [← H.up.1]; exact rtCells_len l false, ses_upper H (rtCells_len l false)⟩
set_option maxRecDepth 100000 in
set_option maxHeartbeats 4000000 in
theorem w115_any (s : Se) (fs : List UInt8) (A : Option Addr) (n c : Nat) (l : List UInt8) (w : World) (hr : Reads w w.heap.size 1 A n (bvs l)) (hn : n ≤ 9223372036854775807) (hfs : Reads w w.heap.size 1 s.A s.n (bvs fs)) (hsn : s.n ≤ 9223372036854775807) :
    Calls Try.prog 7 #[.slice A n c, s.v] w (GivesX (.bool true) w) := by
  have hB0 : Below w.heap.size w w := Below.refl _ _
  obtain ⟨sr, st, sA, sn, sc⟩ := s
  simp only at hfs hsn
  cases sr with
  | true =>
    go_enter Try.func7, Try.ntmps7
    go_wp2_with ((with_reducible refine wpList_at ⟨some 3, _, _, _, _, _⟩ ?_); refine wpList_box_row rfl _ _ rfl ((⟨true, st, sA, sn, sc⟩ : Se).cs) rfl ?_; intro w1 se_1 s1 g1; have k1 : Below w.heap.size w w1 := grown_below g1 (Nat.le_refl _) (by simp); have B1 := hB0.trans (k1.mono hB0.size); have rd_1 := hr.on k1; have rf_1 := hfs.on k1; have cse0 := se_1.cell (j := 0) rfl; have cse1 := se_1.cell (j := 1) rfl; have cse2 := se_1.cell (j := 2) rfl)
    refine ((san11_any _)).mono ?_
    rintro e w2 ⟨rfl, h2⟩
    have B2 := B1.trans (h2.mono B1.size)
    have rd_2 := rd_1.on h2
    have rf_2 := rf_1.on h2
    have se_2 := se_1.on h2
    clear rd_1 rf_1 se_1
    have cse0 := se_2.cell (j := 0) rfl
    have cse1 := se_2.cell (j := 1) rfl
    have cse2 := se_2.cell (j := 2) rfl
    have sz2 := h2.size
    have cse0 := se_2.cell (j := 0) rfl
    have cse1 := se_2.cell (j := 1) rfl
    have cse2 := se_2.cell (j := 2) rfl
    by_cases hbig : 48 < n
    · have q : decide ((48 : Int) < (n : Int)) = true := decide_eq_true (by omega)
      go_wp2_with fail
      go_ret
      exact ⟨rfl, B2⟩
    · have q : decide ((48 : Int) < (n : Int)) = false := decide_eq_false (by omega)
      by_cases hbig2 : 200 < sn
      · have q2 : decide ((200 : Int) < (sn : Int)) = true := decide_eq_true (by omega)
        go_wp2_with fail
        go_ret
        exact ⟨rfl, B2⟩
      · have q2 : decide ((200 : Int) < (sn : Int)) = false := decide_eq_false (by omega)
        go_wp2_with fail
        obtain ⟨bits, hbits⟩ : ∃ bits, bits = rtBits l := ⟨_, rfl⟩
        have hb16 := rtBits_le l
        have HCE := cells11_any A n c l false _ rd_2 (by omega)
        obtain ⟨fB, nB, eB, dB, mB, hB, hlB, hup⟩ := upper_ses (Se.m (⟨true, st, sA, sn, sc⟩ : Se) fs) l
        have hcl := rtCells_len l false
        have hlu := lvl_le (z := true) hcl
        have hLU := fuLevel_lvl (rtCells l false) true
        rw [← hbits] at hb16 HCE hB hcl hlB hup hlu
        clear hbits
        generalize rtCells l false = cs at *
        obtain ⟨u, hu⟩ : ∃ u, u = lvl cs true := ⟨_, rfl⟩
        rw [← hu] at hup hlu hLU
        clear hu
        obtain ⟨tg, htg⟩ : ∃ tg, tg = st.toNat % (bits + 1) := ⟨_, rfl⟩
        rw [show rtT (Se.m (⟨true, st, sA, sn, sc⟩ : Se) fs) bits = tg from htg.symm] at hup
        have hq : (st.toNat : Int) % ((bits : Int) + 1) = (tg : Int) := by rw [htg, Int.natCast_emod]; rfl
        have ht255 : st.toNat ≤ 255 := by have := st.toNat_lt; omega
        have htl : tg ≤ bits := by rw [htg]; have := Nat.mod_lt st.toNat (show 0 < bits + 1 by omega); omega
        have HQ := Lib.hid hq
        clear hq htg
        have HUP := Lib.hid hup
        have HLU := Lib.hid hLU
        clear hup hLU
        refine (HCE).mono ?_
        rintro e w3 ⟨A3, c3, p3, rfl, fa, hp3, hi3, h3⟩
        have B3 := B2.trans (h3.mono B2.size)
        have rf_3 := rf_2.on h3
        have se_3 := se_2.on h3
        clear rf_2 se_2
        have cse0 := se_3.cell (j := 0) rfl
        have cse1 := se_3.cell (j := 1) rfl
        have cse2 := se_3.cell (j := 2) rfl
        have sz3 := h3.size
        have hnfa := fa.in_
        go_wp2_with (first
          | (with_reducible refine wpList_alloc_row (o := ⟨some 6, _, _, _, _, _⟩) rfl _ rfl zeroF zero_fu ?_; intro w4 r4 s4 g4)
          | ((with_reducible refine wpList_at ⟨none, .store _ (.tmp 6) _, _, _, _, _⟩ ?_); refine wpList_store_all rfl _ _ _ rfl w3.heap.size rfl _ _ r4 [.slice A3 1 c3] rfl (slice_one _ _ _) rfl (by kernel_rfl) ?_; intro w5 vfa_5 g5; have k5 : Below w3.heap.size w3 w5 := below_kept (grown_below g4 (Nat.le_refl _) (by simp)) g5 (Nat.le_of_lt s4) (by rintro q hq; cases hq; exact Nat.le_refl _); have B5 := B3.trans (k5.mono B3.size); have rf_5 := rf_3.on k5; have se_5 := se_3.on k5; have fa_5 := fa.on k5; clear rf_3 se_3; have cse0 := se_5.cell (j := 0) rfl; have cse1 := se_5.cell (j := 1) rfl; have cse2 := se_5.cell (j := 2) rfl; clear r4 g4 g5; have s5 := vfa_5.lt)
          | ((with_reducible refine wpList_at ⟨some 27, _, _, _, _, _⟩ ?_); refine wpList_valueG rfl _ (by exact exec_loadF1 _ _ rfl (w3.heap.size) rfl A3 1 c3 vfa_5) ?_)
          | ((with_reducible refine wpList_at ⟨some 28, _, _, _, _, _⟩ ?_); refine wpList_valueG rfl _ (by exact exec_loadSe _ _ rfl (w.heap.size) rfl (⟨true, st, sA, sn, sc⟩ : Se) se_5) ?_))
        have hx6 := exec_any (fun _ => True) A3 c3 p3 cs bits hb16 hcl (⟨true, st, sA, sn, sc⟩ : Se) fs _ fa_5 hp3 (by exact ⟨fun _ _ _ => trivial, fun _ _ _ _ _ => trivial⟩) (hfs.on B5)
        rw [show rtExec (Se.m (⟨true, st, sA, sn, sc⟩ : Se) fs) bits cs = ⟨fB, nB, eB, dB, mB⟩ from hB] at hx6
        refine hx6.mono ?_
        rintro e w6 ⟨A6, n6, c6, p6, rfl, hk6, hb6, hi6, h6⟩
        have B6 := B5.trans (h6.mono B5.size)
        have rf_6 := rf_5.on h6
        have se_6 := se_5.on h6
        have fa_6 := fa_5.on h6
        have vfa_6 := vfa_5.on h6
        clear rf_5 se_5 fa_5 vfa_5
        have cse0 := se_6.cell (j := 0) rfl
        have cse1 := se_6.cell (j := 1) rfl
        have cse2 := se_6.cell (j := 2) rfl
        have sz6 := h6.size
        have hnfb := hk6.in_
        have hlfb : n6 = 1 := by have h1 := hk6.1.len; have h2 := bk_len p6; rw [hb6] at h2; simp at h2; omega
        subst hlfb
        go_wp2_with (first
          | (with_reducible refine wpList_alloc_row (o := ⟨some 8, _, _, _, _, _⟩) rfl _ rfl zeroRN zero_rn ?_; intro w7 r7 s7 g7)
          | ((with_reducible refine wpList_at ⟨none, .store _ (.tmp 8) _, _, _, _, _⟩ ?_); refine wpList_store_all rfl _ _ _ rfl w6.heap.size rfl _ _ r7 ((⟨A6, 1, c6, ⟨nB, eB⟩, dB, (mB : Int), false⟩ : Rn).cs) rfl ((⟨A6, 1, c6, ⟨nB, eB⟩, dB, (mB : Int), false⟩ : Rn).cs_one) rfl (by kernel_rfl) ?_; intro w8 rb_8 g8; have k8 : Below w6.heap.size w6 w8 := below_kept (grown_below g7 (Nat.le_refl _) (by simp)) g8 (Nat.le_of_lt s7) (by rintro q hq; cases hq; exact Nat.le_refl _); have B8 := B6.trans (k8.mono B6.size); have rf_8 := rf_6.on k8; have se_8 := se_6.on k8; have fa_8 := fa_6.on k8; have vfa_8 := vfa_6.on k8; have fb_8 := hk6.on k8; clear rf_6 se_6 fa_6 vfa_6; have cse0 := se_8.cell (j := 0) rfl; have cse1 := se_8.cell (j := 1) rfl; have cse2 := se_8.cell (j := 2) rfl; clear r7 g7 g8; have s8 := rb_8.lt; have crb0 := rb_8.cell (j := 0) rfl; have crb1 := rb_8.cell (j := 1) rfl; have crb2 := rb_8.cell (j := 2) rfl; have crb3 := rb_8.cell (j := 3) rfl; have crb4 := rb_8.cell (j := 4) rfl; have crb5 := rb_8.cell (j := 5) rfl)
          | ((with_reducible refine wpList_at ⟨some 31, _, _, _, _, _⟩ ?_); refine wpList_valueG rfl _ (by exact exec_loadF1 _ _ rfl (w3.heap.size) rfl A3 1 c3 vfa_8) ?_))
        have HLE := rmost_any A3 1 c3 p3 0 _ fa_8.1 fa_8.2.2
        rw [hp3, HLU.out] at HLE
        refine (HLE).mono ?_
        rintro e w9 ⟨rfl, h9⟩
        have B9 := B8.trans (h9.mono B8.size)
        have rf_9 := rf_8.on h9
        have se_9 := se_8.on h9
        have fa_9 := fa_8.on h9
        have vfa_9 := vfa_8.on h9
        have fb_9 := fb_8.on h9
        have rb_9 := rb_8.on h9
        clear rf_8 se_8 fa_8 vfa_8 fb_8 rb_8
        have cse0 := se_9.cell (j := 0) rfl
        have cse1 := se_9.cell (j := 1) rfl
        have cse2 := se_9.cell (j := 2) rfl
        have crb0 := rb_9.cell (j := 0) rfl
        have crb1 := rb_9.cell (j := 1) rfl
        have crb2 := rb_9.cell (j := 2) rfl
        have crb3 := rb_9.cell (j := 3) rfl
        have crb4 := rb_9.cell (j := 4) rfl
        have crb5 := rb_9.cell (j := 5) rfl
        have sz9 := h9.size
        obtain ⟨ad, p, rfl, hlta, hp0, hcp, hrp, hpcap⟩ := fa_9.1.at_ (show 0 < 1 by decide)
        have hpl : p.l = cs := by have h1 := bk_get hp0; rw [hp3] at h1; simpa using h1.symm
        rw [hpl] at hrp
        have hpn : cs.length = p.n := hrp.bytes_len
        obtain ⟨ae, r, rfl, hlte, hr0, hcr, hrr, hrcap⟩ := fb_9.1.at_ (show 0 < 1 by decide)
        have hrl : r.l = fB := by have h1 := bk_get hr0; rw [hb6] at h1; simpa using h1.symm
        rw [hrl] at hrr
        have hrn : fB.length = r.n := hrr.bytes_len
        have hcp' : w9.cell? ad = some (.slice p.A p.n p.c) := hcp
        have hcr' : w9.cell? ae = some (.slice r.A r.n r.c) := hcr
        have HCC : ∀ k, k < 3 * bits → ∃ pd rd v, p.A = some pd ∧ r.A = some rd ∧ (3 * max u tg ≤ k → w9.cell? (pd.add k) = some (.int .u8 (v : Int)) ∧ w9.cell? (rd.add k) = some (.int .u8 (v : Int)) ∧ v ≤ 255) := fun k hk => by
          obtain ⟨pd, h1, h2, h3⟩ := hrp.byte_at (cl_get (by omega : k < cs.length))
          obtain ⟨rd, j1, j2, j3⟩ := hrr.byte_at (cl_get (by omega : k < fB.length))
          exact ⟨pd, rd, (cl cs k).toNat, h1, j1, fun h9 => ⟨h3, by rw [← HUP.out k h9]; exact j3, by have := (cl cs k).toNat_lt; omega⟩⟩
        have hpn3 : p.n = 3 * bits := by omega
        have hrn3 : r.n = 3 * bits := by omega
        obtain ⟨pA, pn, pc, pl⟩ := p
        obtain ⟨rA, rn, rc, rl⟩ := r
        simp only at *
        subst hpn3 hrn3
        clear hrp hrr hpl hrl hpn hrn hp0 hr0 hpcap hrcap
        have crb0 := rb_9.cell (j := 0) rfl
        have crb1 := rb_9.cell (j := 1) rfl
        have crb2 := rb_9.cell (j := 2) rfl
        have crb3 := rb_9.cell (j := 3) rfl
        have crb4 := rb_9.cell (j := 4) rfl
        have cfa := vfa_9.cell (j := 0) rfl
        have cse0 := se_9.cell (j := 0) rfl
        have cse1 := se_9.cell (j := 1) rfl
        have cse2 := se_9.cell (j := 2) rfl
        have hq := HQ.out
        by_cases hut : u < tg
        · have hm9 : max u tg = tg := by omega
          rw [hm9] at HCC
          clear hm9
          go_wp2_with fail
          go_loopg [10] (3 * bits) (fun gh s10 wr => ∃ i q : Nat, Hid (3 * bits ≤ i + gh) ∧ i ≤ 1000 ∧ Hid (3 * tg ≤ i) ∧ s10 = .int .i64 (i : Int) ∧ wr = w9.drewN q)
          case atStart => exact ⟨3 * tg, 0, by show _ ≤ _; omega, by omega, Lib.hid (Nat.le_refl _), by go_num, rfl⟩
          case round =>
            obtain ⟨i, q, HI, hi, HM, rfl, rfl⟩ := hrel
            by_cases hli : i < 3 * bits
            · obtain ⟨pd, rd, v, rfl, rfl, hv⟩ := HCC i hli
              obtain ⟨hc1, hc2, hv255⟩ := hv (by have := HM.out; omega)
              clear HCC
              go_wp2_with fail
              go_quiet (fail)
              go_wp2_with fail
              go_roundg (gk - 1)
              case measure => have := HI.out; omega
              case rel => exact ⟨i + 1, q + nq, by have := HI.out; show _ ≤ _; omega, by omega, by have := HM.out; show _ ≤ _; omega, by go_num, by simp⟩
            · have q9 : decide ((i : Int) < 3 * (bits : Int)) = false := decide_eq_false (by omega)
              go_wp2_with fail
              go_ret
              exact ⟨rfl, below_drewN B9 q⟩
        · have hm9 : max u tg = u := by omega
          rw [hm9] at HCC
          clear hm9
          go_wp2_with fail
          go_loopg [10] (3 * bits) (fun gh s10 wr => ∃ i q : Nat, Hid (3 * bits ≤ i + gh) ∧ i ≤ 1000 ∧ Hid (3 * u ≤ i) ∧ s10 = .int .i64 (i : Int) ∧ wr = w9.drewN q)
          case atStart => exact ⟨3 * u, 0, by show _ ≤ _; omega, by omega, Lib.hid (Nat.le_refl _), by go_num, rfl⟩
          case round =>
            obtain ⟨i, q, HI, hi, HM, rfl, rfl⟩ := hrel
            by_cases hli : i < 3 * bits
            · obtain ⟨pd, rd, v, rfl, rfl, hv⟩ := HCC i hli
              obtain ⟨hc1, hc2, hv255⟩ := hv (by have := HM.out; omega)
              clear HCC
              go_wp2_with fail
              go_quiet (fail)
              go_wp2_with fail
              go_roundg (gk - 1)
              case measure => have := HI.out; omega
              case rel => exact ⟨i + 1, q + nq, by have := HI.out; show _ ≤ _; omega, by omega, by have := HM.out; show _ ≤ _; omega, by go_num, by simp⟩
            · have q9 : decide ((i : Int) < 3 * (bits : Int)) = false := decide_eq_false (by omega)
              go_wp2_with fail
              go_ret
              exact ⟨rfl, below_drewN B9 q⟩
  | false =>
    go_enter Try.func7, Try.ntmps7
    go_wp2_with ((with_reducible refine wpList_at ⟨some 3, _, _, _, _, _⟩ ?_); refine wpList_box_row rfl _ _ rfl ((⟨false, st, sA, sn, sc⟩ : Se).cs) rfl ?_; intro w1 se_1 s1 g1; have k1 : Below w.heap.size w w1 := grown_below g1 (Nat.le_refl _) (by simp); have B1 := hB0.trans (k1.mono hB0.size); have rd_1 := hr.on k1; have rf_1 := hfs.on k1; have cse0 := se_1.cell (j := 0) rfl; have cse1 := se_1.cell (j := 1) rfl; have cse2 := se_1.cell (j := 2) rfl)
    refine ((san11_any _)).mono ?_
    rintro e w2 ⟨rfl, h2⟩
    have B2 := B1.trans (h2.mono B1.size)
    have rd_2 := rd_1.on h2
    have rf_2 := rf_1.on h2
    have se_2 := se_1.on h2
    clear rd_1 rf_1 se_1
    have cse0 := se_2.cell (j := 0) rfl
    have cse1 := se_2.cell (j := 1) rfl
    have cse2 := se_2.cell (j := 2) rfl
    have sz2 := h2.size
    have cse0 := se_2.cell (j := 0) rfl
    have cse1 := se_2.cell (j := 1) rfl
    have cse2 := se_2.cell (j := 2) rfl
    by_cases hbig : 48 < n
    · have q : decide ((48 : Int) < (n : Int)) = true := decide_eq_true (by omega)
      go_wp2_with fail
      go_ret
      exact ⟨rfl, B2⟩
    · have q : decide ((48 : Int) < (n : Int)) = false := decide_eq_false (by omega)
      by_cases hbig2 : 200 < sn
      · have q2 : decide ((200 : Int) < (sn : Int)) = true := decide_eq_true (by omega)
        go_wp2_with fail
        go_ret
        exact ⟨rfl, B2⟩
      · have q2 : decide ((200 : Int) < (sn : Int)) = false := decide_eq_false (by omega)
        go_wp2_with fail
        obtain ⟨bits, hbits⟩ : ∃ bits, bits = rtBits l := ⟨_, rfl⟩
        have hb16 := rtBits_le l
        have HCE := cells11_any A n c l false _ rd_2 (by omega)
        obtain ⟨fB, nB, eB, dB, mB, hB, hlB, hup⟩ := upper_ses (Se.m (⟨false, st, sA, sn, sc⟩ : Se) fs) l
        have hcl := rtCells_len l false
        have hlu := lvl_le (z := true) hcl
        have hLU := fuLevel_lvl (rtCells l false) true
        rw [← hbits] at hb16 HCE hB hcl hlB hup hlu
        clear hbits
        generalize rtCells l false = cs at *
        obtain ⟨u, hu⟩ : ∃ u, u = lvl cs true := ⟨_, rfl⟩
        rw [← hu] at hup hlu hLU
        clear hu
        rw [show rtT (Se.m (⟨false, st, sA, sn, sc⟩ : Se) fs) bits = 0 from rfl, Nat.max_zero] at hup
        have HUP := Lib.hid hup
        have HLU := Lib.hid hLU
        clear hup hLU
        refine (HCE).mono ?_
        rintro e w3 ⟨A3, c3, p3, rfl, fa, hp3, hi3, h3⟩
        have B3 := B2.trans (h3.mono B2.size)
        have rf_3 := rf_2.on h3
        have se_3 := se_2.on h3
        clear rf_2 se_2
        have cse0 := se_3.cell (j := 0) rfl
        have cse1 := se_3.cell (j := 1) rfl
        have cse2 := se_3.cell (j := 2) rfl
        have sz3 := h3.size
        have hnfa := fa.in_
        go_wp2_with (first
          | (with_reducible refine wpList_alloc_row (o := ⟨some 6, _, _, _, _, _⟩) rfl _ rfl zeroF zero_fu ?_; intro w4 r4 s4 g4)
          | ((with_reducible refine wpList_at ⟨none, .store _ (.tmp 6) _, _, _, _, _⟩ ?_); refine wpList_store_all rfl _ _ _ rfl w3.heap.size rfl _ _ r4 [.slice A3 1 c3] rfl (slice_one _ _ _) rfl (by kernel_rfl) ?_; intro w5 vfa_5 g5; have k5 : Below w3.heap.size w3 w5 := below_kept (grown_below g4 (Nat.le_refl _) (by simp)) g5 (Nat.le_of_lt s4) (by rintro q hq; cases hq; exact Nat.le_refl _); have B5 := B3.trans (k5.mono B3.size); have rf_5 := rf_3.on k5; have se_5 := se_3.on k5; have fa_5 := fa.on k5; clear rf_3 se_3; have cse0 := se_5.cell (j := 0) rfl; have cse1 := se_5.cell (j := 1) rfl; have cse2 := se_5.cell (j := 2) rfl; clear r4 g4 g5; have s5 := vfa_5.lt)
          | ((with_reducible refine wpList_at ⟨some 27, _, _, _, _, _⟩ ?_); refine wpList_valueG rfl _ (by exact exec_loadF1 _ _ rfl (w3.heap.size) rfl A3 1 c3 vfa_5) ?_)
          | ((with_reducible refine wpList_at ⟨some 28, _, _, _, _, _⟩ ?_); refine wpList_valueG rfl _ (by exact exec_loadSe _ _ rfl (w.heap.size) rfl (⟨false, st, sA, sn, sc⟩ : Se) se_5) ?_))
        have hx6 := exec_any (fun _ => True) A3 c3 p3 cs bits hb16 hcl (⟨false, st, sA, sn, sc⟩ : Se) fs _ fa_5 hp3 (by exact ⟨fun _ _ _ => trivial, fun _ _ _ _ _ => trivial⟩) (hfs.on B5)
        rw [show rtExec (Se.m (⟨false, st, sA, sn, sc⟩ : Se) fs) bits cs = ⟨fB, nB, eB, dB, mB⟩ from hB] at hx6
        refine hx6.mono ?_
        rintro e w6 ⟨A6, n6, c6, p6, rfl, hk6, hb6, hi6, h6⟩
        have B6 := B5.trans (h6.mono B5.size)
        have rf_6 := rf_5.on h6
        have se_6 := se_5.on h6
        have fa_6 := fa_5.on h6
        have vfa_6 := vfa_5.on h6
        clear rf_5 se_5 fa_5 vfa_5
        have cse0 := se_6.cell (j := 0) rfl
        have cse1 := se_6.cell (j := 1) rfl
        have cse2 := se_6.cell (j := 2) rfl
        have sz6 := h6.size
        have hnfb := hk6.in_
        have hlfb : n6 = 1 := by have h1 := hk6.1.len; have h2 := bk_len p6; rw [hb6] at h2; simp at h2; omega
        subst hlfb
        go_wp2_with (first
          | (with_reducible refine wpList_alloc_row (o := ⟨some 8, _, _, _, _, _⟩) rfl _ rfl zeroRN zero_rn ?_; intro w7 r7 s7 g7)
          | ((with_reducible refine wpList_at ⟨none, .store _ (.tmp 8) _, _, _, _, _⟩ ?_); refine wpList_store_all rfl _ _ _ rfl w6.heap.size rfl _ _ r7 ((⟨A6, 1, c6, ⟨nB, eB⟩, dB, (mB : Int), false⟩ : Rn).cs) rfl ((⟨A6, 1, c6, ⟨nB, eB⟩, dB, (mB : Int), false⟩ : Rn).cs_one) rfl (by kernel_rfl) ?_; intro w8 rb_8 g8; have k8 : Below w6.heap.size w6 w8 := below_kept (grown_below g7 (Nat.le_refl _) (by simp)) g8 (Nat.le_of_lt s7) (by rintro q hq; cases hq; exact Nat.le_refl _); have B8 := B6.trans (k8.mono B6.size); have rf_8 := rf_6.on k8; have se_8 := se_6.on k8; have fa_8 := fa_6.on k8; have vfa_8 := vfa_6.on k8; have fb_8 := hk6.on k8; clear rf_6 se_6 fa_6 vfa_6; have cse0 := se_8.cell (j := 0) rfl; have cse1 := se_8.cell (j := 1) rfl; have cse2 := se_8.cell (j := 2) rfl; clear r7 g7 g8; have s8 := rb_8.lt; have crb0 := rb_8.cell (j := 0) rfl; have crb1 := rb_8.cell (j := 1) rfl; have crb2 := rb_8.cell (j := 2) rfl; have crb3 := rb_8.cell (j := 3) rfl; have crb4 := rb_8.cell (j := 4) rfl; have crb5 := rb_8.cell (j := 5) rfl)
          | ((with_reducible refine wpList_at ⟨some 31, _, _, _, _, _⟩ ?_); refine wpList_valueG rfl _ (by exact exec_loadF1 _ _ rfl (w3.heap.size) rfl A3 1 c3 vfa_8) ?_))
        have HLE := rmost_any A3 1 c3 p3 0 _ fa_8.1 fa_8.2.2
        rw [hp3, HLU.out] at HLE
        refine (HLE).mono ?_
        rintro e w9 ⟨rfl, h9⟩
        have B9 := B8.trans (h9.mono B8.size)
        have rf_9 := rf_8.on h9
        have se_9 := se_8.on h9
        have fa_9 := fa_8.on h9
        have vfa_9 := vfa_8.on h9
        have fb_9 := fb_8.on h9
        have rb_9 := rb_8.on h9
        clear rf_8 se_8 fa_8 vfa_8 fb_8 rb_8
        have cse0 := se_9.cell (j := 0) rfl
        have cse1 := se_9.cell (j := 1) rfl
        have cse2 := se_9.cell (j := 2) rfl
        have crb0 := rb_9.cell (j := 0) rfl
        have crb1 := rb_9.cell (j := 1) rfl
        have crb2 := rb_9.cell (j := 2) rfl
        have crb3 := rb_9.cell (j := 3) rfl
        have crb4 := rb_9.cell (j := 4) rfl
        have crb5 := rb_9.cell (j := 5) rfl
        have sz9 := h9.size
        obtain ⟨ad, p, rfl, hlta, hp0, hcp, hrp, hpcap⟩ := fa_9.1.at_ (show 0 < 1 by decide)
        have hpl : p.l = cs := by have h1 := bk_get hp0; rw [hp3] at h1; simpa using h1.symm
        rw [hpl] at hrp
        have hpn : cs.length = p.n := hrp.bytes_len
        obtain ⟨ae, r, rfl, hlte, hr0, hcr, hrr, hrcap⟩ := fb_9.1.at_ (show 0 < 1 by decide)
        have hrl : r.l = fB := by have h1 := bk_get hr0; rw [hb6] at h1; simpa using h1.symm
        rw [hrl] at hrr
        have hrn : fB.length = r.n := hrr.bytes_len
        have hcp' : w9.cell? ad = some (.slice p.A p.n p.c) := hcp
        have hcr' : w9.cell? ae = some (.slice r.A r.n r.c) := hcr
        have HCC : ∀ k, k < 3 * bits → ∃ pd rd v, p.A = some pd ∧ r.A = some rd ∧ (3 * u ≤ k → w9.cell? (pd.add k) = some (.int .u8 (v : Int)) ∧ w9.cell? (rd.add k) = some (.int .u8 (v : Int)) ∧ v ≤ 255) := fun k hk => by
          obtain ⟨pd, h1, h2, h3⟩ := hrp.byte_at (cl_get (by omega : k < cs.length))
          obtain ⟨rd, j1, j2, j3⟩ := hrr.byte_at (cl_get (by omega : k < fB.length))
          exact ⟨pd, rd, (cl cs k).toNat, h1, j1, fun h9 => ⟨h3, by rw [← HUP.out k h9]; exact j3, by have := (cl cs k).toNat_lt; omega⟩⟩
        have hpn3 : p.n = 3 * bits := by omega
        have hrn3 : r.n = 3 * bits := by omega
        obtain ⟨pA, pn, pc, pl⟩ := p
        obtain ⟨rA, rn, rc, rl⟩ := r
        simp only at *
        subst hpn3 hrn3
        clear hrp hrr hpl hrl hpn hrn hp0 hr0 hpcap hrcap
        have crb0 := rb_9.cell (j := 0) rfl
        have crb1 := rb_9.cell (j := 1) rfl
        have crb2 := rb_9.cell (j := 2) rfl
        have crb3 := rb_9.cell (j := 3) rfl
        have crb4 := rb_9.cell (j := 4) rfl
        have cfa := vfa_9.cell (j := 0) rfl
        have cse0 := se_9.cell (j := 0) rfl
        have cse1 := se_9.cell (j := 1) rfl
        have cse2 := se_9.cell (j := 2) rfl
        go_wp2_with fail
        go_loopg [10] (3 * bits) (fun gh s10 wr => ∃ i q : Nat, Hid (3 * bits ≤ i + gh) ∧ i ≤ 1000 ∧ Hid (3 * u ≤ i) ∧ s10 = .int .i64 (i : Int) ∧ wr = w9.drewN q)
        case atStart => exact ⟨3 * u, 0, by show _ ≤ _; omega, by omega, Lib.hid (Nat.le_refl _), by go_num, rfl⟩
        case round =>
          obtain ⟨i, q, HI, hi, HM, rfl, rfl⟩ := hrel
          by_cases hli : i < 3 * bits
          · obtain ⟨pd, rd, v, rfl, rfl, hv⟩ := HCC i hli
            obtain ⟨hc1, hc2, hv255⟩ := hv (by have := HM.out; omega)
            clear HCC
            go_wp2_with fail
            go_quiet (fail)
            go_wp2_with fail
            go_roundg (gk - 1)
            case measure => have := HI.out; omega
            case rel => exact ⟨i + 1, q + nq, by have := HI.out; show _ ≤ _; omega, by omega, by have := HM.out; show _ ≤ _; omega, by go_num, by simp⟩
          · have q9 : decide ((i : Int) < 3 * (bits : Int)) = false := decide_eq_false (by omega)
            go_wp2_with fail
            go_ret
            exact ⟨rfl, below_drewN B9 q⟩
end Go.Proofs.Ytfcbcclcmgheeaa
