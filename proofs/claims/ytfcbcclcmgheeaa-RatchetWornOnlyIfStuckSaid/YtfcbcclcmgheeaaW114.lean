/-
  RatchetWornOnlyIfStuck: a walk. No condition.
-/
import Derived.Test.YtfcbcclcmgheeaaW116
import Derived.Deep.LoopGhost
set_option linter.unusedSimpArgs false
set_option linter.unusedVariables false
namespace Go.Proofs.Ytfcbcclcmgheeaa
open Go.RowKit

def stkS (cs : List UInt8) (b : Nat) : Nat → Nat
  | 0 => 0
  | i + 1 => stkS cs b i + (if (cl cs (3 * b + i)).toNat = 3 then 1 else 0)
theorem eq3 (s : UInt8) : (s = 3) ↔ (s.toNat = 3) := ⟨fun h => by rw [h]; rfl, fun h => UInt8.toNat.inj h⟩
theorem stkS_3 (cs : List UInt8) (b : Nat) : stkS cs b 3 = stkB cs b := by
  unfold stkB
  simp only [eq3]
  simp [stkS]
theorem stkS_le (cs : List UInt8) (b : Nat) : ∀ i, stkS cs b i ≤ i
  | 0 => Nat.le_refl _
  | i + 1 => by have := stkS_le cs b i; rw [stkS]; split <;> omega
set_option maxRecDepth 100000 in
set_option maxHeartbeats 4000000 in
theorem w114_any (A : Option Addr) (n c : Nat) (l : List UInt8) (tb : UInt8) (w : World) (hr : Reads w w.heap.size 1 A n (bvs l)) (hn : n ≤ 9223372036854775807) :
    Calls Try.prog 6 #[.slice A n c, .int .u8 (tb.toNat : Int)] w (GivesX (.bool true) w) := by
  have hB0 : Below w.heap.size w w := Below.refl _ _
  go_enter Try.func6, Try.ntmps6
  go_wp2_with fail
  refine ((san11_any _)).mono ?_
  rintro e w1 ⟨rfl, h1⟩
  have B1 := hB0.trans (h1.mono hB0.size)
  have rd_1 := hr.on h1
  have sz1 := h1.size
  by_cases hbig : 48 < n
  · have q : decide ((48 : Int) < (n : Int)) = true := decide_eq_true (by omega)
    go_wp2_with fail
    go_ret
    exact ⟨rfl, B1⟩
  · have q : decide ((48 : Int) < (n : Int)) = false := decide_eq_false (by omega)
    go_wp2_with fail
    obtain ⟨bits, hbits⟩ : ∃ bits, bits = rtBits l := ⟨_, rfl⟩
    have hb16 := rtBits_le l
    have HCE := cells11_any A n c l false _ rd_1 (by omega)
    obtain ⟨fB, nB, eB, mB, hB, _, hB2⟩ := quiet_raise l false tb
    have hcl := rtCells_len l false
    have hlv := lvl_le (z := false) hcl
    rw [← hbits] at hb16 HCE hB hB2 hcl hlv
    clear hbits
    generalize rtCells l false = cs at *
    obtain ⟨v, hv⟩ : ∃ v, v = lvl cs false := ⟨_, rfl⟩
    rw [← hv] at hB2 hlv
    clear hv
    obtain ⟨tg, htg⟩ : ∃ tg, tg = tb.toNat % (bits + 1) := ⟨_, rfl⟩
    rw [← htg] at hB2
    have hq : (tb.toNat : Int) % ((bits : Int) + 1) = (tg : Int) := by rw [htg, Int.natCast_emod]; rfl
    have ht255 : tb.toNat ≤ 255 := by have := tb.toNat_lt; omega
    have HQ := Lib.hid hq
    clear hq htg
    rcases hB2 with ⟨rfl, pb, rfl, hpb, hstk⟩ | ⟨rfl, rfl, hmm⟩
    · have HSK := Lib.hid hstk
      have hpc : 3 * pb + 3 ≤ cs.length := by omega
      clear hstk
      refine (HCE).mono ?_
      rintro e w2 ⟨A2, c2, p2, rfl, fa, hp2, hi2, h2⟩
      have B2 := B1.trans (h2.mono B1.size)
      have sz2 := h2.size
      have hnfa := fa.in_
      go_wp2_with (first
        | (with_reducible refine wpList_alloc_row (o := ⟨some 6, _, _, _, _, _⟩) rfl _ rfl zeroF zero_fu ?_; intro w3 r3 s3 g3)
        | ((with_reducible refine wpList_at ⟨none, .store _ (.tmp 6) _, _, _, _, _⟩ ?_); refine wpList_store_all rfl _ _ _ rfl w2.heap.size rfl _ _ r3 [.slice A2 1 c2] rfl (slice_one _ _ _) rfl (by kernel_rfl) ?_; intro w4 vfa_4 g4; have k4 : Below w2.heap.size w2 w4 := below_kept (grown_below g3 (Nat.le_refl _) (by simp)) g4 (Nat.le_of_lt s3) (by rintro q hq; cases hq; exact Nat.le_refl _); have B4 := B2.trans (k4.mono B2.size); have fa_4 := fa.on k4; clear r3 g3 g4; have s4 := vfa_4.lt)
        | ((with_reducible refine wpList_at ⟨some 21, _, _, _, _, _⟩ ?_); refine wpList_valueG rfl _ (by exact exec_loadF1 _ _ rfl (w2.heap.size) rfl A2 1 c2 vfa_4) ?_))
      have hx5 := exec_any (fun _ => True) A2 c2 p2 cs bits hb16 hcl (⟨true, tb, none, 0, 0⟩ : Se) [] _ fa_4 hp2 (by exact ⟨fun _ _ _ => trivial, fun _ _ _ _ _ => trivial⟩) Reads.nil_
      rw [show rtExec (Se.m (⟨true, tb, none, 0, 0⟩ : Se) []) bits cs = ⟨fB, (pb : Int), 12, true, mB⟩ from hB] at hx5
      refine hx5.mono ?_
      rintro e w5 ⟨A5, n5, c5, p5, rfl, hk5, hb5, hi5, h5⟩
      have B5 := B4.trans (h5.mono B4.size)
      have fa_5 := fa_4.on h5
      have vfa_5 := vfa_4.on h5
      clear fa_4 vfa_4
      have sz5 := h5.size
      go_wp2_with (first
        | (with_reducible refine wpList_alloc_row (o := ⟨some 8, _, _, _, _, _⟩) rfl _ rfl zeroRN zero_rn ?_; intro w6 r6 s6 g6)
        | ((with_reducible refine wpList_at ⟨none, .store _ (.tmp 8) _, _, _, _, _⟩ ?_); refine wpList_store_all rfl _ _ _ rfl w5.heap.size rfl _ _ r6 ((⟨A5, n5, c5, ⟨(pb : Int), 12⟩, true, (mB : Int), false⟩ : Rn).cs) rfl ((⟨A5, n5, c5, ⟨(pb : Int), 12⟩, true, (mB : Int), false⟩ : Rn).cs_one) rfl (by kernel_rfl) ?_; intro w7 rb_7 g7; have k7 : Below w5.heap.size w5 w7 := below_kept (grown_below g6 (Nat.le_refl _) (by simp)) g7 (Nat.le_of_lt s6) (by rintro q hq; cases hq; exact Nat.le_refl _); have B7 := B5.trans (k7.mono B5.size); have fa_7 := fa_5.on k7; have vfa_7 := vfa_5.on k7; clear fa_5 vfa_5; clear r6 g6 g7; have s7 := rb_7.lt; have crb0 := rb_7.cell (j := 0) rfl; have crb1 := rb_7.cell (j := 1) rfl; have crb2 := rb_7.cell (j := 2) rfl; have crb3 := rb_7.cell (j := 3) rfl; have crb4 := rb_7.cell (j := 4) rfl; have crb5 := rb_7.cell (j := 5) rfl))
      obtain ⟨ad, p, rfl, hlta, hp0, hcp, hrp, hpcap⟩ := fa_7.1.at_ (show 0 < 1 by decide)
      have hpl : p.l = cs := by have h1 := bk_get hp0; rw [hp2] at h1; simpa using h1.symm
      rw [hpl] at hrp
      have hpn : cs.length = p.n := hrp.bytes_len
      have HCC : ∀ k, k < p.n → ∃ pd, p.A = some pd ∧ ∀ W : World, Below w7.heap.size w7 W → W.cell? (pd.add k) = some (.int .u8 ((cl cs k).toNat : Int)) := fun k hk => by
        obtain ⟨pd, h1, h2, h3⟩ := hrp.byte_at (cl_get (by omega : k < cs.length))
        exact ⟨pd, h1, fun W hW => (hW.cell (by rw [block_of_add]; exact h2)).trans h3⟩
      obtain ⟨pd, hpA, _⟩ := hrp.2 (by omega)
      obtain ⟨pA, pn, pc, pl⟩ := p
      simp only at *
      subst hpA hpl
      have HS := fun i v h => Lib.hid (show stkS pl pb (i + 1) = stkS pl pb i + (if v = 3 then 1 else 0) from by rw [stkS, show (cl pl (3 * pb + i)).toNat = v from h])
      have HSL := fun i => Lib.hid (stkS_le pl pb i)
      have HS3 := Lib.hid (stkS_3 pl pb)
      have HVL : ∀ k, (cl pl k).toNat ≤ 255 := fun k => by have := (cl pl k).toNat_lt; omega
      have crb1 := rb_7.cell (j := 1) rfl
      have crb2 := rb_7.cell (j := 2) rfl
      have crb3 := rb_7.cell (j := 3) rfl
      have crb4 := rb_7.cell (j := 4) rfl
      have cfa := vfa_7.cell (j := 0) rfl
      go_loopg [9, 10] 3 (fun gh s9 s10 wr => ∃ i q : Nat, Hid (i + gh = 3) ∧ i ≤ 3 ∧ s10 = .int .i64 (i : Int) ∧ s9 = .int .i64 (stkS pl pb i : Int) ∧ wr = w7.drewN q)
      case atStart => exact ⟨0, 0, by show _ = _; omega, by omega, rfl, rfl, rfl⟩
      case round =>
        obtain ⟨i, q, HI, hi, rfl, rfl, rfl⟩ := hrel
        by_cases hli : i < 3
        · obtain ⟨pd', hpd, hcl3⟩ := HCC (3 * pb + i) (by omega)
          cases hpd
          have hc1 := hcl3 w7 (Below.refl _ _)
          have hc0 : w7.cell? (ad.add 0) = some (.slice (some pd) pn pc) := hcp
          have hc0' : w7.cell? ad = some (.slice (some pd) pn pc) := hcp
          obtain ⟨v, hv⟩ : ∃ v, v = (cl pl (3 * pb + i)).toNat := ⟨_, rfl⟩
          have HSI := HS i v hv.symm
          have hv255 := HVL (3 * pb + i)
          rw [← hv] at hc1 hv255
          have hx : 3 * pb + i < pn := by omega
          have hsl := (HSL i).out
          obtain ⟨Z, hZ⟩ : ∃ Z, Z = stkS pl pb i := ⟨_, rfl⟩
          rw [← hZ] at HSI hsl ⊢
          clear hcl3 HCC HS HSL HVL hZ hv HS3 HSK
          by_cases h3 : v = 3
          · have HT : Hid (Z + (if v = 3 then 1 else 0) = Z + 1) := Lib.hid (by rw [if_pos h3])
            have q3 : ((v : Int) == 3) = true := by simp; omega
            clear h3
            go_wp2_with fail
            go_quiet (fail)
            go_wp2_with fail
            go_roundg (gk - 1)
            case measure => have := HI.out; omega
            case rel => exact ⟨i + 1, q + nq, by have := HI.out; show _ = _; omega, by omega, by go_num, by rw [HSI.out, HT.out]; go_num, by simp⟩
          · have HT : Hid (Z + (if v = 3 then 1 else 0) = Z) := Lib.hid (by rw [if_neg h3]; rfl)
            have q3 : ((v : Int) == 3) = false := by simp; omega
            clear h3
            go_wp2_with fail
            go_quiet (fail)
            go_wp2_with fail
            go_roundg (gk - 1)
            case measure => have := HI.out; omega
            case rel => exact ⟨i + 1, q + nq, by have := HI.out; show _ = _; omega, by omega, by go_num, by rw [HSI.out, HT.out], by simp⟩
        · obtain rfl : i = 3 := by omega
          have h2 : 2 ≤ stkS pl pb 3 := by rw [HS3.out]; exact HSK.out
          generalize stkS pl pb 3 = Z at *
          have hz2 : decide ((2 : Int) ≤ (Z : Int)) = true := decide_eq_true (by omega)
          go_wp2_with fail
          go_ret
          exact ⟨rfl, below_drewN B7 q⟩
    · obtain ⟨M, hM⟩ : ∃ M, M = max v tg := ⟨_, rfl⟩
      rw [← hM] at hB
      have htM : tg ≤ M := by omega
      clear hM hmm
      refine (HCE).mono ?_
      rintro e w8 ⟨A8, c8, p8, rfl, fa, hp8, hi8, h8⟩
      have B8 := B1.trans (h8.mono B1.size)
      have sz8 := h8.size
      have hnfa := fa.in_
      go_wp2_with (first
        | (with_reducible refine wpList_alloc_row (o := ⟨some 6, _, _, _, _, _⟩) rfl _ rfl zeroF zero_fu ?_; intro w9 r9 s9 g9)
        | ((with_reducible refine wpList_at ⟨none, .store _ (.tmp 6) _, _, _, _, _⟩ ?_); refine wpList_store_all rfl _ _ _ rfl w8.heap.size rfl _ _ r9 [.slice A8 1 c8] rfl (slice_one _ _ _) rfl (by kernel_rfl) ?_; intro w10 vfa_10 g10; have k10 : Below w8.heap.size w8 w10 := below_kept (grown_below g9 (Nat.le_refl _) (by simp)) g10 (Nat.le_of_lt s9) (by rintro q hq; cases hq; exact Nat.le_refl _); have B10 := B8.trans (k10.mono B8.size); have fa_10 := fa.on k10; clear r9 g9 g10; have s10 := vfa_10.lt)
        | ((with_reducible refine wpList_at ⟨some 21, _, _, _, _, _⟩ ?_); refine wpList_valueG rfl _ (by exact exec_loadF1 _ _ rfl (w8.heap.size) rfl A8 1 c8 vfa_10) ?_))
      have hx11 := exec_any (fun _ => True) A8 c8 p8 cs bits hb16 hcl (⟨true, tb, none, 0, 0⟩ : Se) [] _ fa_10 hp8 (by exact ⟨fun _ _ _ => trivial, fun _ _ _ _ _ => trivial⟩) Reads.nil_
      rw [show rtExec (Se.m (⟨true, tb, none, 0, 0⟩ : Se) []) bits cs = ⟨fB, (M : Int), 0, true, mB⟩ from hB] at hx11
      refine hx11.mono ?_
      rintro e w11 ⟨A11, n11, c11, p11, rfl, hk11, hb11, hi11, h11⟩
      have B11 := B10.trans (h11.mono B10.size)
      have fa_11 := fa_10.on h11
      have vfa_11 := vfa_10.on h11
      clear fa_10 vfa_10
      have sz11 := h11.size
      go_wp2_with (first
        | (with_reducible refine wpList_alloc_row (o := ⟨some 8, _, _, _, _, _⟩) rfl _ rfl zeroRN zero_rn ?_; intro w12 r12 s12 g12)
        | ((with_reducible refine wpList_at ⟨none, .store _ (.tmp 8) _, _, _, _, _⟩ ?_); refine wpList_store_all rfl _ _ _ rfl w11.heap.size rfl _ _ r12 ((⟨A11, n11, c11, ⟨(M : Int), 0⟩, true, (mB : Int), false⟩ : Rn).cs) rfl ((⟨A11, n11, c11, ⟨(M : Int), 0⟩, true, (mB : Int), false⟩ : Rn).cs_one) rfl (by kernel_rfl) ?_; intro w13 rb_13 g13; have k13 : Below w11.heap.size w11 w13 := below_kept (grown_below g12 (Nat.le_refl _) (by simp)) g13 (Nat.le_of_lt s12) (by rintro q hq; cases hq; exact Nat.le_refl _); have B13 := B11.trans (k13.mono B11.size); have fa_13 := fa_11.on k13; have vfa_13 := vfa_11.on k13; clear fa_11 vfa_11; clear r12 g12 g13; have s13 := rb_13.lt; have crb0 := rb_13.cell (j := 0) rfl; have crb1 := rb_13.cell (j := 1) rfl; have crb2 := rb_13.cell (j := 2) rfl; have crb3 := rb_13.cell (j := 3) rfl; have crb4 := rb_13.cell (j := 4) rfl; have crb5 := rb_13.cell (j := 5) rfl))
      have crb1 := rb_13.cell (j := 1) rfl
      have crb2 := rb_13.cell (j := 2) rfl
      have crb3 := rb_13.cell (j := 3) rfl
      have crb4 := rb_13.cell (j := 4) rfl
      have hq := HQ.out
      go_quiet (fail)
      go_wp2_with fail
      go_ret
      exact ⟨rfl, below_drewN B13 nq⟩
end Go.Proofs.Ytfcbcclcmgheeaa
