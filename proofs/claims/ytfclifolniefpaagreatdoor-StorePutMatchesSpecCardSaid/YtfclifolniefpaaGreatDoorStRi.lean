/-
  What the reference's Save returns: the case where it writes: a contract by a walk. Condition: bounded lengths.
-/
import Derived.Test.YtfclifolniefpaaGreatDoorStRgh
import Derived.Test.YtfclifolniefpaaGreatDoorStL
set_option linter.unusedSimpArgs false
set_option linter.unusedVariables false
namespace Go.Proofs.YtfclifolniefpaaGreatDoor
open Go.RowKit

theorem stSec_nil : stSec [] = ⟨(List.replicate 256 (0 : UInt8)).toArray⟩ := by
  unfold stSec stPad
  rw [List.nil_append, List.take_replicate]
  rfl
theorem stWrt_mid {fi : Int} {b : List UInt8} {j : Nat} (h : 1 ≤ j) (h2 : 256 * j < b.length) : stWrt fi b j = ⟨4, 0, fi + j, stSec (b.drop (256 * j))⟩ := by unfold stWrt; rw [if_neg (by omega), if_pos h2]
theorem stWrt_last {fi : Int} {b : List UInt8} {j : Nat} (h : 1 ≤ j) (h2 : ¬ 256 * j < b.length) : stWrt fi b j = ⟨4, 0, fi, stSec b⟩ := by unfold stWrt; rw [if_neg (by omega), if_neg h2]
set_option maxRecDepth 100000 in
set_option maxHeartbeats 4000000 in
theorem rsave_go (g : Nat) (A : Option Addr) (n d : Nat) (acc : Nat → StA) (rec : Int) (x : ByteArray) (l : List StR) (hin : stIn rec = true) (hx : x.size ≤ 2000) (hacc : ∀ j, j < 16 → acc j = stRead rec j) (w : World) (hrow : Row w g 68 (cuS A n d acc 0).cs) (hr : Reads w w.heap.size 2 A n (rcs l)) (hA : 0 < n → ∀ ad, A = some ad → ad.block ≠ g) (hn : n ≤ 1000) (hs : ∀ r ∈ l, r.s.size ≤ 400) (h16 : ¬ n < 16) (hm : (stCur rec (l.map StR.s)).1 < 1099511627776) (hacw : ∀ j, j ≤ stCnt (stBytes rec x (l.map StR.s)) → acc (16 + j) = stWrt (16 * rec + 8 * stTgt rec (l.map StR.s)) (stBytes rec x (l.map StR.s)) j) :
    Calls Tryz.prog 26 #[.pointer (some ⟨g, 0, none⟩), .int .i64 rec, .string x] w (GivesC g (cuS A n d acc (16 + stCnt (stBytes rec x (l.map StR.s)) + 1)) (⟨x, (stCur rec (l.map StR.s)).1 + 1, 0⟩ : StO).v w) := by
  have HF := fun W => Lib.hid (rfirst_any rec 0 W)
  rw [stFirst_ok hin (by omega) (by omega)] at HF
  have hrb := stIn_iff.1 hin
  obtain ⟨hr0, hr3⟩ := hrb
  have hgl := hrow.lt
  have HCU : ∀ W : World, Row W g 68 (cuS A n d acc 0).cs → Below w.heap.size w W → Hid (Calls Tryz.prog 35 #[.pointer (some ⟨g, 0, none⟩), .int .i64 rec] W (GivesC g (cuS A n d acc 16) (.tuple #[.int .i64 (cuCur rec n (l.map StR.s)).1, .int .i64 (cuCur rec n (l.map StR.s)).2.1, .string (cuCur rec n (l.map StR.s)).2.2]) W)) := fun W hR hB =>
    Lib.hid (ccur_any g A n d acc rec l hin hacc W hR (hr.on hB) hA hn hs)
  rw [cuS_16 h16] at HCU
  have HCC : cuCur rec n (l.map StR.s) = (1 - stTgt rec (l.map StR.s), (stCur rec (l.map StR.s)).1, mk (stCur rec (l.map StR.s)).2) := if_neg h16
  rw [HCC] at HCU
  clear HCC
  obtain ⟨ht0, ht1⟩ := stTgt_01 rec (l.map StR.s)
  obtain ⟨hm0, _, _⟩ := stCur_nn rec (l.map StR.s)
  have HFA := fun W => Lib.hid (rfirst_any rec (1 - (1 - stTgt rec (l.map StR.s))) W)
  rw [stFirst_ok hin (by omega) (by omega), show (1 : Int) - (1 - stTgt rec (l.map StR.s)) = stTgt rec (l.map StR.s) by omega] at HFA
  have HFB := fun W => Lib.hid (rfirst_any rec (1 - (1 - stTgt rec (l.map StR.s))) W)
  rw [show stFirst rec (1 - (1 - stTgt rec (l.map StR.s))) = 16 * rec + 8 * stTgt rec (l.map StR.s) by rw [show (1 : Int) - (1 - stTgt rec (l.map StR.s)) = stTgt rec (l.map StR.s) by omega]; exact stFirst_ok hin (by omega) (by omega)] at HFB
  clear HFA
  have HEN := fun W => Lib.hid (rencode_any rec ((stCur rec (l.map StR.s)).1 + 1) x W (by omega) (by omega) (by omega) (by omega) hx)
  have HBL : Hid ((stBytes rec x (l.map StR.s)).length ≤ 2024 ∧ 16 ≤ (stBytes rec x (l.map StR.s)).length) := Lib.hid ⟨stEnc_le (by omega) (by omega) (by rw [tl_len]; exact hx), stEnc_pos _ _ _⟩
  change ∀ W, Hid (Calls _ _ _ W (Gives (stBytes rec x (l.map StR.s)) W)) at HEN
  have hfi0 : 0 ≤ 16 * rec + 8 * stTgt rec (l.map StR.s) := by omega
  have hfi1 : 16 * rec + 8 * stTgt rec (l.map StR.s) ≤ 56 := by omega
  obtain ⟨X, hX⟩ : ∃ X, X = 1 - stTgt rec (l.map StR.s) := ⟨_, rfl⟩
  have hX0 : 0 ≤ X := by omega
  have hX1 : X ≤ 1 := by omega
  rw [← hX] at HCU HFB
  clear hX
  generalize 16 * rec + 8 * stTgt rec (l.map StR.s) = fi at *
  generalize stBytes rec x (l.map StR.s) = b at *
  generalize mk (stCur rec (l.map StR.s)).2 = Y at *
  generalize (stCur rec (l.map StR.s)).1 = m at *
  obtain ⟨K, hK⟩ : ∃ K, K = stCnt b := ⟨_, rfl⟩
  rw [← hK] at hacw ⊢
  obtain ⟨L, hL⟩ : ∃ L, L = b.length := ⟨_, rfl⟩
  obtain ⟨hL0, hL1⟩ := HBL.out
  rw [← hL] at hL0 hL1
  have hKL : K = (L + 255) / 256 := by rw [hK, hL]; rfl
  have HKL : Hid (K ≤ 8 ∧ 1 ≤ K) := Lib.hid (by omega)
  have HKM : Hid (∀ i, 256 * i < L → i + 1 ≤ K) := Lib.hid (fun i h => by omega)
  have HKE : Hid (∀ i, i ≤ K → ¬ 256 * i < L → i = K) := Lib.hid (fun i h h2 => by omega)
  have HA0 : Hid (acc 16 = ⟨4, 0, fi, ⟨(List.replicate 256 (0 : UInt8)).toArray⟩⟩) := Lib.hid (by
    have e := hacw 0 (Nat.zero_le _)
    rw [Nat.add_zero] at e
    rw [e, ← stSec_nil]
    rfl)
  have HAM : Hid (∀ i, 1 ≤ i → 256 * i < L → acc (16 + i) = ⟨4, 0, fi + i, stSec (b.drop (256 * i))⟩) := Lib.hid (fun i h h2 => by
    have := HKM.out i h2
    rw [hacw i (by omega), stWrt_mid h (by rw [← hL]; exact h2)])
  have HAE : Hid (acc (16 + K) = ⟨4, 0, fi, stSec b⟩) := Lib.hid (by
    rw [hacw K (Nat.le_refl _), stWrt_last HKL.out.2 (by rw [← hL]; omega)])
  have HZU : Hid (List.replicate 256 (Value.int .u8 0) = bvs (List.replicate 256 0)) := Lib.hid (by unfold bvs; rw [List.map_replicate]; rfl)
  have HWR : ∀ (j : Nat) (sec : Int) (s : ByteArray) (W : World), acc j = ⟨4, 0, sec, s⟩ → Row W g 68 (cuS A n d acc j).cs → w.grownBy W (some g) → Hid (Calls Tryz.prog 43 #[.pointer (some ⟨g, 0, none⟩), .int .i64 sec, .string s] W (fun e w' => (∃ v, e = .returned v) ∧ Row w' g 68 (cuS A n d acc (j + 1)).cs ∧ W.grownBy w' (some g))) := fun j sec s W ha hR hG =>
    Lib.hid (cwrite_any g A n d acc j l sec s ha W hR (hr.keptG hG hA) hA (by omega))
  have hc16 : cuS A n d acc 16 = ⟨A, n, d, 16, noA, false⟩ := cuS_16 h16
  have HSE : ∀ (Ab : Option Addr) (cb i : Nat) (W : World), Reads W W.heap.size 1 Ab L (bvs b) → i ≤ 8 → Hid (Calls Tryz.prog 44 #[.slice Ab L cb, .int .i64 (i : Int)] W (TellsS (stSec (b.drop (256 * i))) W)) := fun Ab cb i W h hi => Lib.hid (rsector_any Ab L cb i b W h (by omega) (by omega))
  have HSL : ∀ (Ab : Option Addr) (cb : Nat) (W : World), Reads W W.heap.size 1 Ab L (bvs b) → Hid (Calls Tryz.prog 44 #[.slice Ab L cb, .int .i64 0] W (TellsS (stSec b) W)) := fun Ab cb W h => Lib.hid (by
    have e := rsector_any Ab L cb 0 b W h (by omega) (by omega)
    rw [Nat.mul_zero, List.drop_zero] at e
    exact e)
  have HEN' : ∀ W, Hid (Calls Tryz.prog 42 #[.int .i64 rec, .int .i64 (m + 1), .string x] W (fun e w' => ∃ v, e = .returned v ∧ w'.ownsRow W.heap.size 5 1 v L (bvs b) ∧ Below W.heap.size W w')) := fun W => by
    have e := HEN W
    unfold Gives at e
    rw [← hL] at e
    exact e
  clear hr hA hs hacc hacw hin hK hKL hL HEN HBL
  go_enter Tryz.func26, Tryz.ntmps26
  go_wp2_with (with_reducible refine wpList_alloc_row (o := ⟨some 6, _, _, _, _, _⟩) rfl _ rfl zeroO zero_so ?_; intro w1 z1 s1 g1; have b1 : Below w.heap.size w w1 := grown_below g1 (Nat.le_refl _) (by simp); have r1 := hrow.on b1)
  refine ((HF _).out).mono ?_
  rintro e _ ⟨rfl, rfl⟩
  go_wp2_with fail
  refine ((HCU w1 r1 b1).out).mono ?_
  rintro e w2 ⟨rfl, r2, g2⟩
  have z2 := z1.kept g2 (by simp; omega)
  have hs2 := g2.size
  have G2 := grown_trans (below_grownBy b1 (some g)) g2
  have c6 : w2.cell? ⟨g, 6, none⟩ = some (.bool false) := r2.cell (j := 6) rfl
  have q0 : (m == 1099511627776) = false := by
    have : m ≠ 1099511627776 := by omega
    simpa using this
  rw [← hc16] at r2
  go_wp2_with fail
  refine ((HEN' w2).out).mono ?_
  rintro e w3 ⟨v3, rfl, o3, b3⟩
  have r3 := r2.on b3
  have z3 := z2.on b3
  have G3 := grown_trans G2 (below_grownBy b3 (some g))
  have hs3 := b3.size
  obtain ⟨Ab, cb, rfl, hcb, _, _⟩ := own_form o3
  go_wp2_with fail
  refine ((HFB _).out).mono ?_
  rintro e _ ⟨rfl, rfl⟩
  go_wp2_with (first
    | (with_reducible refine wpList_make_row (o := ⟨some 47, _, _, _, _, _⟩) rfl _ _ _ rfl 5 Tryz.underlying76 (.int .u8 0) rfl 1 info_u8 .i64 .i64 256 256 rfl rfl (by omega) (by omega) (by omega) ?_; intro w5 y5 s5 g5; have b5 : Below w3.heap.size w3 w5 := grown_below g5 (Nat.le_refl _) (by simp); have r5 := r3.on b5; have z5 := z3.on b5; have o5 := own_below o3 b5; have G5 := grown_trans G3 (below_grownBy b5 (some g)); rw [HZU.out] at y5; have d5 := y5.reads (size := 1) (n := 256) (by rw [bvs_length, List.length_replicate]))
    | ((with_reducible refine wpList_at ⟨some 48, _, _, _, _, _⟩ ?_); refine wpList_valueG rfl _ (by exact exec_string_of _ _ _ _ _ rfl Tryz.underlying76 Tryz.underlying5 Tryz.underlying9 rfl d5) ?_))
  refine ((HWR 16 _ _ w5 HA0.out r5 G5).out).mono ?_
  rintro e w6 ⟨⟨v6, rfl⟩, r6, g6⟩
  have z6 := z5.kept g6 (by simp; omega)
  have o6 := o5.kept g6 (.inr (r5.not_row7 (by decide) o5).symm)
  have G6 := grown_trans G5 g6
  have hs6 := g6.size
  go_wp2_with fail
  go_loopg [12] K (fun gh s12 wr => ∃ i : Nat, Hid (i + gh = K + 1) ∧ 1 ≤ i ∧ Hid (i ≤ K) ∧ s12 = .int .i64 (i : Int) ∧ wr.ownsRow w2.heap.size 5 1 (.slice Ab L cb) L (bvs b) ∧ Row wr g 68 (cuS A n d acc (16 + i)).cs ∧ Row wr w.heap.size 29 zeroO ∧ w.grownBy wr (some g))
  case atStart => exact ⟨1, by show _ = _; omega, by omega, HKL.out.2, rfl, o6, r6, z6, G6⟩
  case round =>
    obtain ⟨i, HI, hi, HIK, rfl, ow, rC, rZ, hG⟩ := hrel
    obtain ⟨_, _, e, hcb, _, dr⟩ := own_form ow
    cases e
    have hi8 : i ≤ 8 := by have := HIK.out; have := HKL.out; omega
    have hsz := hG.size
    by_cases hlt : 256 * i < L
    · have hIK := Lib.hid (HKM.out i hlt)
      have HAi := Lib.hid (HAM.out i hi hlt)
      have HSi := HSE Ab cb i wr dr hi8
      generalize stSec (b.drop (256 * i)) = S1 at *
      go_wp2_with fail
      refine (HSi.out).mono ?_
      rintro e w7 ⟨rfl, b7⟩
      have rC7 := rC.on b7
      have rZ7 := rZ.on b7
      have o7 := own_below ow b7
      have G7 := grown_trans hG (below_grownBy b7 (some g))
      have hs7 := b7.size
      go_wp2_with fail
      refine ((HWR (16 + i) _ _ w7 HAi.out rC7 G7).out).mono ?_
      rintro e w8 ⟨⟨v8, rfl⟩, r8, g8⟩
      have z8 := rZ7.kept g8 (by simp; omega)
      have o8 := o7.kept g8 (.inr (rC7.not_row7 (by decide) o7).symm)
      have G8 := grown_trans G7 g8
      go_wp2_with fail
      go_roundg (gk - 1)
      case measure => have := HI.out; have := HIK.out; omega
      case rel => exact ⟨i + 1, by have := HI.out; have := HIK.out; show _ = _; omega, by omega, hIK.out, by go_num, o8, r8, z8, G8⟩
    · have hIK := HKE.out i HIK.out hlt
      have rC' : Row wr g 68 (cuS A n d acc (16 + K)).cs := by rw [← hIK]; exact rC
      have HSi := HSL Ab cb wr dr
      clear hIK rC
      generalize stSec b = S1 at *
      go_wp2_with fail
      refine (HSi.out).mono ?_
      rintro e w7 ⟨rfl, b7⟩
      have rC7 := rC'.on b7
      have rZ7 := rZ.on b7
      have G7 := grown_trans hG (below_grownBy b7 (some g))
      have hs7 := b7.size
      go_wp2_with fail
      refine ((HWR (16 + K) _ _ w7 HAE.out rC7 G7).out).mono ?_
      rintro e w8 ⟨⟨v8, rfl⟩, r8, g8⟩
      have z8 := rZ7.kept g8 (by simp; omega)
      have G8 := grown_trans G7 g8
      have hs8 := g8.size
      go_wp2_with ((with_reducible refine wpList_at ⟨none, .store _ (.tmp 6) _, _, _, _, _⟩ ?_); refine wpList_store_all rfl _ _ _ rfl w.heap.size rfl _ _ z8 ((⟨x, m + 1, 0⟩ : StO).cs) rfl (StO.cs_one _) rfl (by kernel_rfl) ?_; intro wz zz gz; have rz := r8.kept gz (by simp; omega))
      exact bodyPost_ret (results_cell1 Tryz.results26 _ _ _ _ rfl (load_so (a := ⟨x, m + 1, 0⟩) zz)) rfl ⟨rfl, rz, grown_new (G8) gz (Nat.le_refl _)⟩
end Go.Proofs.YtfclifolniefpaaGreatDoor
