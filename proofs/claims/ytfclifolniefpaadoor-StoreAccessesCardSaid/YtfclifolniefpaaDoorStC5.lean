/-
  The check of StoreAccesses: a walk. Condition: the table of constants as laid.
-/
import Derived.Test.YtfclifolniefpaaDoorStZ
import Derived.Test.YtfclifolniefpaaDoorSan10
import Derived.Test.YtfclifolniefpaaDoorBxO
import Derived.Lib.SliceRun
set_option linter.unusedSimpArgs false
set_option linter.unusedVariables false
namespace Go.Proofs.YtfclifolniefpaaDoor
open Go.RowKit

def fV (f : Int) (k : Nat) : Int := if k ≤ 16 then -1 else f
def lV (f : Int) (b : List UInt8) (k : Nat) : Int := if k ≤ 16 then -1 else (stWrt f b (k - 17)).c
theorem fV_lo (f : Int) {k : Nat} (h : k ≤ 16) : fV f k = -1 := if_pos h
theorem fV_hi (f : Int) {k : Nat} (h : 16 < k) : fV f k = f := if_neg (by omega)
theorem lV_lo (f : Int) (b : List UInt8) {k : Nat} (h : k ≤ 16) : lV f b k = -1 := if_pos h
theorem lV_hi (f : Int) (b : List UInt8) {k : Nat} (h : 16 ≤ k) : lV f b (k + 1) = (stWrt f b (k - 16)).c := by
  unfold lV
  rw [if_neg (by omega), show k + 1 - 17 = k - 16 by omega]
theorem acc_at {fs : List ByteArray} {rec : Int} {c : ByteArray} {R : StRun} (h : RunOK fs rec c R) {k : Nat} {a : StA} (ha : R.l[k]? = some a) :
    (k < 16 ∧ a = stRead rec k) ∨ (16 ≤ k ∧ a = stWrt (stFst fs rec) (stB fs rec c) (k - 16) ∧ k - 16 ≤ stCnt (stB fs rec c)) := by
  obtain ⟨q, e, _⟩ := h.acc
  rw [e, List.getElem?_take] at ha
  split at ha
  · by_cases hk : k < 16
    · rw [stAs_read hk] at ha
      exact .inl ⟨hk, (Option.some.inj ha).symm⟩
    · obtain ⟨j, rfl⟩ : ∃ j, k = 16 + j := ⟨k - 16, by omega⟩
      rw [stAs_write] at ha
      obtain ⟨h1, _, h2⟩ := stWs_at ha
      rw [show 16 + j - 16 = j by omega]
      exact .inr ⟨by omega, h1, h2⟩
  · cases ha
theorem acc_cnt {fs : List ByteArray} {rec : Int} {c : ByteArray} {R : StRun} (h : RunOK fs rec c R) (hw : R.w = true) (hs : stSq fs rec < 1099511627776) : R.l.length = 16 + (stCnt (stB fs rec c) + 1) := by
  rw [(h.whole hw).2.2, stAs_len, stWs_len, if_pos hs]
set_option maxRecDepth 100000 in
set_option maxHeartbeats 4000000 in
theorem chk5 : Chk 14 := by
  intro fs u R A n c A' n' c' E m d W hM hin hsz hR hK fl fg re hmd hm
  have HLF := Lib.hid (fun h0 => fl_lt fl h0)
  have HLG := Lib.hid (fun h0 => fl_lt fg h0)
  have HM := Lib.hid hM
  have HR := Lib.hid hR
  have HIN := Lib.hid hin
  have HSZ := Lib.hid hsz
  have HG : ∀ (q : Int) (X : World), stIn q = true → Below W.heap.size W X → Hid (Calls Tryd.prog 11 #[flv A n c, .int .i64 q] X (fun e w' => e = .returned (.tuple #[(stSt fs q).v, .int .i64 16]) ∧ Below X.heap.size X w')) := fun q X h1 h2 => Lib.hid (lget_any A n c fs q X h1 (hK.on h2) (fl.on h2) hM.small)
  have HH : ∀ (q : Int) (X : World), stIn q = true → Below W.heap.size W X → Hid (Calls Tryd.prog 11 #[flv A' n' c', .int .i64 q] X (fun e w' => e = .returned (.tuple #[(stSt R.m q).v, .int .i64 16]) ∧ Below X.heap.size X w')) := fun q X h1 h2 => Lib.hid (lget_any A' n' c' R.m q X h1 (hK.on h2) (fg.on h2) (fun s hs => by have := hR.ok.2 s hs; omega))
  obtain ⟨hf, hf0, hf1⟩ := stFst_bd (fs := fs) hin
  have hr3 := stIn_iff.1 hin
  have hs0 := (stCur_nn u.r (stL fs u.r)).1
  have hs12 := hM.2 _ hin
  obtain ⟨hb8, hb0⟩ := stB_len (rec := u.r) (fs := fs) hsz (by omega)
  have HAT := fun k a (h : R.l[k]? = some a) => Lib.hid (acc_at hR h)
  have HWH := fun (h : R.w = true) => Lib.hid (acc_cnt hR h (by omega))
  have HCL : Hid (stSt (clr R.m (stFst fs u.r) 8) u.r = stSt fs u.r) := Lib.hid (by unfold stSt; rw [clr_cur hR.ok hin hR.off])
  have HLW : Hid (∀ k, k ≤ stCnt (stB fs u.r u.s) → stFst fs u.r ≤ (stWrt (stFst fs u.r) (stB fs u.r u.s) k).c ∧ (stWrt (stFst fs u.r) (stB fs u.r u.s) k).c < stFst fs u.r + 8 ∧ (stWrt (stFst fs u.r) (stB fs u.r u.s) k).k = 4 ∧ (stWrt (stFst fs u.r) (stB fs u.r u.s) k).s.size = 256) := Lib.hid (fun k hk => stWrt_cell hk hb8)
  have HLL : Hid ((stWrt (stFst fs u.r) (stB fs u.r u.s) (stCnt (stB fs u.r u.s))).c = stFst fs u.r) := Lib.hid (by rw [stWrt_last _ hb0])
  have HF := Lib.hid hf
  have HOK := Lib.hid hR.ok
  have HLEN := Lib.hid hm
  have HEL : ∀ k, k < m → ∃ a, (E.add (k * 4)).block < W.heap.size ∧ (∀ j v, a.cs[j]? = some v → W.cell? ((E.add (k * 4)).add j) = some v) ∧ Hid ((k < 16 ∧ a = stRead u.r k) ∨ (16 ≤ k ∧ a = stWrt (stFst fs u.r) (stB fs u.r u.s) (k - 16) ∧ k - 16 ≤ stCnt (stB fs u.r u.s))) := fun k hk => by
    obtain ⟨a, ha⟩ : ∃ a, R.l[k]? = some a := ⟨_, List.getElem?_eq_getElem (by omega)⟩
    obtain ⟨ad, e, hlta, hc⟩ := re.elem StA.cs_len ha hk
    obtain rfl : E = ad := Option.some.inj e
    exact ⟨a, by rw [block_of_add]; exact hlta, hc, Lib.hid (acc_at hR ha)⟩
  have HSM : ∀ s ∈ R.m, s.size ≤ 400 := fun s hs => by have := hR.ok.2 s hs; omega
  have HFG := Lib.hid fg
  generalize stFst fs u.r = fi at *
  generalize stB fs u.r u.s = b at *
  have hm40 : m ≤ 1000 := by
    rcases Nat.lt_or_ge m 1000 with h | h
    · omega
    · exfalso
      obtain ⟨a, _, _, h3⟩ := HEL 999 (by omega)
      rcases h3.out with h4 | h4
      · omega
      · omega
  clear hM hR hin hsz hm hmd re fl fg hf HAT
  unfold flv at *
  go_enter Tryd.func14, Tryd.ntmps14
  go_wp2_with (first
    | ((with_reducible refine wpList_at ⟨some 6, _, _, _, _, _⟩ ?_); refine wpList_box_row rfl _ _ rfl [.slice A n c] rfl ?_; intro w1 f6_1 s1 g1; have k1 : Below W.heap.size W w1 := grown_below g1 (Nat.le_refl _) (by simp); have B1 : Below W.heap.size W w1 := k1; have cf60 := f6_1.cell (j := 0) rfl)
    | ((with_reducible refine wpList_at ⟨some 7, _, _, _, _, _⟩ ?_); refine wpList_box_row rfl _ _ rfl (u.cs) rfl ?_; intro w2 u7_2 s2 g2; have k2 : Below w1.heap.size w1 w2 := grown_below g2 (Nat.le_refl _) (by simp); have B2 := B1.trans (k2.mono B1.size); have f6_2 := f6_1.on k2; clear f6_1; have cu70 := u7_2.cell (j := 0) rfl; have cu71 := u7_2.cell (j := 1) rfl; have cu72 := u7_2.cell (j := 2) rfl; have cu73 := u7_2.cell (j := 3) rfl)
    | ((with_reducible refine wpList_at ⟨some 8, _, _, _, _, _⟩ ?_); refine wpList_box_row rfl _ _ rfl [.slice A' n' c'] rfl ?_; intro w3 g8_3 s3 g3; have k3 : Below w2.heap.size w2 w3 := grown_below g3 (Nat.le_refl _) (by simp); have B3 := B2.trans (k3.mono B2.size); have f6_3 := f6_2.on k3; have u7_3 := u7_2.on k3; clear f6_2 u7_2; have cu70 := u7_3.cell (j := 0) rfl; have cu71 := u7_3.cell (j := 1) rfl; have cu72 := u7_3.cell (j := 2) rfl; have cu73 := u7_3.cell (j := 3) rfl; have cg80 := g8_3.cell (j := 0) rfl)
    | ((with_reducible refine wpList_at ⟨some 9, _, _, _, _, _⟩ ?_); refine wpList_box_row rfl _ _ rfl (R.o.cs) rfl ?_; intro w4 o9_4 s4 g4; have k4 : Below w3.heap.size w3 w4 := grown_below g4 (Nat.le_refl _) (by simp); have B4 := B3.trans (k4.mono B3.size); have f6_4 := f6_3.on k4; have u7_4 := u7_3.on k4; have g8_4 := g8_3.on k4; clear f6_3 u7_3 g8_3; have cu70 := u7_4.cell (j := 0) rfl; have cu71 := u7_4.cell (j := 1) rfl; have cu72 := u7_4.cell (j := 2) rfl; have cu73 := u7_4.cell (j := 3) rfl; have co90 := o9_4.cell (j := 0) rfl; have co91 := o9_4.cell (j := 1) rfl; have co92 := o9_4.cell (j := 2) rfl))
  go_loopg [13, 14, 27] m (fun g s13 s14 s27 wr => ∃ k : Nat, Hid (k + g = m) ∧ k ≤ m ∧ s27 = .int .i64 (k : Int) ∧ s13 = .int .i64 (fV fi k) ∧ s14 = .int .i64 (lV fi b k) ∧ Row wr (W.heap.size) 28 [.slice A n c] ∧ Row wr (w1.heap.size) 30 u.cs ∧ Row wr (w2.heap.size) 28 [.slice A' n' c'] ∧ Below W.heap.size W wr)
  case atStart => exact ⟨0, by show _ = _; omega, by omega, rfl, rfl, rfl, f6_4, u7_4, g8_4, B4⟩
  case round =>
    obtain ⟨k, HK, hk, rfl, rfl, rfl, f6, u7, g8, hB⟩ := hrel
    have lf6 := f6.lt
    have lu7 := u7.lt
    have lg8 := g8.lt
    have lB := hB.size
    by_cases hlt : k < m
    · obtain ⟨a, hlta, hc, HA⟩ := HEL k hlt
      have HCC := Lib.hid hc
      clear hc HEL HG HH
      by_cases hk16 : k < 16
      · have ha : a = stRead u.r k := by
          rcases HA.out with h | h
          · exact h.2
          · omega
        subst ha
        rw [fV_lo fi (by omega), lV_lo fi b (by omega)]
        unfold stRead at *
        clear HLW HLL HCL HWH HA
        go_wp2_with (first
          | ((with_reducible refine wpList_at ⟨some 31, _, _, _, _, _⟩ ?_); refine wpList_valueG rfl _ (by exact exec_load _ 40 _ rfl (E.add (k * 4)) rfl (⟨3, 0, 16 * u.r + (k : Int), em⟩ : StA).cs (fun j v hv => (hB.cell (by rw [block_of_add]; exact hlta)).trans (HCC.out j v hv)) _ Tryd.underlying40 rfl (by kernel_rfl)) ?_)
          | (with_reducible refine wpList_alloc_row (o := ⟨some 16, _, _, _, _, _⟩) rfl _ rfl zeroA zero_ac ?_; intro w21 a16_21 s21 g21; have k21 : Below wr.heap.size wr w21 := grown_below g21 (Nat.le_refl _) (by simp); have B21 := hB.trans (k21.mono hB.size); have f6_21 := f6.on k21; have u7_21 := u7.on k21; have g8_21 := g8.on k21; have cu70 := u7_21.cell (j := 0) rfl; have cu71 := u7_21.cell (j := 1) rfl; have cu72 := u7_21.cell (j := 2) rfl; have cu73 := u7_21.cell (j := 3) rfl)
          | ((with_reducible refine wpList_at ⟨none, .store _ (.tmp 16) _, _, _, _, _⟩ ?_); refine wpList_store_all rfl _ _ _ rfl (wr.heap.size) rfl _ _ a16_21 ((⟨3, 0, 16 * u.r + (k : Int), em⟩ : StA).cs) rfl ((⟨3, 0, 16 * u.r + (k : Int), em⟩ : StA).cs_one) rfl (by kernel_rfl) ?_; intro w22 a16_22 g22; have f6_22 := f6_21.kept g22 (by simp; omega); have u7_22 := u7_21.kept g22 (by simp; omega); have g8_22 := g8_21.kept g22 (by simp; omega); have B22 := below_kept B21 g22 B21.size (by rintro q hq; cases hq; omega); have sz22 := g22.size; clear f6_21 u7_21 g8_21; have cu70 := u7_22.cell (j := 0) rfl; have cu71 := u7_22.cell (j := 1) rfl; have cu72 := u7_22.cell (j := 2) rfl; have cu73 := u7_22.cell (j := 3) rfl; have ca160 := a16_22.cell (j := 0) rfl; have ca161 := a16_22.cell (j := 1) rfl; have ca162 := a16_22.cell (j := 2) rfl; have ca163 := a16_22.cell (j := 3) rfl))
        have f6q := f6_22.drew
        have u7q := u7_22.drew
        have g8q := g8_22.drew
        have a16q := a16_22.drew
        have bq0 := B22.drew
        refine wp_region_plan (fun w' => Row w' (wr.heap.size) 40 (⟨3, 0, 16 * u.r + (k : Int), em⟩ : StA).cs ∧ Row w' (w1.heap.size) 30 u.cs) (.take 0 <| .take 1 <| .take 2 <| .take 3 <| .take 4 <| .take 5 <| .take 6 <| .take 7 <| .take 8 <| .take 9 <| .take 11 <| .take 12 <| .one 10 <| .take 13 <| .take 14 <| .take 15 <| .done) (by kernel_rfl) (by kernel_rfl) (by kernel_rfl) (fun _ _ _ _ _ h => h) ⟨a16q, u7q⟩ ?_
        have hq : ((16 * u.r + (k : Int)) != wrap64 (stFirst u.r ((k : Int) / 8) + (k : Int) % 8)) = false := by
          rw [show stFirst u.r ((k : Int) / 8) = 16 * u.r + 8 * ((k : Int) / 8) from if_pos (by omega), show wrap64 (16 * u.r + 8 * ((k : Int) / 8) + (k : Int) % 8) = 16 * u.r + (k : Int) by unfold wrap64; omega]
          simp
        repeat (refine plan_take _ rfl ?_; (first | ((with_reducible refine wpQuiet_at ⟨some 35, _, _, _, _, _⟩ ?_); refine wpQuiet_valueG rfl _ (by intro _ hS; exact exec_load1 _ 3 _ rfl ⟨wr.heap.size, 0, none⟩ rfl _ (hS.1.cell (j := 0) rfl) _ Tryd.underlying3 rfl) (wpQuiet_nil ?_); simp only [Act.put, List.setIfInBounds_toArray, List.set_cons_zero, List.set_cons_succ]) | ((with_reducible refine wpQuiet_at ⟨some 39, _, _, _, _, _⟩ ?_); refine wpQuiet_valueG rfl _ (by intro _ hS; exact exec_load1 _ 3 _ rfl ⟨wr.heap.size, 2, none⟩ rfl _ (hS.1.cell (j := 2) rfl) _ Tryd.underlying3 rfl) (wpQuiet_nil ?_); simp only [Act.put, List.setIfInBounds_toArray, List.set_cons_zero, List.set_cons_succ]) | ((with_reducible refine wpQuiet_at ⟨some 41, _, _, _, _, _⟩ ?_); refine wpQuiet_valueG rfl _ (by intro _ hS; exact exec_load1 _ 3 _ rfl ⟨w1.heap.size, 0, none⟩ rfl _ (hS.2.cell (j := 0) rfl) _ Tryd.underlying3 rfl) (wpQuiet_nil ?_); simp only [Act.put, List.setIfInBounds_toArray, List.set_cons_zero, List.set_cons_succ]) | (go_big_quiet_step ((intros; rfl)); refine wpQuiet_nil ?_)))
        refine plan_one _ rfl fun K hK => ?_
        go_simp
        refine (sfirst_any _ _ _).mono ?_
        rintro e _ ⟨rfl, rfl⟩
        refine hK _ _ ⟨a16q, u7q⟩ ?_
        clear hK K
        repeat (refine plan_take _ rfl ?_; (first | ((with_reducible refine wpQuiet_at ⟨some 35, _, _, _, _, _⟩ ?_); refine wpQuiet_valueG rfl _ (by intro _ hS; exact exec_load1 _ 3 _ rfl ⟨wr.heap.size, 0, none⟩ rfl _ (hS.1.cell (j := 0) rfl) _ Tryd.underlying3 rfl) (wpQuiet_nil ?_); simp only [Act.put, List.setIfInBounds_toArray, List.set_cons_zero, List.set_cons_succ]) | ((with_reducible refine wpQuiet_at ⟨some 39, _, _, _, _, _⟩ ?_); refine wpQuiet_valueG rfl _ (by intro _ hS; exact exec_load1 _ 3 _ rfl ⟨wr.heap.size, 2, none⟩ rfl _ (hS.1.cell (j := 2) rfl) _ Tryd.underlying3 rfl) (wpQuiet_nil ?_); simp only [Act.put, List.setIfInBounds_toArray, List.set_cons_zero, List.set_cons_succ]) | ((with_reducible refine wpQuiet_at ⟨some 41, _, _, _, _, _⟩ ?_); refine wpQuiet_valueG rfl _ (by intro _ hS; exact exec_load1 _ 3 _ rfl ⟨w1.heap.size, 0, none⟩ rfl _ (hS.2.cell (j := 0) rfl) _ Tryd.underlying3 rfl) (wpQuiet_nil ?_); simp only [Act.put, List.setIfInBounds_toArray, List.set_cons_zero, List.set_cons_succ]) | (go_big_quiet_step ((intros; rfl)); refine wpQuiet_nil ?_)))
        refine plan_done ?_
        go_wp2_with fail
        go_roundg (gk - 1)
        case measure => have := HK.out; omega
        case rel => exact ⟨k + 1, by have := HK.out; show _ = _; omega, by omega, by go_num, by rw [fV_lo fi (by omega)], by rw [lV_lo fi b (by omega)], f6q, u7q, g8q, bq0⟩
      · by_cases hk17 : k = 16
        · skip
          have ha : a = ⟨4, 0, fi, stSec []⟩ := by
            rcases HA.out with h | h
            · omega
            · rw [h.2.1, hk17]
              rfl
          subst ha
          have hkl : k ≤ 16 := by omega
          have HZ := Lib.hid (stSec_size [])
          have hq : (((stSec []).size : Int) != 256) = false := by rw [stSec_size]; rfl
          have HZA := fun j (h : j < 256) => Lib.hid (stNil_at h)
          have HZL : Hid ((stSec []).data.toList.length = 256) := Lib.hid (by have := tl_len (stSec []); rw [stSec_size] at this; exact this)
          have HL17 : Hid (lV fi b (k + 1) = fi) := Lib.hid (by rw [hk17]; exact lV_hi fi b (Nat.le_refl 16))
          generalize stSec [] = Z at *
          rw [fV_lo fi hkl, lV_lo fi b hkl]
          have h16k : 16 ≤ k := by omega
          clear hk17
          clear HLW HLL HCL HWH HA hk16
          obtain ⟨g0, hg0⟩ : ∃ g0 : Nat, g0 = gk := ⟨_, rfl⟩
          have HG0 := Lib.hid hg0
          clear hg0
          go_wp2_with (first
            | ((with_reducible refine wpList_at ⟨some 31, _, _, _, _, _⟩ ?_); refine wpList_valueG rfl _ (by exact exec_load _ 40 _ rfl (E.add (k * 4)) rfl (⟨4, 0, fi, Z⟩ : StA).cs (fun j v hv => (hB.cell (by rw [block_of_add]; exact hlta)).trans (HCC.out j v hv)) _ Tryd.underlying40 rfl (by kernel_rfl)) ?_)
            | (with_reducible refine wpList_alloc_row (o := ⟨some 16, _, _, _, _, _⟩) rfl _ rfl zeroA zero_ac ?_; intro w21 a16_21 s21 g21; have k21 : Below wr.heap.size wr w21 := grown_below g21 (Nat.le_refl _) (by simp); have B21 := hB.trans (k21.mono hB.size); have f6_21 := f6.on k21; have u7_21 := u7.on k21; have g8_21 := g8.on k21; have cu70 := u7_21.cell (j := 0) rfl; have cu71 := u7_21.cell (j := 1) rfl; have cu72 := u7_21.cell (j := 2) rfl; have cu73 := u7_21.cell (j := 3) rfl)
            | ((with_reducible refine wpList_at ⟨none, .store _ (.tmp 16) _, _, _, _, _⟩ ?_); refine wpList_store_all rfl _ _ _ rfl (wr.heap.size) rfl _ _ a16_21 ((⟨4, 0, fi, Z⟩ : StA).cs) rfl ((⟨4, 0, fi, Z⟩ : StA).cs_one) rfl (by kernel_rfl) ?_; intro w22 a16_22 g22; have f6_22 := f6_21.kept g22 (by simp; omega); have u7_22 := u7_21.kept g22 (by simp; omega); have g8_22 := g8_21.kept g22 (by simp; omega); have B22 := below_kept B21 g22 B21.size (by rintro q hq; cases hq; omega); have sz22 := g22.size; clear f6_21 u7_21 g8_21; have cu70 := u7_22.cell (j := 0) rfl; have cu71 := u7_22.cell (j := 1) rfl; have cu72 := u7_22.cell (j := 2) rfl; have cu73 := u7_22.cell (j := 3) rfl; have ca160 := a16_22.cell (j := 0) rfl; have ca161 := a16_22.cell (j := 1) rfl; have ca162 := a16_22.cell (j := 2) rfl; have ca163 := a16_22.cell (j := 3) rfl)
            | ((with_reducible refine wpList_at ⟨some 65, _, _, _, _, _⟩ ?_); refine wpList_bytes_own rfl _ _ _ _ rfl Tryd.underlying9 Tryd.underlying5 Tryd.underlying42 rfl ?_; intro c23 w23 hc23 hz_23 hb23; have hz23 := hb23.size; have B23 := B22.trans (hb23.mono B22.size); have f6_23 := f6_22.on hb23; have u7_23 := u7_22.on hb23; have g8_23 := g8_22.on hb23; have a16_23 := a16_22.on hb23; clear f6_22 u7_22 g8_22 a16_22; have cu70 := u7_23.cell (j := 0) rfl; have cu71 := u7_23.cell (j := 1) rfl; have cu72 := u7_23.cell (j := 2) rfl; have cu73 := u7_23.cell (j := 3) rfl; have ca160 := a16_23.cell (j := 0) rfl; have ca161 := a16_23.cell (j := 1) rfl; have ca162 := a16_23.cell (j := 2) rfl; have ca163 := a16_23.cell (j := 3) rfl))
          go_loopg [67] 256 (fun g s67 wi => ∃ j : Nat, Hid (j + g = 256) ∧ j ≤ 256 ∧ s67 = .int .i64 (j : Int) ∧ wi = w23)
          case atStart => exact ⟨0, by show _ = _; omega, by omega, rfl, rfl⟩
          case round =>
            obtain ⟨j, HJ, hj, rfl, rfl⟩ := hrel
            by_cases hlj : j < 256
            · have hcy : _ = some (Value.int .u8 0) := (hz_23.at_ (HZA j hlj).out).1
              have hlenz := HZ.out
              go_wp2_with fail
              go_roundg (gk - 1)
              case measure => have := HJ.out; omega
              case rel => exact ⟨j + 1, by have := HJ.out; show _ = _; omega, by omega, by go_num, rfl⟩
            · obtain rfl : j = 256 := by omega
              have hlenz := HZ.out
              go_wp2_with fail
              go_roundg (g0 - 1)
              case measure => have := HK.out; have := HG0.out; omega
              case rel => exact ⟨k + 1, by have := HK.out; have := HG0.out; show _ = _; omega, by omega, by go_num, by rw [fV_hi fi (by omega)], by rw [HL17.out], f6_23, u7_23, g8_23, B23⟩
        · skip
          have hw : 16 ≤ k ∧ a = stWrt fi b (k - 16) ∧ k - 16 ≤ stCnt b := by
            rcases HA.out with h | h
            · omega
            · exact h
          obtain ⟨_, ha, hkb⟩ := hw
          obtain ⟨hc0, hc1, hc2, hc3⟩ := HLW.out _ hkb
          have HLV : Hid (lV fi b (k + 1) = a.c) := Lib.hid (by rw [lV_hi fi b (by omega), ha])
          rw [← ha] at hc0 hc1 hc2 hc3
          obtain ⟨ak, ab, ac, asx⟩ := a
          simp only at hc0 hc1 hc2 hc3 HLV
          subst hc2
          have hq : ((asx.size : Int) != 256) = false := by rw [hc3]; rfl
          rw [fV_hi fi (by omega)]
          clear HLW HLL HCL HWH HA ha hc3 hkb
          go_wp2_with (first
            | ((with_reducible refine wpList_at ⟨some 31, _, _, _, _, _⟩ ?_); refine wpList_valueG rfl _ (by exact exec_load _ 40 _ rfl (E.add (k * 4)) rfl (⟨4, ab, ac, asx⟩ : StA).cs (fun j v hv => (hB.cell (by rw [block_of_add]; exact hlta)).trans (HCC.out j v hv)) _ Tryd.underlying40 rfl (by kernel_rfl)) ?_)
            | (with_reducible refine wpList_alloc_row (o := ⟨some 16, _, _, _, _, _⟩) rfl _ rfl zeroA zero_ac ?_; intro w21 a16_21 s21 g21; have k21 : Below wr.heap.size wr w21 := grown_below g21 (Nat.le_refl _) (by simp); have B21 := hB.trans (k21.mono hB.size); have f6_21 := f6.on k21; have u7_21 := u7.on k21; have g8_21 := g8.on k21; have cu70 := u7_21.cell (j := 0) rfl; have cu71 := u7_21.cell (j := 1) rfl; have cu72 := u7_21.cell (j := 2) rfl; have cu73 := u7_21.cell (j := 3) rfl)
            | ((with_reducible refine wpList_at ⟨none, .store _ (.tmp 16) _, _, _, _, _⟩ ?_); refine wpList_store_all rfl _ _ _ rfl (wr.heap.size) rfl _ _ a16_21 ((⟨4, ab, ac, asx⟩ : StA).cs) rfl ((⟨4, ab, ac, asx⟩ : StA).cs_one) rfl (by kernel_rfl) ?_; intro w22 a16_22 g22; have f6_22 := f6_21.kept g22 (by simp; omega); have u7_22 := u7_21.kept g22 (by simp; omega); have g8_22 := g8_21.kept g22 (by simp; omega); have B22 := below_kept B21 g22 B21.size (by rintro q hq; cases hq; omega); have sz22 := g22.size; clear f6_21 u7_21 g8_21; have cu70 := u7_22.cell (j := 0) rfl; have cu71 := u7_22.cell (j := 1) rfl; have cu72 := u7_22.cell (j := 2) rfl; have cu73 := u7_22.cell (j := 3) rfl; have ca160 := a16_22.cell (j := 0) rfl; have ca161 := a16_22.cell (j := 1) rfl; have ca162 := a16_22.cell (j := 2) rfl; have ca163 := a16_22.cell (j := 3) rfl))
          go_roundg (gk - 1)
          case measure => have := HK.out; omega
          case rel => exact ⟨k + 1, by have := HK.out; show _ = _; omega, by omega, by go_num, by rw [fV_hi fi (by omega)], by rw [HLV.out], f6_22, u7_22, g8_22, B22⟩
    · skip
      obtain rfl : k = m := by omega
      have fg0 := HFG.out.on hB
      have HLG0 : Hid (0 < n' → ∀ (ad : Addr), A' = some ad → ad.block < wr.heap.size) := Lib.hid (fun h0 ad e => by have := HLG.out h0 ad e; omega)
      by_cases hk16 : k ≤ 16
      · have hw : R.w = false := by
          rw [Bool.eq_false_iff]
          intro h
          have := (HWH h).out
          have := HLEN.out
          omega
        rw [hw, fV_lo fi hk16, lV_lo fi b hk16]
        go_wp2_with fail
        go_ret
        exact ⟨rfl, hB⟩
      · rw [fV_hi fi (by omega)]
        have hst0 : stFirst u.r 0 = 16 * u.r := by rw [show stFirst u.r 0 = 16 * u.r + 8 * 0 from if_pos (by omega)]; omega
        have hst1 : stFirst u.r 1 = 16 * u.r + 8 := by rw [show stFirst u.r 1 = 16 * u.r + 8 * 1 from if_pos (by omega)]; omega
        have HF0 := fun X => Lib.hid (sfirst_any u.r 0 X)
        rw [hst0] at HF0
        have HF1 := fun X => Lib.hid (sfirst_any u.r 1 X)
        rw [hst1] at HF1
        clear hst0 hst1
        have cu70 := u7.cell (j := 0) rfl
        rcases HF.out with hff | hff
        · have hq : (fi != 16 * u.r) = false := by rw [hff]; simp
          clear hff
          cases hw : R.w with
          | true =>
            have hl : (lV fi b k != fi) = false := by
              have h1 := (HWH hw).out
              have h2 := HLEN.out
              rw [show k = (16 + stCnt b) + 1 by omega, lV_hi fi b (by omega), show 16 + stCnt b - 16 = stCnt b by omega, HLL.out]
              simp
            clear hw
            go_wp2_with fail
            refine (HF0 _).out.mono ?_
            rintro e _ ⟨rfl, rfl⟩
            go_wp2_with (first
              | ((with_reducible refine wpList_at ⟨some 112, _, _, _, _, _⟩ ?_); refine wpList_valueG rfl _ (by exact exec_loadFl _ _ rfl (w2.heap.size) rfl A' n' c' g8) ?_)
              | (with_reducible refine wpList_alloc_row (o := ⟨some 19, _, _, _, _, _⟩) rfl _ rfl [.slice none 0 0] (by kernel_rfl) ?_; intro w21 h19_21 s21 g21; have k21 : Below wr.heap.size wr w21 := grown_below g21 (Nat.le_refl _) (by simp); have B21 := hB.trans (k21.mono hB.size); have f6_21 := f6.on k21; have u7_21 := u7.on k21; have g8_21 := g8.on k21; have fl_21 := fg0.on k21; have cu70 := u7_21.cell (j := 0) rfl; have cu71 := u7_21.cell (j := 1) rfl; have cu72 := u7_21.cell (j := 2) rfl; have cu73 := u7_21.cell (j := 3) rfl)
              | ((with_reducible refine wpList_at ⟨none, .store _ (.tmp 19) _, _, _, _, _⟩ ?_); refine wpList_store_all rfl _ _ _ rfl (wr.heap.size) rfl _ _ h19_21 ([.slice A' n' c']) rfl (slice_one _ _ _) rfl (by kernel_rfl) ?_; intro w22 h19_22 g22; have f6_22 := f6_21.kept g22 (by simp; omega); have u7_22 := u7_21.kept g22 (by simp; omega); have g8_22 := g8_21.kept g22 (by simp; omega); have fl_22 := fl_kept fl_21 g22 (fun h0 => fl_ne fl_21 h0 h19_21); have B22 := below_kept B21 g22 B21.size (by rintro q hq; cases hq; omega); have sz22 := g22.size; clear f6_21 u7_21 g8_21 fl_21; have cu70 := u7_22.cell (j := 0) rfl; have cu71 := u7_22.cell (j := 1) rfl; have cu72 := u7_22.cell (j := 2) rfl; have cu73 := u7_22.cell (j := 3) rfl))
            generalize wr.heap.size = gH at *
            have lh19 := h19_22.lt
            go_loopg [113] 8 (fun g s113 wi => ∃ (k : Nat) (Ah : Option Addr) (nh ch : Nat), Hid (k + g = 8) ∧ k ≤ 8 ∧ s113 = .int .i64 (k : Int) ∧ Row wi (W.heap.size) 28 [.slice A n c] ∧ Row wi (w1.heap.size) 30 u.cs ∧ Row wi (gH) 28 [.slice Ah nh ch] ∧ FlOK wi Ah nh ch (clr R.m fi k) ∧ Below W.heap.size W wi)
            case atStart => exact ⟨0, A', n', c', by show _ = _; omega, by omega, rfl, f6_22, u7_22, h19_22, fl_22, B22⟩
            case round =>
              obtain ⟨k2, Ah, nh, ch, HK2, hk2, rfl, f6i, u7i, h19i, fli, hBi⟩ := hrel
              have lf6i := f6i.lt
              have lu7i := u7i.lt
              have lh19i := h19i.lt
              have lBi := hBi.size
              have cu70 := u7i.cell (j := 0) rfl
              by_cases hlk : k2 < 8
              · skip
                have HMB : StOK (clr R.m fi k2) := (clr_read HOK.out hf0 (by omega) k2 (by omega)).1
                have hnh : nh ≤ 1000000 := by have := fli.len; have := HMB.1; omega
                have HWR := fun X h => Lib.hid (lwrite_any Ah nh ch (clr R.m fi k2) (fi + (k2 : Int)) (fullS 0) (-1) X h hnh)
                rw [← clr_succ] at HWR
                have HZU : Hid (List.replicate 256 (Value.int .u8 0) = bvs (List.replicate 256 0)) := Lib.hid (by unfold bvs; rw [List.map_replicate]; rfl)
                clear HMB hnh
                go_wp2_with fail
                have hBd := hBi.drew
                have f6id := f6i.drew
                have u7id := u7i.drew
                have h19id := h19i.drew
                have flid : FlOK wr.drew Ah nh ch (clr R.m fi k2) := fli
                refine wp_region_plan (fun _ => True) (.take 1 <| .take 2 <| .take 3 <| .two 0 (.one 4 <| .one 5 <| .one 6 <| .take 7 <| .take 8 <| .take 9 <| .one 10 <| .done) 4 (.two 0 (.one 5 <| .one 6 <| .take 7 <| .take 8 <| .take 9 <| .one 10 <| .done) 5 (.one 0 <| .one 6 <| .take 7 <| .take 8 <| .take 9 <| .one 10 <| .done))) (by kernel_rfl) (by kernel_rfl) (by kernel_rfl) (fun _ _ _ _ _ h => h) trivial ?_
                repeat (refine plan_take _ rfl ?_; (go_big_quiet_step ((intros; rfl)); refine wpQuiet_nil ?_))
                refine plan_two ?_ ?_
                · refine step_at _ rfl fun K hK => ?_
                  refine step_valueG (o := ⟨some 117, _, _, _, _, _⟩) rfl _ _ (by exact exec_loadFl _ _ rfl (gH) rfl Ah nh ch h19id) ?_
                  refine hK _ _ trivial ?_
                  clear hK K
                  simp only [Act.put, List.setIfInBounds_toArray, List.set_cons_zero, List.set_cons_succ]
                  refine plan_one _ rfl fun K hK => ?_
                  refine step_make_row rfl _ _ _ rfl 5 Tryd.underlying42 (.int .u8 0) rfl 1 (by kernel_rfl) .i64 .i64 256 256 rfl rfl (Nat.le_refl _) (by omega) (by omega) ?_
                  intro wu1 ru1 su1 gu1
                  have hu1 := grown_below gu1 (Nat.le_refl _) (by simp)
                  rw [HZU.out] at ru1
                  have rdu1 := ru1.reads (size := 1) (n := 256) (by rw [bvs_length, List.length_replicate])
                  have f6u1 := f6id.on hu1
                  have u7u1 := u7id.on hu1
                  have h19u1 := h19id.on hu1
                  have flu1 := flid.on hu1
                  have bu1 := hBd.trans (hu1.mono hBd.size)
                  have zu1 := hu1.size
                  refine hK _ _ trivial ?_
                  clear hK K
                  simp only [Act.put, List.setIfInBounds_toArray, List.set_cons_zero, List.set_cons_succ]
                  refine plan_one _ rfl fun K hK => ?_
                  refine step_valueG (o := ⟨some 122, _, _, _, _, _⟩) rfl _ _ (by exact exec_string_of _ 42 9 5 _ rfl Tryd.underlying42 Tryd.underlying5 Tryd.underlying9 rfl rdu1) ?_
                  refine hK _ _ trivial ?_
                  clear hK K
                  simp only [Act.put, List.setIfInBounds_toArray, List.set_cons_zero, List.set_cons_succ]
                  refine plan_one _ rfl fun K hK => ?_
                  go_simp
                  refine (HWR _ flu1).out.mono ?_
                  rintro e wu2 ⟨Aw, nw, cw, rfl, fwu2, hu2⟩
                  have f6u2 := f6u1.on hu2
                  have u7u2 := u7u1.on hu2
                  have h19u2 := h19u1.on hu2
                  have bu2 := bu1.trans (hu2.mono bu1.size)
                  have zu2 := hu2.size
                  refine hK _ _ trivial ?_
                  clear hK K
                  repeat (refine plan_take _ rfl ?_; (go_big_quiet_step ((intros; rfl)); refine wpQuiet_nil ?_))
                  refine plan_one _ rfl fun K hK => ?_
                  have lqu3 := h19u2.lt
                  refine step_store_all rfl _ _ _ rfl (gH) rfl _ _ h19u2 ([.slice Aw nw cw]) rfl (slice_one _ _ _) rfl (by kernel_rfl) ?_
                  intro wu3 hqu3 gu3
                  have fwu3 := fl_kept fwu2 gu3 (fun h0 => fl_ne fwu2 h0 h19u2)
                  have f6u3 := f6u2.kept gu3 (by simp; omega)
                  have u7u3 := u7u2.kept gu3 (by simp; omega)
                  have bu3 := below_kept bu2 gu3 bu2.size (by rintro z hz; cases hz; omega)
                  refine hK _ _ trivial ?_
                  clear hK K
                  refine plan_done ?_
                  go_wp2_with fail
                  go_roundg (gk - 1)
                  case measure => have := HK2.out; omega
                  case rel =>
                    exact ⟨k2 + 1, Aw, nw, cw, by have := HK2.out; show _ = _; omega, by omega, by go_num, f6u3, u7u3, hqu3, fwu3, bu3⟩
                · refine step_at _ rfl fun K hK => ?_
                  refine step_make_row rfl _ _ _ rfl 5 Tryd.underlying42 (.int .u8 0) rfl 1 (by kernel_rfl) .i64 .i64 256 256 rfl rfl (Nat.le_refl _) (by omega) (by omega) ?_
                  intro wu4 ru4 su4 gu4
                  have hu4 := grown_below gu4 (Nat.le_refl _) (by simp)
                  rw [HZU.out] at ru4
                  have rdu4 := ru4.reads (size := 1) (n := 256) (by rw [bvs_length, List.length_replicate])
                  have f6u4 := f6id.on hu4
                  have u7u4 := u7id.on hu4
                  have h19u4 := h19id.on hu4
                  have flu4 := flid.on hu4
                  have bu4 := hBd.trans (hu4.mono hBd.size)
                  have zu4 := hu4.size
                  refine hK _ _ trivial ?_
                  clear hK K
                  simp only [Act.put, List.setIfInBounds_toArray, List.set_cons_zero, List.set_cons_succ]
                  refine plan_two ?_ ?_
                  · refine step_at _ rfl fun K hK => ?_
                    refine step_valueG (o := ⟨some 117, _, _, _, _, _⟩) rfl _ _ (by exact exec_loadFl _ _ rfl (gH) rfl Ah nh ch h19u4) ?_
                    refine hK _ _ trivial ?_
                    clear hK K
                    simp only [Act.put, List.setIfInBounds_toArray, List.set_cons_zero, List.set_cons_succ]
                    refine plan_one _ rfl fun K hK => ?_
                    refine step_valueG (o := ⟨some 122, _, _, _, _, _⟩) rfl _ _ (by exact exec_string_of _ 42 9 5 _ rfl Tryd.underlying42 Tryd.underlying5 Tryd.underlying9 rfl rdu4) ?_
                    refine hK _ _ trivial ?_
                    clear hK K
                    simp only [Act.put, List.setIfInBounds_toArray, List.set_cons_zero, List.set_cons_succ]
                    refine plan_one _ rfl fun K hK => ?_
                    go_simp
                    refine (HWR _ flu4).out.mono ?_
                    rintro e wu5 ⟨Aw, nw, cw, rfl, fwu5, hu5⟩
                    have f6u5 := f6u4.on hu5
                    have u7u5 := u7u4.on hu5
                    have h19u5 := h19u4.on hu5
                    have bu5 := bu4.trans (hu5.mono bu4.size)
                    have zu5 := hu5.size
                    refine hK _ _ trivial ?_
                    clear hK K
                    repeat (refine plan_take _ rfl ?_; (go_big_quiet_step ((intros; rfl)); refine wpQuiet_nil ?_))
                    refine plan_one _ rfl fun K hK => ?_
                    have lqu6 := h19u5.lt
                    refine step_store_all rfl _ _ _ rfl (gH) rfl _ _ h19u5 ([.slice Aw nw cw]) rfl (slice_one _ _ _) rfl (by kernel_rfl) ?_
                    intro wu6 hqu6 gu6
                    have fwu6 := fl_kept fwu5 gu6 (fun h0 => fl_ne fwu5 h0 h19u5)
                    have f6u6 := f6u5.kept gu6 (by simp; omega)
                    have u7u6 := u7u5.kept gu6 (by simp; omega)
                    have bu6 := below_kept bu5 gu6 bu5.size (by rintro z hz; cases hz; omega)
                    refine hK _ _ trivial ?_
                    clear hK K
                    refine plan_done ?_
                    go_wp2_with fail
                    go_roundg (gk - 1)
                    case measure => have := HK2.out; omega
                    case rel =>
                      exact ⟨k2 + 1, Aw, nw, cw, by have := HK2.out; show _ = _; omega, by omega, by go_num, f6u6, u7u6, hqu6, fwu6, bu6⟩
                  · refine step_at _ rfl fun K hK => ?_
                    refine step_valueG (o := ⟨some 122, _, _, _, _, _⟩) rfl _ _ (by exact exec_string_of _ 42 9 5 _ rfl Tryd.underlying42 Tryd.underlying5 Tryd.underlying9 rfl rdu4) ?_
                    refine hK _ _ trivial ?_
                    clear hK K
                    simp only [Act.put, List.setIfInBounds_toArray, List.set_cons_zero, List.set_cons_succ]
                    refine plan_one _ rfl fun K hK => ?_
                    refine step_valueG (o := ⟨some 117, _, _, _, _, _⟩) rfl _ _ (by exact exec_loadFl _ _ rfl (gH) rfl Ah nh ch h19u4) ?_
                    refine hK _ _ trivial ?_
                    clear hK K
                    simp only [Act.put, List.setIfInBounds_toArray, List.set_cons_zero, List.set_cons_succ]
                    refine plan_one _ rfl fun K hK => ?_
                    go_simp
                    refine (HWR _ flu4).out.mono ?_
                    rintro e wu7 ⟨Aw, nw, cw, rfl, fwu7, hu7⟩
                    have f6u7 := f6u4.on hu7
                    have u7u7 := u7u4.on hu7
                    have h19u7 := h19u4.on hu7
                    have bu7 := bu4.trans (hu7.mono bu4.size)
                    have zu7 := hu7.size
                    refine hK _ _ trivial ?_
                    clear hK K
                    repeat (refine plan_take _ rfl ?_; (go_big_quiet_step ((intros; rfl)); refine wpQuiet_nil ?_))
                    refine plan_one _ rfl fun K hK => ?_
                    have lqu8 := h19u7.lt
                    refine step_store_all rfl _ _ _ rfl (gH) rfl _ _ h19u7 ([.slice Aw nw cw]) rfl (slice_one _ _ _) rfl (by kernel_rfl) ?_
                    intro wu8 hqu8 gu8
                    have fwu8 := fl_kept fwu7 gu8 (fun h0 => fl_ne fwu7 h0 h19u7)
                    have f6u8 := f6u7.kept gu8 (by simp; omega)
                    have u7u8 := u7u7.kept gu8 (by simp; omega)
                    have bu8 := below_kept bu7 gu8 bu7.size (by rintro z hz; cases hz; omega)
                    refine hK _ _ trivial ?_
                    clear hK K
                    refine plan_done ?_
                    go_wp2_with fail
                    go_roundg (gk - 1)
                    case measure => have := HK2.out; omega
                    case rel =>
                      exact ⟨k2 + 1, Aw, nw, cw, by have := HK2.out; show _ = _; omega, by omega, by go_num, f6u8, u7u8, hqu8, fwu8, bu8⟩
              · obtain rfl : k2 = 8 := by omega
                have HMB : StOK (clr R.m fi 8) := (clr_read HOK.out hf0 (by omega) 8 (Nat.le_refl _)).1
                have hsz8 : ∀ s ∈ clr R.m fi 8, s.size ≤ 400 := fun s hs => by have := HMB.2 s hs; omega
                have HHK := fun X h1 h2 => Lib.hid (lget_any Ah nh ch (clr R.m fi 8) u.r X HIN.out h1 h2 hsz8)
                have HGK := fun X h => HG u.r X HIN.out h
                rw [HCL.out] at HHK
                generalize stSt fs u.r = S at *
                clear HMB hsz8
                go_wp2_with ((with_reducible refine wpList_at ⟨some 128, _, _, _, _, _⟩ ?_); refine wpList_valueG rfl _ (by exact exec_loadFl _ _ rfl (W.heap.size) rfl A n c f6i) ?_)
                have l41f6 := f6i.lt
                have l41u7 := u7i.lt
                have l41h19 := h19i.lt
                have lB41 := hBi.size
                refine (HGK _ hBi).out.mono ?_
                rintro e w41 ⟨rfl, h41⟩
                have hs41 := h41.size
                have B41 := hBi.trans (h41.mono hBi.size)
                have f6_41 := f6i.on h41
                have u7_41 := u7i.on h41
                have h19_41 := h19i.on h41
                have fl_41 := fli.on h41
                have cu70 := u7_41.cell (j := 0) rfl
                have cu71 := u7_41.cell (j := 1) rfl
                have cu72 := u7_41.cell (j := 2) rfl
                have cu73 := u7_41.cell (j := 3) rfl
                have HLH := Lib.hid (fun h0 => fl_lt fl_41 h0)
                go_wp2_with (first
                  | (with_reducible refine wpList_alloc_row (o := ⟨some 21, _, _, _, _, _⟩) rfl _ rfl zeroO zero_so ?_; intro w42 a21_42 s42 g42; have k42 : Below w41.heap.size w41 w42 := grown_below g42 (Nat.le_refl _) (by simp); have B42 := B41.trans (k42.mono B41.size); have f6_42 := f6_41.on k42; have u7_42 := u7_41.on k42; have h19_42 := h19_41.on k42; have fl_42 := fl_41.on k42; clear f6_41 u7_41 h19_41 fl_41; have cu70 := u7_42.cell (j := 0) rfl; have cu71 := u7_42.cell (j := 1) rfl; have cu72 := u7_42.cell (j := 2) rfl; have cu73 := u7_42.cell (j := 3) rfl)
                  | ((with_reducible refine wpList_at ⟨none, .store _ (.tmp 21) _, _, _, _, _⟩ ?_); refine wpList_store_all rfl _ _ _ rfl (w41.heap.size) rfl _ _ a21_42 (S.cs) rfl (S.cs_one) rfl (by kernel_rfl) ?_; intro w43 a21_43 g43; have f6_43 := f6_42.kept g43 (by simp; omega); have u7_43 := u7_42.kept g43 (by simp; omega); have h19_43 := h19_42.kept g43 (by simp; omega); have fl_43 := fl_kept fl_42 g43 (fun h0 ad e' => by have := HLH.out h0 ad e'; omega); have B43 := below_kept B42 g43 B42.size (by rintro q hq; cases hq; omega); have sz43 := g43.size; clear f6_42 u7_42 h19_42 fl_42; have cu70 := u7_43.cell (j := 0) rfl; have cu71 := u7_43.cell (j := 1) rfl; have cu72 := u7_43.cell (j := 2) rfl; have cu73 := u7_43.cell (j := 3) rfl)
                  | ((with_reducible refine wpList_at ⟨some 135, _, _, _, _, _⟩ ?_); refine wpList_valueG rfl _ (by exact exec_loadFl _ _ rfl (gH) rfl Ah nh ch h19_43) ?_))
                have l44f6 := f6_43.lt
                have l44u7 := u7_43.lt
                have l44h19 := h19_43.lt
                have l44a21 := a21_43.lt
                have lB44 := B43.size
                refine (HHK _ (hK.on B43) fl_43).out.mono ?_
                rintro e w44 ⟨rfl, h44⟩
                have hs44 := h44.size
                have B44 := B43.trans (h44.mono B43.size)
                have f6_44 := f6_43.on h44
                have u7_44 := u7_43.on h44
                have h19_44 := h19_43.on h44
                have fl_44 := fl_43.on h44
                have a21_44 := a21_43.on h44
                clear f6_43 u7_43 h19_43 fl_43 a21_43
                have cu70 := u7_44.cell (j := 0) rfl
                have cu71 := u7_44.cell (j := 1) rfl
                have cu72 := u7_44.cell (j := 2) rfl
                have cu73 := u7_44.cell (j := 3) rfl
                go_wp2_with (first
                  | (with_reducible refine wpList_alloc_row (o := ⟨some 23, _, _, _, _, _⟩) rfl _ rfl zeroO zero_so ?_; intro w45 b23_45 s45 g45; have k45 : Below w44.heap.size w44 w45 := grown_below g45 (Nat.le_refl _) (by simp); have B45 := B44.trans (k45.mono B44.size); have f6_45 := f6_44.on k45; have u7_45 := u7_44.on k45; have h19_45 := h19_44.on k45; have a21_45 := a21_44.on k45; clear f6_44 u7_44 h19_44 a21_44; have cu70 := u7_45.cell (j := 0) rfl; have cu71 := u7_45.cell (j := 1) rfl; have cu72 := u7_45.cell (j := 2) rfl; have cu73 := u7_45.cell (j := 3) rfl)
                  | ((with_reducible refine wpList_at ⟨none, .store _ (.tmp 23) _, _, _, _, _⟩ ?_); refine wpList_store_all rfl _ _ _ rfl (w44.heap.size) rfl _ _ b23_45 (S.cs) rfl (S.cs_one) rfl (by kernel_rfl) ?_; intro w46 b23_46 g46; have f6_46 := f6_45.kept g46 (by simp; omega); have u7_46 := u7_45.kept g46 (by simp; omega); have h19_46 := h19_45.kept g46 (by simp; omega); have a21_46 := a21_45.kept g46 (by simp; omega); have B46 := below_kept B45 g46 B45.size (by rintro q hq; cases hq; omega); have sz46 := g46.size; clear f6_45 u7_45 h19_45 a21_45; have cu70 := u7_46.cell (j := 0) rfl; have cu71 := u7_46.cell (j := 1) rfl; have cu72 := u7_46.cell (j := 2) rfl; have cu73 := u7_46.cell (j := 3) rfl)
                  | ((with_reducible refine wpList_at ⟨some 141, _, _, _, _, _⟩ ?_); refine wpList_valueG rfl _ (by exact exec_loadO _ _ rfl (w44.heap.size) rfl S b23_46) ?_)
                  | ((with_reducible refine wpList_at ⟨some 142, _, _, _, _, _⟩ ?_); refine wpList_valueG rfl _ (by exact exec_loadO _ _ rfl (w41.heap.size) rfl S a21_46) ?_)
                  | ((with_reducible refine wpList_at ⟨some 143, _, _, _, _, _⟩ ?_); refine wpList_valueG rfl _ (by exact exec_eqlS _ _ _ rfl S rfl rfl) ?_))
                go_ret
                exact ⟨rfl, B46⟩
          | false =>
            clear hw
            go_wp2_with fail
            refine (HF0 _).out.mono ?_
            rintro e _ ⟨rfl, rfl⟩
            go_wp2_with (first
              | ((with_reducible refine wpList_at ⟨some 112, _, _, _, _, _⟩ ?_); refine wpList_valueG rfl _ (by exact exec_loadFl _ _ rfl (w2.heap.size) rfl A' n' c' g8) ?_)
              | (with_reducible refine wpList_alloc_row (o := ⟨some 19, _, _, _, _, _⟩) rfl _ rfl [.slice none 0 0] (by kernel_rfl) ?_; intro w21 h19_21 s21 g21; have k21 : Below wr.heap.size wr w21 := grown_below g21 (Nat.le_refl _) (by simp); have B21 := hB.trans (k21.mono hB.size); have f6_21 := f6.on k21; have u7_21 := u7.on k21; have g8_21 := g8.on k21; have fl_21 := fg0.on k21; have cu70 := u7_21.cell (j := 0) rfl; have cu71 := u7_21.cell (j := 1) rfl; have cu72 := u7_21.cell (j := 2) rfl; have cu73 := u7_21.cell (j := 3) rfl)
              | ((with_reducible refine wpList_at ⟨none, .store _ (.tmp 19) _, _, _, _, _⟩ ?_); refine wpList_store_all rfl _ _ _ rfl (wr.heap.size) rfl _ _ h19_21 ([.slice A' n' c']) rfl (slice_one _ _ _) rfl (by kernel_rfl) ?_; intro w22 h19_22 g22; have f6_22 := f6_21.kept g22 (by simp; omega); have u7_22 := u7_21.kept g22 (by simp; omega); have g8_22 := g8_21.kept g22 (by simp; omega); have fl_22 := fl_kept fl_21 g22 (fun h0 => fl_ne fl_21 h0 h19_21); have B22 := below_kept B21 g22 B21.size (by rintro q hq; cases hq; omega); have sz22 := g22.size; clear f6_21 u7_21 g8_21 fl_21; have cu70 := u7_22.cell (j := 0) rfl; have cu71 := u7_22.cell (j := 1) rfl; have cu72 := u7_22.cell (j := 2) rfl; have cu73 := u7_22.cell (j := 3) rfl))
            generalize wr.heap.size = gH at *
            have lh19 := h19_22.lt
            go_loopg [113] 8 (fun g s113 wi => ∃ (k : Nat) (Ah : Option Addr) (nh ch : Nat), Hid (k + g = 8) ∧ k ≤ 8 ∧ s113 = .int .i64 (k : Int) ∧ Row wi (W.heap.size) 28 [.slice A n c] ∧ Row wi (w1.heap.size) 30 u.cs ∧ Row wi (gH) 28 [.slice Ah nh ch] ∧ FlOK wi Ah nh ch (clr R.m fi k) ∧ Below W.heap.size W wi)
            case atStart => exact ⟨0, A', n', c', by show _ = _; omega, by omega, rfl, f6_22, u7_22, h19_22, fl_22, B22⟩
            case round =>
              obtain ⟨k2, Ah, nh, ch, HK2, hk2, rfl, f6i, u7i, h19i, fli, hBi⟩ := hrel
              have lf6i := f6i.lt
              have lu7i := u7i.lt
              have lh19i := h19i.lt
              have lBi := hBi.size
              have cu70 := u7i.cell (j := 0) rfl
              by_cases hlk : k2 < 8
              · skip
                have HMB : StOK (clr R.m fi k2) := (clr_read HOK.out hf0 (by omega) k2 (by omega)).1
                have hnh : nh ≤ 1000000 := by have := fli.len; have := HMB.1; omega
                have HWR := fun X h => Lib.hid (lwrite_any Ah nh ch (clr R.m fi k2) (fi + (k2 : Int)) (fullS 0) (-1) X h hnh)
                rw [← clr_succ] at HWR
                have HZU : Hid (List.replicate 256 (Value.int .u8 0) = bvs (List.replicate 256 0)) := Lib.hid (by unfold bvs; rw [List.map_replicate]; rfl)
                clear HMB hnh
                go_wp2_with fail
                have hBd := hBi.drew
                have f6id := f6i.drew
                have u7id := u7i.drew
                have h19id := h19i.drew
                have flid : FlOK wr.drew Ah nh ch (clr R.m fi k2) := fli
                refine wp_region_plan (fun _ => True) (.take 1 <| .take 2 <| .take 3 <| .two 0 (.one 4 <| .one 5 <| .one 6 <| .take 7 <| .take 8 <| .take 9 <| .one 10 <| .done) 4 (.two 0 (.one 5 <| .one 6 <| .take 7 <| .take 8 <| .take 9 <| .one 10 <| .done) 5 (.one 0 <| .one 6 <| .take 7 <| .take 8 <| .take 9 <| .one 10 <| .done))) (by kernel_rfl) (by kernel_rfl) (by kernel_rfl) (fun _ _ _ _ _ h => h) trivial ?_
                repeat (refine plan_take _ rfl ?_; (go_big_quiet_step ((intros; rfl)); refine wpQuiet_nil ?_))
                refine plan_two ?_ ?_
                · refine step_at _ rfl fun K hK => ?_
                  refine step_valueG (o := ⟨some 117, _, _, _, _, _⟩) rfl _ _ (by exact exec_loadFl _ _ rfl (gH) rfl Ah nh ch h19id) ?_
                  refine hK _ _ trivial ?_
                  clear hK K
                  simp only [Act.put, List.setIfInBounds_toArray, List.set_cons_zero, List.set_cons_succ]
                  refine plan_one _ rfl fun K hK => ?_
                  refine step_make_row rfl _ _ _ rfl 5 Tryd.underlying42 (.int .u8 0) rfl 1 (by kernel_rfl) .i64 .i64 256 256 rfl rfl (Nat.le_refl _) (by omega) (by omega) ?_
                  intro wu9 ru9 su9 gu9
                  have hu9 := grown_below gu9 (Nat.le_refl _) (by simp)
                  rw [HZU.out] at ru9
                  have rdu9 := ru9.reads (size := 1) (n := 256) (by rw [bvs_length, List.length_replicate])
                  have f6u9 := f6id.on hu9
                  have u7u9 := u7id.on hu9
                  have h19u9 := h19id.on hu9
                  have flu9 := flid.on hu9
                  have bu9 := hBd.trans (hu9.mono hBd.size)
                  have zu9 := hu9.size
                  refine hK _ _ trivial ?_
                  clear hK K
                  simp only [Act.put, List.setIfInBounds_toArray, List.set_cons_zero, List.set_cons_succ]
                  refine plan_one _ rfl fun K hK => ?_
                  refine step_valueG (o := ⟨some 122, _, _, _, _, _⟩) rfl _ _ (by exact exec_string_of _ 42 9 5 _ rfl Tryd.underlying42 Tryd.underlying5 Tryd.underlying9 rfl rdu9) ?_
                  refine hK _ _ trivial ?_
                  clear hK K
                  simp only [Act.put, List.setIfInBounds_toArray, List.set_cons_zero, List.set_cons_succ]
                  refine plan_one _ rfl fun K hK => ?_
                  go_simp
                  refine (HWR _ flu9).out.mono ?_
                  rintro e wu10 ⟨Aw, nw, cw, rfl, fwu10, hu10⟩
                  have f6u10 := f6u9.on hu10
                  have u7u10 := u7u9.on hu10
                  have h19u10 := h19u9.on hu10
                  have bu10 := bu9.trans (hu10.mono bu9.size)
                  have zu10 := hu10.size
                  refine hK _ _ trivial ?_
                  clear hK K
                  repeat (refine plan_take _ rfl ?_; (go_big_quiet_step ((intros; rfl)); refine wpQuiet_nil ?_))
                  refine plan_one _ rfl fun K hK => ?_
                  have lqu11 := h19u10.lt
                  refine step_store_all rfl _ _ _ rfl (gH) rfl _ _ h19u10 ([.slice Aw nw cw]) rfl (slice_one _ _ _) rfl (by kernel_rfl) ?_
                  intro wu11 hqu11 gu11
                  have fwu11 := fl_kept fwu10 gu11 (fun h0 => fl_ne fwu10 h0 h19u10)
                  have f6u11 := f6u10.kept gu11 (by simp; omega)
                  have u7u11 := u7u10.kept gu11 (by simp; omega)
                  have bu11 := below_kept bu10 gu11 bu10.size (by rintro z hz; cases hz; omega)
                  refine hK _ _ trivial ?_
                  clear hK K
                  refine plan_done ?_
                  go_wp2_with fail
                  go_roundg (gk - 1)
                  case measure => have := HK2.out; omega
                  case rel =>
                    exact ⟨k2 + 1, Aw, nw, cw, by have := HK2.out; show _ = _; omega, by omega, by go_num, f6u11, u7u11, hqu11, fwu11, bu11⟩
                · refine step_at _ rfl fun K hK => ?_
                  refine step_make_row rfl _ _ _ rfl 5 Tryd.underlying42 (.int .u8 0) rfl 1 (by kernel_rfl) .i64 .i64 256 256 rfl rfl (Nat.le_refl _) (by omega) (by omega) ?_
                  intro wu12 ru12 su12 gu12
                  have hu12 := grown_below gu12 (Nat.le_refl _) (by simp)
                  rw [HZU.out] at ru12
                  have rdu12 := ru12.reads (size := 1) (n := 256) (by rw [bvs_length, List.length_replicate])
                  have f6u12 := f6id.on hu12
                  have u7u12 := u7id.on hu12
                  have h19u12 := h19id.on hu12
                  have flu12 := flid.on hu12
                  have bu12 := hBd.trans (hu12.mono hBd.size)
                  have zu12 := hu12.size
                  refine hK _ _ trivial ?_
                  clear hK K
                  simp only [Act.put, List.setIfInBounds_toArray, List.set_cons_zero, List.set_cons_succ]
                  refine plan_two ?_ ?_
                  · refine step_at _ rfl fun K hK => ?_
                    refine step_valueG (o := ⟨some 117, _, _, _, _, _⟩) rfl _ _ (by exact exec_loadFl _ _ rfl (gH) rfl Ah nh ch h19u12) ?_
                    refine hK _ _ trivial ?_
                    clear hK K
                    simp only [Act.put, List.setIfInBounds_toArray, List.set_cons_zero, List.set_cons_succ]
                    refine plan_one _ rfl fun K hK => ?_
                    refine step_valueG (o := ⟨some 122, _, _, _, _, _⟩) rfl _ _ (by exact exec_string_of _ 42 9 5 _ rfl Tryd.underlying42 Tryd.underlying5 Tryd.underlying9 rfl rdu12) ?_
                    refine hK _ _ trivial ?_
                    clear hK K
                    simp only [Act.put, List.setIfInBounds_toArray, List.set_cons_zero, List.set_cons_succ]
                    refine plan_one _ rfl fun K hK => ?_
                    go_simp
                    refine (HWR _ flu12).out.mono ?_
                    rintro e wu13 ⟨Aw, nw, cw, rfl, fwu13, hu13⟩
                    have f6u13 := f6u12.on hu13
                    have u7u13 := u7u12.on hu13
                    have h19u13 := h19u12.on hu13
                    have bu13 := bu12.trans (hu13.mono bu12.size)
                    have zu13 := hu13.size
                    refine hK _ _ trivial ?_
                    clear hK K
                    repeat (refine plan_take _ rfl ?_; (go_big_quiet_step ((intros; rfl)); refine wpQuiet_nil ?_))
                    refine plan_one _ rfl fun K hK => ?_
                    have lqu14 := h19u13.lt
                    refine step_store_all rfl _ _ _ rfl (gH) rfl _ _ h19u13 ([.slice Aw nw cw]) rfl (slice_one _ _ _) rfl (by kernel_rfl) ?_
                    intro wu14 hqu14 gu14
                    have fwu14 := fl_kept fwu13 gu14 (fun h0 => fl_ne fwu13 h0 h19u13)
                    have f6u14 := f6u13.kept gu14 (by simp; omega)
                    have u7u14 := u7u13.kept gu14 (by simp; omega)
                    have bu14 := below_kept bu13 gu14 bu13.size (by rintro z hz; cases hz; omega)
                    refine hK _ _ trivial ?_
                    clear hK K
                    refine plan_done ?_
                    go_wp2_with fail
                    go_roundg (gk - 1)
                    case measure => have := HK2.out; omega
                    case rel =>
                      exact ⟨k2 + 1, Aw, nw, cw, by have := HK2.out; show _ = _; omega, by omega, by go_num, f6u14, u7u14, hqu14, fwu14, bu14⟩
                  · refine step_at _ rfl fun K hK => ?_
                    refine step_valueG (o := ⟨some 122, _, _, _, _, _⟩) rfl _ _ (by exact exec_string_of _ 42 9 5 _ rfl Tryd.underlying42 Tryd.underlying5 Tryd.underlying9 rfl rdu12) ?_
                    refine hK _ _ trivial ?_
                    clear hK K
                    simp only [Act.put, List.setIfInBounds_toArray, List.set_cons_zero, List.set_cons_succ]
                    refine plan_one _ rfl fun K hK => ?_
                    refine step_valueG (o := ⟨some 117, _, _, _, _, _⟩) rfl _ _ (by exact exec_loadFl _ _ rfl (gH) rfl Ah nh ch h19u12) ?_
                    refine hK _ _ trivial ?_
                    clear hK K
                    simp only [Act.put, List.setIfInBounds_toArray, List.set_cons_zero, List.set_cons_succ]
                    refine plan_one _ rfl fun K hK => ?_
                    go_simp
                    refine (HWR _ flu12).out.mono ?_
                    rintro e wu15 ⟨Aw, nw, cw, rfl, fwu15, hu15⟩
                    have f6u15 := f6u12.on hu15
                    have u7u15 := u7u12.on hu15
                    have h19u15 := h19u12.on hu15
                    have bu15 := bu12.trans (hu15.mono bu12.size)
                    have zu15 := hu15.size
                    refine hK _ _ trivial ?_
                    clear hK K
                    repeat (refine plan_take _ rfl ?_; (go_big_quiet_step ((intros; rfl)); refine wpQuiet_nil ?_))
                    refine plan_one _ rfl fun K hK => ?_
                    have lqu16 := h19u15.lt
                    refine step_store_all rfl _ _ _ rfl (gH) rfl _ _ h19u15 ([.slice Aw nw cw]) rfl (slice_one _ _ _) rfl (by kernel_rfl) ?_
                    intro wu16 hqu16 gu16
                    have fwu16 := fl_kept fwu15 gu16 (fun h0 => fl_ne fwu15 h0 h19u15)
                    have f6u16 := f6u15.kept gu16 (by simp; omega)
                    have u7u16 := u7u15.kept gu16 (by simp; omega)
                    have bu16 := below_kept bu15 gu16 bu15.size (by rintro z hz; cases hz; omega)
                    refine hK _ _ trivial ?_
                    clear hK K
                    refine plan_done ?_
                    go_wp2_with fail
                    go_roundg (gk - 1)
                    case measure => have := HK2.out; omega
                    case rel =>
                      exact ⟨k2 + 1, Aw, nw, cw, by have := HK2.out; show _ = _; omega, by omega, by go_num, f6u16, u7u16, hqu16, fwu16, bu16⟩
              · obtain rfl : k2 = 8 := by omega
                have HMB : StOK (clr R.m fi 8) := (clr_read HOK.out hf0 (by omega) 8 (Nat.le_refl _)).1
                have hsz8 : ∀ s ∈ clr R.m fi 8, s.size ≤ 400 := fun s hs => by have := HMB.2 s hs; omega
                have HHK := fun X h1 h2 => Lib.hid (lget_any Ah nh ch (clr R.m fi 8) u.r X HIN.out h1 h2 hsz8)
                have HGK := fun X h => HG u.r X HIN.out h
                rw [HCL.out] at HHK
                generalize stSt fs u.r = S at *
                clear HMB hsz8
                go_wp2_with ((with_reducible refine wpList_at ⟨some 128, _, _, _, _, _⟩ ?_); refine wpList_valueG rfl _ (by exact exec_loadFl _ _ rfl (W.heap.size) rfl A n c f6i) ?_)
                have l41f6 := f6i.lt
                have l41u7 := u7i.lt
                have l41h19 := h19i.lt
                have lB41 := hBi.size
                refine (HGK _ hBi).out.mono ?_
                rintro e w41 ⟨rfl, h41⟩
                have hs41 := h41.size
                have B41 := hBi.trans (h41.mono hBi.size)
                have f6_41 := f6i.on h41
                have u7_41 := u7i.on h41
                have h19_41 := h19i.on h41
                have fl_41 := fli.on h41
                have cu70 := u7_41.cell (j := 0) rfl
                have cu71 := u7_41.cell (j := 1) rfl
                have cu72 := u7_41.cell (j := 2) rfl
                have cu73 := u7_41.cell (j := 3) rfl
                have HLH := Lib.hid (fun h0 => fl_lt fl_41 h0)
                go_wp2_with (first
                  | (with_reducible refine wpList_alloc_row (o := ⟨some 21, _, _, _, _, _⟩) rfl _ rfl zeroO zero_so ?_; intro w42 a21_42 s42 g42; have k42 : Below w41.heap.size w41 w42 := grown_below g42 (Nat.le_refl _) (by simp); have B42 := B41.trans (k42.mono B41.size); have f6_42 := f6_41.on k42; have u7_42 := u7_41.on k42; have h19_42 := h19_41.on k42; have fl_42 := fl_41.on k42; clear f6_41 u7_41 h19_41 fl_41; have cu70 := u7_42.cell (j := 0) rfl; have cu71 := u7_42.cell (j := 1) rfl; have cu72 := u7_42.cell (j := 2) rfl; have cu73 := u7_42.cell (j := 3) rfl)
                  | ((with_reducible refine wpList_at ⟨none, .store _ (.tmp 21) _, _, _, _, _⟩ ?_); refine wpList_store_all rfl _ _ _ rfl (w41.heap.size) rfl _ _ a21_42 (S.cs) rfl (S.cs_one) rfl (by kernel_rfl) ?_; intro w43 a21_43 g43; have f6_43 := f6_42.kept g43 (by simp; omega); have u7_43 := u7_42.kept g43 (by simp; omega); have h19_43 := h19_42.kept g43 (by simp; omega); have fl_43 := fl_kept fl_42 g43 (fun h0 ad e' => by have := HLH.out h0 ad e'; omega); have B43 := below_kept B42 g43 B42.size (by rintro q hq; cases hq; omega); have sz43 := g43.size; clear f6_42 u7_42 h19_42 fl_42; have cu70 := u7_43.cell (j := 0) rfl; have cu71 := u7_43.cell (j := 1) rfl; have cu72 := u7_43.cell (j := 2) rfl; have cu73 := u7_43.cell (j := 3) rfl)
                  | ((with_reducible refine wpList_at ⟨some 135, _, _, _, _, _⟩ ?_); refine wpList_valueG rfl _ (by exact exec_loadFl _ _ rfl (gH) rfl Ah nh ch h19_43) ?_))
                have l44f6 := f6_43.lt
                have l44u7 := u7_43.lt
                have l44h19 := h19_43.lt
                have l44a21 := a21_43.lt
                have lB44 := B43.size
                refine (HHK _ (hK.on B43) fl_43).out.mono ?_
                rintro e w44 ⟨rfl, h44⟩
                have hs44 := h44.size
                have B44 := B43.trans (h44.mono B43.size)
                have f6_44 := f6_43.on h44
                have u7_44 := u7_43.on h44
                have h19_44 := h19_43.on h44
                have fl_44 := fl_43.on h44
                have a21_44 := a21_43.on h44
                clear f6_43 u7_43 h19_43 fl_43 a21_43
                have cu70 := u7_44.cell (j := 0) rfl
                have cu71 := u7_44.cell (j := 1) rfl
                have cu72 := u7_44.cell (j := 2) rfl
                have cu73 := u7_44.cell (j := 3) rfl
                go_wp2_with (first
                  | (with_reducible refine wpList_alloc_row (o := ⟨some 23, _, _, _, _, _⟩) rfl _ rfl zeroO zero_so ?_; intro w45 b23_45 s45 g45; have k45 : Below w44.heap.size w44 w45 := grown_below g45 (Nat.le_refl _) (by simp); have B45 := B44.trans (k45.mono B44.size); have f6_45 := f6_44.on k45; have u7_45 := u7_44.on k45; have h19_45 := h19_44.on k45; have a21_45 := a21_44.on k45; clear f6_44 u7_44 h19_44 a21_44; have cu70 := u7_45.cell (j := 0) rfl; have cu71 := u7_45.cell (j := 1) rfl; have cu72 := u7_45.cell (j := 2) rfl; have cu73 := u7_45.cell (j := 3) rfl)
                  | ((with_reducible refine wpList_at ⟨none, .store _ (.tmp 23) _, _, _, _, _⟩ ?_); refine wpList_store_all rfl _ _ _ rfl (w44.heap.size) rfl _ _ b23_45 (S.cs) rfl (S.cs_one) rfl (by kernel_rfl) ?_; intro w46 b23_46 g46; have f6_46 := f6_45.kept g46 (by simp; omega); have u7_46 := u7_45.kept g46 (by simp; omega); have h19_46 := h19_45.kept g46 (by simp; omega); have a21_46 := a21_45.kept g46 (by simp; omega); have B46 := below_kept B45 g46 B45.size (by rintro q hq; cases hq; omega); have sz46 := g46.size; clear f6_45 u7_45 h19_45 a21_45; have cu70 := u7_46.cell (j := 0) rfl; have cu71 := u7_46.cell (j := 1) rfl; have cu72 := u7_46.cell (j := 2) rfl; have cu73 := u7_46.cell (j := 3) rfl)
                  | ((with_reducible refine wpList_at ⟨some 141, _, _, _, _, _⟩ ?_); refine wpList_valueG rfl _ (by exact exec_loadO _ _ rfl (w44.heap.size) rfl S b23_46) ?_)
                  | ((with_reducible refine wpList_at ⟨some 142, _, _, _, _, _⟩ ?_); refine wpList_valueG rfl _ (by exact exec_loadO _ _ rfl (w41.heap.size) rfl S a21_46) ?_)
                  | ((with_reducible refine wpList_at ⟨some 143, _, _, _, _, _⟩ ?_); refine wpList_valueG rfl _ (by exact exec_eqlS _ _ _ rfl S rfl rfl) ?_))
                go_ret
                exact ⟨rfl, B46⟩
        · have hq : (fi != 16 * u.r) = true := by rw [hff]; simp only [bne_iff_ne, ne_eq]; omega
          have hq2 : (fi != 16 * u.r + 8) = false := by rw [hff]; simp
          clear hff
          cases hw : R.w with
          | true =>
            have hl : (lV fi b k != fi) = false := by
              have h1 := (HWH hw).out
              have h2 := HLEN.out
              rw [show k = (16 + stCnt b) + 1 by omega, lV_hi fi b (by omega), show 16 + stCnt b - 16 = stCnt b by omega, HLL.out]
              simp
            clear hw
            go_wp2_with fail
            refine (HF0 _).out.mono ?_
            rintro e _ ⟨rfl, rfl⟩
            go_wp2_with fail
            refine (HF1 _).out.mono ?_
            rintro e _ ⟨rfl, rfl⟩
            go_wp2_with (first
              | ((with_reducible refine wpList_at ⟨some 112, _, _, _, _, _⟩ ?_); refine wpList_valueG rfl _ (by exact exec_loadFl _ _ rfl (w2.heap.size) rfl A' n' c' g8) ?_)
              | (with_reducible refine wpList_alloc_row (o := ⟨some 19, _, _, _, _, _⟩) rfl _ rfl [.slice none 0 0] (by kernel_rfl) ?_; intro w21 h19_21 s21 g21; have k21 : Below wr.heap.size wr w21 := grown_below g21 (Nat.le_refl _) (by simp); have B21 := hB.trans (k21.mono hB.size); have f6_21 := f6.on k21; have u7_21 := u7.on k21; have g8_21 := g8.on k21; have fl_21 := fg0.on k21; have cu70 := u7_21.cell (j := 0) rfl; have cu71 := u7_21.cell (j := 1) rfl; have cu72 := u7_21.cell (j := 2) rfl; have cu73 := u7_21.cell (j := 3) rfl)
              | ((with_reducible refine wpList_at ⟨none, .store _ (.tmp 19) _, _, _, _, _⟩ ?_); refine wpList_store_all rfl _ _ _ rfl (wr.heap.size) rfl _ _ h19_21 ([.slice A' n' c']) rfl (slice_one _ _ _) rfl (by kernel_rfl) ?_; intro w22 h19_22 g22; have f6_22 := f6_21.kept g22 (by simp; omega); have u7_22 := u7_21.kept g22 (by simp; omega); have g8_22 := g8_21.kept g22 (by simp; omega); have fl_22 := fl_kept fl_21 g22 (fun h0 => fl_ne fl_21 h0 h19_21); have B22 := below_kept B21 g22 B21.size (by rintro q hq; cases hq; omega); have sz22 := g22.size; clear f6_21 u7_21 g8_21 fl_21; have cu70 := u7_22.cell (j := 0) rfl; have cu71 := u7_22.cell (j := 1) rfl; have cu72 := u7_22.cell (j := 2) rfl; have cu73 := u7_22.cell (j := 3) rfl))
            generalize wr.heap.size = gH at *
            have lh19 := h19_22.lt
            go_loopg [113] 8 (fun g s113 wi => ∃ (k : Nat) (Ah : Option Addr) (nh ch : Nat), Hid (k + g = 8) ∧ k ≤ 8 ∧ s113 = .int .i64 (k : Int) ∧ Row wi (W.heap.size) 28 [.slice A n c] ∧ Row wi (w1.heap.size) 30 u.cs ∧ Row wi (gH) 28 [.slice Ah nh ch] ∧ FlOK wi Ah nh ch (clr R.m fi k) ∧ Below W.heap.size W wi)
            case atStart => exact ⟨0, A', n', c', by show _ = _; omega, by omega, rfl, f6_22, u7_22, h19_22, fl_22, B22⟩
            case round =>
              obtain ⟨k2, Ah, nh, ch, HK2, hk2, rfl, f6i, u7i, h19i, fli, hBi⟩ := hrel
              have lf6i := f6i.lt
              have lu7i := u7i.lt
              have lh19i := h19i.lt
              have lBi := hBi.size
              have cu70 := u7i.cell (j := 0) rfl
              by_cases hlk : k2 < 8
              · skip
                have HMB : StOK (clr R.m fi k2) := (clr_read HOK.out hf0 (by omega) k2 (by omega)).1
                have hnh : nh ≤ 1000000 := by have := fli.len; have := HMB.1; omega
                have HWR := fun X h => Lib.hid (lwrite_any Ah nh ch (clr R.m fi k2) (fi + (k2 : Int)) (fullS 0) (-1) X h hnh)
                rw [← clr_succ] at HWR
                have HZU : Hid (List.replicate 256 (Value.int .u8 0) = bvs (List.replicate 256 0)) := Lib.hid (by unfold bvs; rw [List.map_replicate]; rfl)
                clear HMB hnh
                go_wp2_with fail
                have hBd := hBi.drew
                have f6id := f6i.drew
                have u7id := u7i.drew
                have h19id := h19i.drew
                have flid : FlOK wr.drew Ah nh ch (clr R.m fi k2) := fli
                refine wp_region_plan (fun _ => True) (.take 1 <| .take 2 <| .take 3 <| .two 0 (.one 4 <| .one 5 <| .one 6 <| .take 7 <| .take 8 <| .take 9 <| .one 10 <| .done) 4 (.two 0 (.one 5 <| .one 6 <| .take 7 <| .take 8 <| .take 9 <| .one 10 <| .done) 5 (.one 0 <| .one 6 <| .take 7 <| .take 8 <| .take 9 <| .one 10 <| .done))) (by kernel_rfl) (by kernel_rfl) (by kernel_rfl) (fun _ _ _ _ _ h => h) trivial ?_
                repeat (refine plan_take _ rfl ?_; (go_big_quiet_step ((intros; rfl)); refine wpQuiet_nil ?_))
                refine plan_two ?_ ?_
                · refine step_at _ rfl fun K hK => ?_
                  refine step_valueG (o := ⟨some 117, _, _, _, _, _⟩) rfl _ _ (by exact exec_loadFl _ _ rfl (gH) rfl Ah nh ch h19id) ?_
                  refine hK _ _ trivial ?_
                  clear hK K
                  simp only [Act.put, List.setIfInBounds_toArray, List.set_cons_zero, List.set_cons_succ]
                  refine plan_one _ rfl fun K hK => ?_
                  refine step_make_row rfl _ _ _ rfl 5 Tryd.underlying42 (.int .u8 0) rfl 1 (by kernel_rfl) .i64 .i64 256 256 rfl rfl (Nat.le_refl _) (by omega) (by omega) ?_
                  intro wu17 ru17 su17 gu17
                  have hu17 := grown_below gu17 (Nat.le_refl _) (by simp)
                  rw [HZU.out] at ru17
                  have rdu17 := ru17.reads (size := 1) (n := 256) (by rw [bvs_length, List.length_replicate])
                  have f6u17 := f6id.on hu17
                  have u7u17 := u7id.on hu17
                  have h19u17 := h19id.on hu17
                  have flu17 := flid.on hu17
                  have bu17 := hBd.trans (hu17.mono hBd.size)
                  have zu17 := hu17.size
                  refine hK _ _ trivial ?_
                  clear hK K
                  simp only [Act.put, List.setIfInBounds_toArray, List.set_cons_zero, List.set_cons_succ]
                  refine plan_one _ rfl fun K hK => ?_
                  refine step_valueG (o := ⟨some 122, _, _, _, _, _⟩) rfl _ _ (by exact exec_string_of _ 42 9 5 _ rfl Tryd.underlying42 Tryd.underlying5 Tryd.underlying9 rfl rdu17) ?_
                  refine hK _ _ trivial ?_
                  clear hK K
                  simp only [Act.put, List.setIfInBounds_toArray, List.set_cons_zero, List.set_cons_succ]
                  refine plan_one _ rfl fun K hK => ?_
                  go_simp
                  refine (HWR _ flu17).out.mono ?_
                  rintro e wu18 ⟨Aw, nw, cw, rfl, fwu18, hu18⟩
                  have f6u18 := f6u17.on hu18
                  have u7u18 := u7u17.on hu18
                  have h19u18 := h19u17.on hu18
                  have bu18 := bu17.trans (hu18.mono bu17.size)
                  have zu18 := hu18.size
                  refine hK _ _ trivial ?_
                  clear hK K
                  repeat (refine plan_take _ rfl ?_; (go_big_quiet_step ((intros; rfl)); refine wpQuiet_nil ?_))
                  refine plan_one _ rfl fun K hK => ?_
                  have lqu19 := h19u18.lt
                  refine step_store_all rfl _ _ _ rfl (gH) rfl _ _ h19u18 ([.slice Aw nw cw]) rfl (slice_one _ _ _) rfl (by kernel_rfl) ?_
                  intro wu19 hqu19 gu19
                  have fwu19 := fl_kept fwu18 gu19 (fun h0 => fl_ne fwu18 h0 h19u18)
                  have f6u19 := f6u18.kept gu19 (by simp; omega)
                  have u7u19 := u7u18.kept gu19 (by simp; omega)
                  have bu19 := below_kept bu18 gu19 bu18.size (by rintro z hz; cases hz; omega)
                  refine hK _ _ trivial ?_
                  clear hK K
                  refine plan_done ?_
                  go_wp2_with fail
                  go_roundg (gk - 1)
                  case measure => have := HK2.out; omega
                  case rel =>
                    exact ⟨k2 + 1, Aw, nw, cw, by have := HK2.out; show _ = _; omega, by omega, by go_num, f6u19, u7u19, hqu19, fwu19, bu19⟩
                · refine step_at _ rfl fun K hK => ?_
                  refine step_make_row rfl _ _ _ rfl 5 Tryd.underlying42 (.int .u8 0) rfl 1 (by kernel_rfl) .i64 .i64 256 256 rfl rfl (Nat.le_refl _) (by omega) (by omega) ?_
                  intro wu20 ru20 su20 gu20
                  have hu20 := grown_below gu20 (Nat.le_refl _) (by simp)
                  rw [HZU.out] at ru20
                  have rdu20 := ru20.reads (size := 1) (n := 256) (by rw [bvs_length, List.length_replicate])
                  have f6u20 := f6id.on hu20
                  have u7u20 := u7id.on hu20
                  have h19u20 := h19id.on hu20
                  have flu20 := flid.on hu20
                  have bu20 := hBd.trans (hu20.mono hBd.size)
                  have zu20 := hu20.size
                  refine hK _ _ trivial ?_
                  clear hK K
                  simp only [Act.put, List.setIfInBounds_toArray, List.set_cons_zero, List.set_cons_succ]
                  refine plan_two ?_ ?_
                  · refine step_at _ rfl fun K hK => ?_
                    refine step_valueG (o := ⟨some 117, _, _, _, _, _⟩) rfl _ _ (by exact exec_loadFl _ _ rfl (gH) rfl Ah nh ch h19u20) ?_
                    refine hK _ _ trivial ?_
                    clear hK K
                    simp only [Act.put, List.setIfInBounds_toArray, List.set_cons_zero, List.set_cons_succ]
                    refine plan_one _ rfl fun K hK => ?_
                    refine step_valueG (o := ⟨some 122, _, _, _, _, _⟩) rfl _ _ (by exact exec_string_of _ 42 9 5 _ rfl Tryd.underlying42 Tryd.underlying5 Tryd.underlying9 rfl rdu20) ?_
                    refine hK _ _ trivial ?_
                    clear hK K
                    simp only [Act.put, List.setIfInBounds_toArray, List.set_cons_zero, List.set_cons_succ]
                    refine plan_one _ rfl fun K hK => ?_
                    go_simp
                    refine (HWR _ flu20).out.mono ?_
                    rintro e wu21 ⟨Aw, nw, cw, rfl, fwu21, hu21⟩
                    have f6u21 := f6u20.on hu21
                    have u7u21 := u7u20.on hu21
                    have h19u21 := h19u20.on hu21
                    have bu21 := bu20.trans (hu21.mono bu20.size)
                    have zu21 := hu21.size
                    refine hK _ _ trivial ?_
                    clear hK K
                    repeat (refine plan_take _ rfl ?_; (go_big_quiet_step ((intros; rfl)); refine wpQuiet_nil ?_))
                    refine plan_one _ rfl fun K hK => ?_
                    have lqu22 := h19u21.lt
                    refine step_store_all rfl _ _ _ rfl (gH) rfl _ _ h19u21 ([.slice Aw nw cw]) rfl (slice_one _ _ _) rfl (by kernel_rfl) ?_
                    intro wu22 hqu22 gu22
                    have fwu22 := fl_kept fwu21 gu22 (fun h0 => fl_ne fwu21 h0 h19u21)
                    have f6u22 := f6u21.kept gu22 (by simp; omega)
                    have u7u22 := u7u21.kept gu22 (by simp; omega)
                    have bu22 := below_kept bu21 gu22 bu21.size (by rintro z hz; cases hz; omega)
                    refine hK _ _ trivial ?_
                    clear hK K
                    refine plan_done ?_
                    go_wp2_with fail
                    go_roundg (gk - 1)
                    case measure => have := HK2.out; omega
                    case rel =>
                      exact ⟨k2 + 1, Aw, nw, cw, by have := HK2.out; show _ = _; omega, by omega, by go_num, f6u22, u7u22, hqu22, fwu22, bu22⟩
                  · refine step_at _ rfl fun K hK => ?_
                    refine step_valueG (o := ⟨some 122, _, _, _, _, _⟩) rfl _ _ (by exact exec_string_of _ 42 9 5 _ rfl Tryd.underlying42 Tryd.underlying5 Tryd.underlying9 rfl rdu20) ?_
                    refine hK _ _ trivial ?_
                    clear hK K
                    simp only [Act.put, List.setIfInBounds_toArray, List.set_cons_zero, List.set_cons_succ]
                    refine plan_one _ rfl fun K hK => ?_
                    refine step_valueG (o := ⟨some 117, _, _, _, _, _⟩) rfl _ _ (by exact exec_loadFl _ _ rfl (gH) rfl Ah nh ch h19u20) ?_
                    refine hK _ _ trivial ?_
                    clear hK K
                    simp only [Act.put, List.setIfInBounds_toArray, List.set_cons_zero, List.set_cons_succ]
                    refine plan_one _ rfl fun K hK => ?_
                    go_simp
                    refine (HWR _ flu20).out.mono ?_
                    rintro e wu23 ⟨Aw, nw, cw, rfl, fwu23, hu23⟩
                    have f6u23 := f6u20.on hu23
                    have u7u23 := u7u20.on hu23
                    have h19u23 := h19u20.on hu23
                    have bu23 := bu20.trans (hu23.mono bu20.size)
                    have zu23 := hu23.size
                    refine hK _ _ trivial ?_
                    clear hK K
                    repeat (refine plan_take _ rfl ?_; (go_big_quiet_step ((intros; rfl)); refine wpQuiet_nil ?_))
                    refine plan_one _ rfl fun K hK => ?_
                    have lqu24 := h19u23.lt
                    refine step_store_all rfl _ _ _ rfl (gH) rfl _ _ h19u23 ([.slice Aw nw cw]) rfl (slice_one _ _ _) rfl (by kernel_rfl) ?_
                    intro wu24 hqu24 gu24
                    have fwu24 := fl_kept fwu23 gu24 (fun h0 => fl_ne fwu23 h0 h19u23)
                    have f6u24 := f6u23.kept gu24 (by simp; omega)
                    have u7u24 := u7u23.kept gu24 (by simp; omega)
                    have bu24 := below_kept bu23 gu24 bu23.size (by rintro z hz; cases hz; omega)
                    refine hK _ _ trivial ?_
                    clear hK K
                    refine plan_done ?_
                    go_wp2_with fail
                    go_roundg (gk - 1)
                    case measure => have := HK2.out; omega
                    case rel =>
                      exact ⟨k2 + 1, Aw, nw, cw, by have := HK2.out; show _ = _; omega, by omega, by go_num, f6u24, u7u24, hqu24, fwu24, bu24⟩
              · obtain rfl : k2 = 8 := by omega
                have HMB : StOK (clr R.m fi 8) := (clr_read HOK.out hf0 (by omega) 8 (Nat.le_refl _)).1
                have hsz8 : ∀ s ∈ clr R.m fi 8, s.size ≤ 400 := fun s hs => by have := HMB.2 s hs; omega
                have HHK := fun X h1 h2 => Lib.hid (lget_any Ah nh ch (clr R.m fi 8) u.r X HIN.out h1 h2 hsz8)
                have HGK := fun X h => HG u.r X HIN.out h
                rw [HCL.out] at HHK
                generalize stSt fs u.r = S at *
                clear HMB hsz8
                go_wp2_with ((with_reducible refine wpList_at ⟨some 128, _, _, _, _, _⟩ ?_); refine wpList_valueG rfl _ (by exact exec_loadFl _ _ rfl (W.heap.size) rfl A n c f6i) ?_)
                have l41f6 := f6i.lt
                have l41u7 := u7i.lt
                have l41h19 := h19i.lt
                have lB41 := hBi.size
                refine (HGK _ hBi).out.mono ?_
                rintro e w41 ⟨rfl, h41⟩
                have hs41 := h41.size
                have B41 := hBi.trans (h41.mono hBi.size)
                have f6_41 := f6i.on h41
                have u7_41 := u7i.on h41
                have h19_41 := h19i.on h41
                have fl_41 := fli.on h41
                have cu70 := u7_41.cell (j := 0) rfl
                have cu71 := u7_41.cell (j := 1) rfl
                have cu72 := u7_41.cell (j := 2) rfl
                have cu73 := u7_41.cell (j := 3) rfl
                have HLH := Lib.hid (fun h0 => fl_lt fl_41 h0)
                go_wp2_with (first
                  | (with_reducible refine wpList_alloc_row (o := ⟨some 21, _, _, _, _, _⟩) rfl _ rfl zeroO zero_so ?_; intro w42 a21_42 s42 g42; have k42 : Below w41.heap.size w41 w42 := grown_below g42 (Nat.le_refl _) (by simp); have B42 := B41.trans (k42.mono B41.size); have f6_42 := f6_41.on k42; have u7_42 := u7_41.on k42; have h19_42 := h19_41.on k42; have fl_42 := fl_41.on k42; clear f6_41 u7_41 h19_41 fl_41; have cu70 := u7_42.cell (j := 0) rfl; have cu71 := u7_42.cell (j := 1) rfl; have cu72 := u7_42.cell (j := 2) rfl; have cu73 := u7_42.cell (j := 3) rfl)
                  | ((with_reducible refine wpList_at ⟨none, .store _ (.tmp 21) _, _, _, _, _⟩ ?_); refine wpList_store_all rfl _ _ _ rfl (w41.heap.size) rfl _ _ a21_42 (S.cs) rfl (S.cs_one) rfl (by kernel_rfl) ?_; intro w43 a21_43 g43; have f6_43 := f6_42.kept g43 (by simp; omega); have u7_43 := u7_42.kept g43 (by simp; omega); have h19_43 := h19_42.kept g43 (by simp; omega); have fl_43 := fl_kept fl_42 g43 (fun h0 ad e' => by have := HLH.out h0 ad e'; omega); have B43 := below_kept B42 g43 B42.size (by rintro q hq; cases hq; omega); have sz43 := g43.size; clear f6_42 u7_42 h19_42 fl_42; have cu70 := u7_43.cell (j := 0) rfl; have cu71 := u7_43.cell (j := 1) rfl; have cu72 := u7_43.cell (j := 2) rfl; have cu73 := u7_43.cell (j := 3) rfl)
                  | ((with_reducible refine wpList_at ⟨some 135, _, _, _, _, _⟩ ?_); refine wpList_valueG rfl _ (by exact exec_loadFl _ _ rfl (gH) rfl Ah nh ch h19_43) ?_))
                have l44f6 := f6_43.lt
                have l44u7 := u7_43.lt
                have l44h19 := h19_43.lt
                have l44a21 := a21_43.lt
                have lB44 := B43.size
                refine (HHK _ (hK.on B43) fl_43).out.mono ?_
                rintro e w44 ⟨rfl, h44⟩
                have hs44 := h44.size
                have B44 := B43.trans (h44.mono B43.size)
                have f6_44 := f6_43.on h44
                have u7_44 := u7_43.on h44
                have h19_44 := h19_43.on h44
                have fl_44 := fl_43.on h44
                have a21_44 := a21_43.on h44
                clear f6_43 u7_43 h19_43 fl_43 a21_43
                have cu70 := u7_44.cell (j := 0) rfl
                have cu71 := u7_44.cell (j := 1) rfl
                have cu72 := u7_44.cell (j := 2) rfl
                have cu73 := u7_44.cell (j := 3) rfl
                go_wp2_with (first
                  | (with_reducible refine wpList_alloc_row (o := ⟨some 23, _, _, _, _, _⟩) rfl _ rfl zeroO zero_so ?_; intro w45 b23_45 s45 g45; have k45 : Below w44.heap.size w44 w45 := grown_below g45 (Nat.le_refl _) (by simp); have B45 := B44.trans (k45.mono B44.size); have f6_45 := f6_44.on k45; have u7_45 := u7_44.on k45; have h19_45 := h19_44.on k45; have a21_45 := a21_44.on k45; clear f6_44 u7_44 h19_44 a21_44; have cu70 := u7_45.cell (j := 0) rfl; have cu71 := u7_45.cell (j := 1) rfl; have cu72 := u7_45.cell (j := 2) rfl; have cu73 := u7_45.cell (j := 3) rfl)
                  | ((with_reducible refine wpList_at ⟨none, .store _ (.tmp 23) _, _, _, _, _⟩ ?_); refine wpList_store_all rfl _ _ _ rfl (w44.heap.size) rfl _ _ b23_45 (S.cs) rfl (S.cs_one) rfl (by kernel_rfl) ?_; intro w46 b23_46 g46; have f6_46 := f6_45.kept g46 (by simp; omega); have u7_46 := u7_45.kept g46 (by simp; omega); have h19_46 := h19_45.kept g46 (by simp; omega); have a21_46 := a21_45.kept g46 (by simp; omega); have B46 := below_kept B45 g46 B45.size (by rintro q hq; cases hq; omega); have sz46 := g46.size; clear f6_45 u7_45 h19_45 a21_45; have cu70 := u7_46.cell (j := 0) rfl; have cu71 := u7_46.cell (j := 1) rfl; have cu72 := u7_46.cell (j := 2) rfl; have cu73 := u7_46.cell (j := 3) rfl)
                  | ((with_reducible refine wpList_at ⟨some 141, _, _, _, _, _⟩ ?_); refine wpList_valueG rfl _ (by exact exec_loadO _ _ rfl (w44.heap.size) rfl S b23_46) ?_)
                  | ((with_reducible refine wpList_at ⟨some 142, _, _, _, _, _⟩ ?_); refine wpList_valueG rfl _ (by exact exec_loadO _ _ rfl (w41.heap.size) rfl S a21_46) ?_)
                  | ((with_reducible refine wpList_at ⟨some 143, _, _, _, _, _⟩ ?_); refine wpList_valueG rfl _ (by exact exec_eqlS _ _ _ rfl S rfl rfl) ?_))
                go_ret
                exact ⟨rfl, B46⟩
          | false =>
            clear hw
            go_wp2_with fail
            refine (HF0 _).out.mono ?_
            rintro e _ ⟨rfl, rfl⟩
            go_wp2_with fail
            refine (HF1 _).out.mono ?_
            rintro e _ ⟨rfl, rfl⟩
            go_wp2_with (first
              | ((with_reducible refine wpList_at ⟨some 112, _, _, _, _, _⟩ ?_); refine wpList_valueG rfl _ (by exact exec_loadFl _ _ rfl (w2.heap.size) rfl A' n' c' g8) ?_)
              | (with_reducible refine wpList_alloc_row (o := ⟨some 19, _, _, _, _, _⟩) rfl _ rfl [.slice none 0 0] (by kernel_rfl) ?_; intro w21 h19_21 s21 g21; have k21 : Below wr.heap.size wr w21 := grown_below g21 (Nat.le_refl _) (by simp); have B21 := hB.trans (k21.mono hB.size); have f6_21 := f6.on k21; have u7_21 := u7.on k21; have g8_21 := g8.on k21; have fl_21 := fg0.on k21; have cu70 := u7_21.cell (j := 0) rfl; have cu71 := u7_21.cell (j := 1) rfl; have cu72 := u7_21.cell (j := 2) rfl; have cu73 := u7_21.cell (j := 3) rfl)
              | ((with_reducible refine wpList_at ⟨none, .store _ (.tmp 19) _, _, _, _, _⟩ ?_); refine wpList_store_all rfl _ _ _ rfl (wr.heap.size) rfl _ _ h19_21 ([.slice A' n' c']) rfl (slice_one _ _ _) rfl (by kernel_rfl) ?_; intro w22 h19_22 g22; have f6_22 := f6_21.kept g22 (by simp; omega); have u7_22 := u7_21.kept g22 (by simp; omega); have g8_22 := g8_21.kept g22 (by simp; omega); have fl_22 := fl_kept fl_21 g22 (fun h0 => fl_ne fl_21 h0 h19_21); have B22 := below_kept B21 g22 B21.size (by rintro q hq; cases hq; omega); have sz22 := g22.size; clear f6_21 u7_21 g8_21 fl_21; have cu70 := u7_22.cell (j := 0) rfl; have cu71 := u7_22.cell (j := 1) rfl; have cu72 := u7_22.cell (j := 2) rfl; have cu73 := u7_22.cell (j := 3) rfl))
            generalize wr.heap.size = gH at *
            have lh19 := h19_22.lt
            go_loopg [113] 8 (fun g s113 wi => ∃ (k : Nat) (Ah : Option Addr) (nh ch : Nat), Hid (k + g = 8) ∧ k ≤ 8 ∧ s113 = .int .i64 (k : Int) ∧ Row wi (W.heap.size) 28 [.slice A n c] ∧ Row wi (w1.heap.size) 30 u.cs ∧ Row wi (gH) 28 [.slice Ah nh ch] ∧ FlOK wi Ah nh ch (clr R.m fi k) ∧ Below W.heap.size W wi)
            case atStart => exact ⟨0, A', n', c', by show _ = _; omega, by omega, rfl, f6_22, u7_22, h19_22, fl_22, B22⟩
            case round =>
              obtain ⟨k2, Ah, nh, ch, HK2, hk2, rfl, f6i, u7i, h19i, fli, hBi⟩ := hrel
              have lf6i := f6i.lt
              have lu7i := u7i.lt
              have lh19i := h19i.lt
              have lBi := hBi.size
              have cu70 := u7i.cell (j := 0) rfl
              by_cases hlk : k2 < 8
              · skip
                have HMB : StOK (clr R.m fi k2) := (clr_read HOK.out hf0 (by omega) k2 (by omega)).1
                have hnh : nh ≤ 1000000 := by have := fli.len; have := HMB.1; omega
                have HWR := fun X h => Lib.hid (lwrite_any Ah nh ch (clr R.m fi k2) (fi + (k2 : Int)) (fullS 0) (-1) X h hnh)
                rw [← clr_succ] at HWR
                have HZU : Hid (List.replicate 256 (Value.int .u8 0) = bvs (List.replicate 256 0)) := Lib.hid (by unfold bvs; rw [List.map_replicate]; rfl)
                clear HMB hnh
                go_wp2_with fail
                have hBd := hBi.drew
                have f6id := f6i.drew
                have u7id := u7i.drew
                have h19id := h19i.drew
                have flid : FlOK wr.drew Ah nh ch (clr R.m fi k2) := fli
                refine wp_region_plan (fun _ => True) (.take 1 <| .take 2 <| .take 3 <| .two 0 (.one 4 <| .one 5 <| .one 6 <| .take 7 <| .take 8 <| .take 9 <| .one 10 <| .done) 4 (.two 0 (.one 5 <| .one 6 <| .take 7 <| .take 8 <| .take 9 <| .one 10 <| .done) 5 (.one 0 <| .one 6 <| .take 7 <| .take 8 <| .take 9 <| .one 10 <| .done))) (by kernel_rfl) (by kernel_rfl) (by kernel_rfl) (fun _ _ _ _ _ h => h) trivial ?_
                repeat (refine plan_take _ rfl ?_; (go_big_quiet_step ((intros; rfl)); refine wpQuiet_nil ?_))
                refine plan_two ?_ ?_
                · refine step_at _ rfl fun K hK => ?_
                  refine step_valueG (o := ⟨some 117, _, _, _, _, _⟩) rfl _ _ (by exact exec_loadFl _ _ rfl (gH) rfl Ah nh ch h19id) ?_
                  refine hK _ _ trivial ?_
                  clear hK K
                  simp only [Act.put, List.setIfInBounds_toArray, List.set_cons_zero, List.set_cons_succ]
                  refine plan_one _ rfl fun K hK => ?_
                  refine step_make_row rfl _ _ _ rfl 5 Tryd.underlying42 (.int .u8 0) rfl 1 (by kernel_rfl) .i64 .i64 256 256 rfl rfl (Nat.le_refl _) (by omega) (by omega) ?_
                  intro wu25 ru25 su25 gu25
                  have hu25 := grown_below gu25 (Nat.le_refl _) (by simp)
                  rw [HZU.out] at ru25
                  have rdu25 := ru25.reads (size := 1) (n := 256) (by rw [bvs_length, List.length_replicate])
                  have f6u25 := f6id.on hu25
                  have u7u25 := u7id.on hu25
                  have h19u25 := h19id.on hu25
                  have flu25 := flid.on hu25
                  have bu25 := hBd.trans (hu25.mono hBd.size)
                  have zu25 := hu25.size
                  refine hK _ _ trivial ?_
                  clear hK K
                  simp only [Act.put, List.setIfInBounds_toArray, List.set_cons_zero, List.set_cons_succ]
                  refine plan_one _ rfl fun K hK => ?_
                  refine step_valueG (o := ⟨some 122, _, _, _, _, _⟩) rfl _ _ (by exact exec_string_of _ 42 9 5 _ rfl Tryd.underlying42 Tryd.underlying5 Tryd.underlying9 rfl rdu25) ?_
                  refine hK _ _ trivial ?_
                  clear hK K
                  simp only [Act.put, List.setIfInBounds_toArray, List.set_cons_zero, List.set_cons_succ]
                  refine plan_one _ rfl fun K hK => ?_
                  go_simp
                  refine (HWR _ flu25).out.mono ?_
                  rintro e wu26 ⟨Aw, nw, cw, rfl, fwu26, hu26⟩
                  have f6u26 := f6u25.on hu26
                  have u7u26 := u7u25.on hu26
                  have h19u26 := h19u25.on hu26
                  have bu26 := bu25.trans (hu26.mono bu25.size)
                  have zu26 := hu26.size
                  refine hK _ _ trivial ?_
                  clear hK K
                  repeat (refine plan_take _ rfl ?_; (go_big_quiet_step ((intros; rfl)); refine wpQuiet_nil ?_))
                  refine plan_one _ rfl fun K hK => ?_
                  have lqu27 := h19u26.lt
                  refine step_store_all rfl _ _ _ rfl (gH) rfl _ _ h19u26 ([.slice Aw nw cw]) rfl (slice_one _ _ _) rfl (by kernel_rfl) ?_
                  intro wu27 hqu27 gu27
                  have fwu27 := fl_kept fwu26 gu27 (fun h0 => fl_ne fwu26 h0 h19u26)
                  have f6u27 := f6u26.kept gu27 (by simp; omega)
                  have u7u27 := u7u26.kept gu27 (by simp; omega)
                  have bu27 := below_kept bu26 gu27 bu26.size (by rintro z hz; cases hz; omega)
                  refine hK _ _ trivial ?_
                  clear hK K
                  refine plan_done ?_
                  go_wp2_with fail
                  go_roundg (gk - 1)
                  case measure => have := HK2.out; omega
                  case rel =>
                    exact ⟨k2 + 1, Aw, nw, cw, by have := HK2.out; show _ = _; omega, by omega, by go_num, f6u27, u7u27, hqu27, fwu27, bu27⟩
                · refine step_at _ rfl fun K hK => ?_
                  refine step_make_row rfl _ _ _ rfl 5 Tryd.underlying42 (.int .u8 0) rfl 1 (by kernel_rfl) .i64 .i64 256 256 rfl rfl (Nat.le_refl _) (by omega) (by omega) ?_
                  intro wu28 ru28 su28 gu28
                  have hu28 := grown_below gu28 (Nat.le_refl _) (by simp)
                  rw [HZU.out] at ru28
                  have rdu28 := ru28.reads (size := 1) (n := 256) (by rw [bvs_length, List.length_replicate])
                  have f6u28 := f6id.on hu28
                  have u7u28 := u7id.on hu28
                  have h19u28 := h19id.on hu28
                  have flu28 := flid.on hu28
                  have bu28 := hBd.trans (hu28.mono hBd.size)
                  have zu28 := hu28.size
                  refine hK _ _ trivial ?_
                  clear hK K
                  simp only [Act.put, List.setIfInBounds_toArray, List.set_cons_zero, List.set_cons_succ]
                  refine plan_two ?_ ?_
                  · refine step_at _ rfl fun K hK => ?_
                    refine step_valueG (o := ⟨some 117, _, _, _, _, _⟩) rfl _ _ (by exact exec_loadFl _ _ rfl (gH) rfl Ah nh ch h19u28) ?_
                    refine hK _ _ trivial ?_
                    clear hK K
                    simp only [Act.put, List.setIfInBounds_toArray, List.set_cons_zero, List.set_cons_succ]
                    refine plan_one _ rfl fun K hK => ?_
                    refine step_valueG (o := ⟨some 122, _, _, _, _, _⟩) rfl _ _ (by exact exec_string_of _ 42 9 5 _ rfl Tryd.underlying42 Tryd.underlying5 Tryd.underlying9 rfl rdu28) ?_
                    refine hK _ _ trivial ?_
                    clear hK K
                    simp only [Act.put, List.setIfInBounds_toArray, List.set_cons_zero, List.set_cons_succ]
                    refine plan_one _ rfl fun K hK => ?_
                    go_simp
                    refine (HWR _ flu28).out.mono ?_
                    rintro e wu29 ⟨Aw, nw, cw, rfl, fwu29, hu29⟩
                    have f6u29 := f6u28.on hu29
                    have u7u29 := u7u28.on hu29
                    have h19u29 := h19u28.on hu29
                    have bu29 := bu28.trans (hu29.mono bu28.size)
                    have zu29 := hu29.size
                    refine hK _ _ trivial ?_
                    clear hK K
                    repeat (refine plan_take _ rfl ?_; (go_big_quiet_step ((intros; rfl)); refine wpQuiet_nil ?_))
                    refine plan_one _ rfl fun K hK => ?_
                    have lqu30 := h19u29.lt
                    refine step_store_all rfl _ _ _ rfl (gH) rfl _ _ h19u29 ([.slice Aw nw cw]) rfl (slice_one _ _ _) rfl (by kernel_rfl) ?_
                    intro wu30 hqu30 gu30
                    have fwu30 := fl_kept fwu29 gu30 (fun h0 => fl_ne fwu29 h0 h19u29)
                    have f6u30 := f6u29.kept gu30 (by simp; omega)
                    have u7u30 := u7u29.kept gu30 (by simp; omega)
                    have bu30 := below_kept bu29 gu30 bu29.size (by rintro z hz; cases hz; omega)
                    refine hK _ _ trivial ?_
                    clear hK K
                    refine plan_done ?_
                    go_wp2_with fail
                    go_roundg (gk - 1)
                    case measure => have := HK2.out; omega
                    case rel =>
                      exact ⟨k2 + 1, Aw, nw, cw, by have := HK2.out; show _ = _; omega, by omega, by go_num, f6u30, u7u30, hqu30, fwu30, bu30⟩
                  · refine step_at _ rfl fun K hK => ?_
                    refine step_valueG (o := ⟨some 122, _, _, _, _, _⟩) rfl _ _ (by exact exec_string_of _ 42 9 5 _ rfl Tryd.underlying42 Tryd.underlying5 Tryd.underlying9 rfl rdu28) ?_
                    refine hK _ _ trivial ?_
                    clear hK K
                    simp only [Act.put, List.setIfInBounds_toArray, List.set_cons_zero, List.set_cons_succ]
                    refine plan_one _ rfl fun K hK => ?_
                    refine step_valueG (o := ⟨some 117, _, _, _, _, _⟩) rfl _ _ (by exact exec_loadFl _ _ rfl (gH) rfl Ah nh ch h19u28) ?_
                    refine hK _ _ trivial ?_
                    clear hK K
                    simp only [Act.put, List.setIfInBounds_toArray, List.set_cons_zero, List.set_cons_succ]
                    refine plan_one _ rfl fun K hK => ?_
                    go_simp
                    refine (HWR _ flu28).out.mono ?_
                    rintro e wu31 ⟨Aw, nw, cw, rfl, fwu31, hu31⟩
                    have f6u31 := f6u28.on hu31
                    have u7u31 := u7u28.on hu31
                    have h19u31 := h19u28.on hu31
                    have bu31 := bu28.trans (hu31.mono bu28.size)
                    have zu31 := hu31.size
                    refine hK _ _ trivial ?_
                    clear hK K
                    repeat (refine plan_take _ rfl ?_; (go_big_quiet_step ((intros; rfl)); refine wpQuiet_nil ?_))
                    refine plan_one _ rfl fun K hK => ?_
                    have lqu32 := h19u31.lt
                    refine step_store_all rfl _ _ _ rfl (gH) rfl _ _ h19u31 ([.slice Aw nw cw]) rfl (slice_one _ _ _) rfl (by kernel_rfl) ?_
                    intro wu32 hqu32 gu32
                    have fwu32 := fl_kept fwu31 gu32 (fun h0 => fl_ne fwu31 h0 h19u31)
                    have f6u32 := f6u31.kept gu32 (by simp; omega)
                    have u7u32 := u7u31.kept gu32 (by simp; omega)
                    have bu32 := below_kept bu31 gu32 bu31.size (by rintro z hz; cases hz; omega)
                    refine hK _ _ trivial ?_
                    clear hK K
                    refine plan_done ?_
                    go_wp2_with fail
                    go_roundg (gk - 1)
                    case measure => have := HK2.out; omega
                    case rel =>
                      exact ⟨k2 + 1, Aw, nw, cw, by have := HK2.out; show _ = _; omega, by omega, by go_num, f6u32, u7u32, hqu32, fwu32, bu32⟩
              · obtain rfl : k2 = 8 := by omega
                have HMB : StOK (clr R.m fi 8) := (clr_read HOK.out hf0 (by omega) 8 (Nat.le_refl _)).1
                have hsz8 : ∀ s ∈ clr R.m fi 8, s.size ≤ 400 := fun s hs => by have := HMB.2 s hs; omega
                have HHK := fun X h1 h2 => Lib.hid (lget_any Ah nh ch (clr R.m fi 8) u.r X HIN.out h1 h2 hsz8)
                have HGK := fun X h => HG u.r X HIN.out h
                rw [HCL.out] at HHK
                generalize stSt fs u.r = S at *
                clear HMB hsz8
                go_wp2_with ((with_reducible refine wpList_at ⟨some 128, _, _, _, _, _⟩ ?_); refine wpList_valueG rfl _ (by exact exec_loadFl _ _ rfl (W.heap.size) rfl A n c f6i) ?_)
                have l41f6 := f6i.lt
                have l41u7 := u7i.lt
                have l41h19 := h19i.lt
                have lB41 := hBi.size
                refine (HGK _ hBi).out.mono ?_
                rintro e w41 ⟨rfl, h41⟩
                have hs41 := h41.size
                have B41 := hBi.trans (h41.mono hBi.size)
                have f6_41 := f6i.on h41
                have u7_41 := u7i.on h41
                have h19_41 := h19i.on h41
                have fl_41 := fli.on h41
                have cu70 := u7_41.cell (j := 0) rfl
                have cu71 := u7_41.cell (j := 1) rfl
                have cu72 := u7_41.cell (j := 2) rfl
                have cu73 := u7_41.cell (j := 3) rfl
                have HLH := Lib.hid (fun h0 => fl_lt fl_41 h0)
                go_wp2_with (first
                  | (with_reducible refine wpList_alloc_row (o := ⟨some 21, _, _, _, _, _⟩) rfl _ rfl zeroO zero_so ?_; intro w42 a21_42 s42 g42; have k42 : Below w41.heap.size w41 w42 := grown_below g42 (Nat.le_refl _) (by simp); have B42 := B41.trans (k42.mono B41.size); have f6_42 := f6_41.on k42; have u7_42 := u7_41.on k42; have h19_42 := h19_41.on k42; have fl_42 := fl_41.on k42; clear f6_41 u7_41 h19_41 fl_41; have cu70 := u7_42.cell (j := 0) rfl; have cu71 := u7_42.cell (j := 1) rfl; have cu72 := u7_42.cell (j := 2) rfl; have cu73 := u7_42.cell (j := 3) rfl)
                  | ((with_reducible refine wpList_at ⟨none, .store _ (.tmp 21) _, _, _, _, _⟩ ?_); refine wpList_store_all rfl _ _ _ rfl (w41.heap.size) rfl _ _ a21_42 (S.cs) rfl (S.cs_one) rfl (by kernel_rfl) ?_; intro w43 a21_43 g43; have f6_43 := f6_42.kept g43 (by simp; omega); have u7_43 := u7_42.kept g43 (by simp; omega); have h19_43 := h19_42.kept g43 (by simp; omega); have fl_43 := fl_kept fl_42 g43 (fun h0 ad e' => by have := HLH.out h0 ad e'; omega); have B43 := below_kept B42 g43 B42.size (by rintro q hq; cases hq; omega); have sz43 := g43.size; clear f6_42 u7_42 h19_42 fl_42; have cu70 := u7_43.cell (j := 0) rfl; have cu71 := u7_43.cell (j := 1) rfl; have cu72 := u7_43.cell (j := 2) rfl; have cu73 := u7_43.cell (j := 3) rfl)
                  | ((with_reducible refine wpList_at ⟨some 135, _, _, _, _, _⟩ ?_); refine wpList_valueG rfl _ (by exact exec_loadFl _ _ rfl (gH) rfl Ah nh ch h19_43) ?_))
                have l44f6 := f6_43.lt
                have l44u7 := u7_43.lt
                have l44h19 := h19_43.lt
                have l44a21 := a21_43.lt
                have lB44 := B43.size
                refine (HHK _ (hK.on B43) fl_43).out.mono ?_
                rintro e w44 ⟨rfl, h44⟩
                have hs44 := h44.size
                have B44 := B43.trans (h44.mono B43.size)
                have f6_44 := f6_43.on h44
                have u7_44 := u7_43.on h44
                have h19_44 := h19_43.on h44
                have fl_44 := fl_43.on h44
                have a21_44 := a21_43.on h44
                clear f6_43 u7_43 h19_43 fl_43 a21_43
                have cu70 := u7_44.cell (j := 0) rfl
                have cu71 := u7_44.cell (j := 1) rfl
                have cu72 := u7_44.cell (j := 2) rfl
                have cu73 := u7_44.cell (j := 3) rfl
                go_wp2_with (first
                  | (with_reducible refine wpList_alloc_row (o := ⟨some 23, _, _, _, _, _⟩) rfl _ rfl zeroO zero_so ?_; intro w45 b23_45 s45 g45; have k45 : Below w44.heap.size w44 w45 := grown_below g45 (Nat.le_refl _) (by simp); have B45 := B44.trans (k45.mono B44.size); have f6_45 := f6_44.on k45; have u7_45 := u7_44.on k45; have h19_45 := h19_44.on k45; have a21_45 := a21_44.on k45; clear f6_44 u7_44 h19_44 a21_44; have cu70 := u7_45.cell (j := 0) rfl; have cu71 := u7_45.cell (j := 1) rfl; have cu72 := u7_45.cell (j := 2) rfl; have cu73 := u7_45.cell (j := 3) rfl)
                  | ((with_reducible refine wpList_at ⟨none, .store _ (.tmp 23) _, _, _, _, _⟩ ?_); refine wpList_store_all rfl _ _ _ rfl (w44.heap.size) rfl _ _ b23_45 (S.cs) rfl (S.cs_one) rfl (by kernel_rfl) ?_; intro w46 b23_46 g46; have f6_46 := f6_45.kept g46 (by simp; omega); have u7_46 := u7_45.kept g46 (by simp; omega); have h19_46 := h19_45.kept g46 (by simp; omega); have a21_46 := a21_45.kept g46 (by simp; omega); have B46 := below_kept B45 g46 B45.size (by rintro q hq; cases hq; omega); have sz46 := g46.size; clear f6_45 u7_45 h19_45 a21_45; have cu70 := u7_46.cell (j := 0) rfl; have cu71 := u7_46.cell (j := 1) rfl; have cu72 := u7_46.cell (j := 2) rfl; have cu73 := u7_46.cell (j := 3) rfl)
                  | ((with_reducible refine wpList_at ⟨some 141, _, _, _, _, _⟩ ?_); refine wpList_valueG rfl _ (by exact exec_loadO _ _ rfl (w44.heap.size) rfl S b23_46) ?_)
                  | ((with_reducible refine wpList_at ⟨some 142, _, _, _, _, _⟩ ?_); refine wpList_valueG rfl _ (by exact exec_loadO _ _ rfl (w41.heap.size) rfl S a21_46) ?_)
                  | ((with_reducible refine wpList_at ⟨some 143, _, _, _, _, _⟩ ?_); refine wpList_valueG rfl _ (by exact exec_eqlS _ _ _ rfl S rfl rfl) ?_))
                go_ret
                exact ⟨rfl, B46⟩
end Go.Proofs.YtfclifolniefpaaDoor
