/-
  The check of StoreIndependent: a walk. Condition: the table of constants as laid.
-/
import Derived.Test.YtfclifolniefpaaDoorStZ
import Derived.Lib.SliceRun
set_option linter.unusedSimpArgs false
set_option linter.unusedVariables false
namespace Go.Proofs.YtfclifolniefpaaDoor
open Go.RowKit

set_option maxRecDepth 100000 in
set_option maxHeartbeats 4000000 in
theorem chk4 : Chk 13 := by
  intro fs u R A n c A' n' c' E m d W hM hin hsz hR hK fl fg re hmd hm
  have HLF := Lib.hid (fun h0 => fl_lt fl h0)
  have HLG := Lib.hid (fun h0 => fl_lt fg h0)
  have HM := Lib.hid hM
  have HR := Lib.hid hR
  have HIN := Lib.hid hin
  have HSZ := Lib.hid hsz
  have HG : ∀ (q : Int) (X : World), stIn q = true → Below W.heap.size W X → Hid (Calls Tryd.prog 11 #[flv A n c, .int .i64 q] X (fun e w' => e = .returned (.tuple #[(stSt fs q).v, .int .i64 16]) ∧ Below X.heap.size X w')) := fun q X h1 h2 => Lib.hid (lget_any A n c fs q X h1 (hK.on h2) (fl.on h2) hM.small)
  have HH : ∀ (q : Int) (X : World), stIn q = true → Below W.heap.size W X → Hid (Calls Tryd.prog 11 #[flv A' n' c', .int .i64 q] X (fun e w' => e = .returned (.tuple #[(stSt R.m q).v, .int .i64 16]) ∧ Below X.heap.size X w')) := fun q X h1 h2 => Lib.hid (lget_any A' n' c' R.m q X h1 (hK.on h2) (fg.on h2) (fun s hs => by have := hR.ok.2 s hs; omega))
  have HEQ : ∀ q, stIn q = true → q ≠ u.r → Hid (stSt R.m q = stSt fs q) := fun q h1 h2 => Lib.hid (by unfold stSt; rw [off_other hin h1 h2 hR.off])
  clear hM hR hin hsz hm hmd re fl fg
  unfold flv at *
  go_enter Tryd.func13, Tryd.ntmps13
  go_wp2_with (first
    | ((with_reducible refine wpList_at ⟨some 6, _, _, _, _, _⟩ ?_); refine wpList_box_row rfl _ _ rfl [.slice A n c] rfl ?_; intro w1 f6_1 s1 g1; have k1 : Below W.heap.size W w1 := grown_below g1 (Nat.le_refl _) (by simp); have B1 : Below W.heap.size W w1 := k1; have cf60 := f6_1.cell (j := 0) rfl)
    | ((with_reducible refine wpList_at ⟨some 7, _, _, _, _, _⟩ ?_); refine wpList_box_row rfl _ _ rfl (u.cs) rfl ?_; intro w2 u7_2 s2 g2; have k2 : Below w1.heap.size w1 w2 := grown_below g2 (Nat.le_refl _) (by simp); have B2 := B1.trans (k2.mono B1.size); have f6_2 := f6_1.on k2; clear f6_1; have cu70 := u7_2.cell (j := 0) rfl; have cu71 := u7_2.cell (j := 1) rfl; have cu72 := u7_2.cell (j := 2) rfl; have cu73 := u7_2.cell (j := 3) rfl)
    | ((with_reducible refine wpList_at ⟨some 8, _, _, _, _, _⟩ ?_); refine wpList_box_row rfl _ _ rfl [.slice A' n' c'] rfl ?_; intro w3 g8_3 s3 g3; have k3 : Below w2.heap.size w2 w3 := grown_below g3 (Nat.le_refl _) (by simp); have B3 := B2.trans (k3.mono B2.size); have f6_3 := f6_2.on k3; have u7_3 := u7_2.on k3; clear f6_2 u7_2; have cu70 := u7_3.cell (j := 0) rfl; have cu71 := u7_3.cell (j := 1) rfl; have cu72 := u7_3.cell (j := 2) rfl; have cu73 := u7_3.cell (j := 3) rfl; have cg80 := g8_3.cell (j := 0) rfl)
    | ((with_reducible refine wpList_at ⟨some 9, _, _, _, _, _⟩ ?_); refine wpList_box_row rfl _ _ rfl (R.o.cs) rfl ?_; intro w4 o9_4 s4 g4; have k4 : Below w3.heap.size w3 w4 := grown_below g4 (Nat.le_refl _) (by simp); have B4 := B3.trans (k4.mono B3.size); have f6_4 := f6_3.on k4; have u7_4 := u7_3.on k4; have g8_4 := g8_3.on k4; clear f6_3 u7_3 g8_3; have cu70 := u7_4.cell (j := 0) rfl; have cu71 := u7_4.cell (j := 1) rfl; have cu72 := u7_4.cell (j := 2) rfl; have cu73 := u7_4.cell (j := 3) rfl; have co90 := o9_4.cell (j := 0) rfl; have co91 := o9_4.cell (j := 1) rfl; have co92 := o9_4.cell (j := 2) rfl))
  go_loopg [18] 4 (fun g s18 wr => ∃ k : Nat, Hid (k + g = 4) ∧ k ≤ 4 ∧ s18 = .int .i64 (k : Int) ∧ Row wr (W.heap.size) 28 [.slice A n c] ∧ Row wr (w1.heap.size) 30 u.cs ∧ Row wr (w2.heap.size) 28 [.slice A' n' c'] ∧ Below W.heap.size W wr)
  case atStart => exact ⟨0, by show _ = _; omega, by omega, rfl, f6_4, u7_4, g8_4, B4⟩
  case round =>
    obtain ⟨k, HK, hk, rfl, f6, u7, g8, hB⟩ := hrel
    have lf6 := f6.lt
    have lu7 := u7.lt
    have lg8 := g8.lt
    have lB := hB.size
    have cu70 := u7.cell (j := 0) rfl
    by_cases hlt : k < 4
    · have hik : stIn (k : Int) = true := stIn_iff.2 ⟨by omega, by omega⟩
      have HGK := fun X h => HG (k : Int) X hik h
      have HHK := fun X h => HH (k : Int) X hik h
      have HEK := HEQ (k : Int) hik
      clear HG HH HEQ
      generalize stSt fs (k : Int) = S at *
      generalize stSt R.m (k : Int) = T at *
      by_cases hku : (k : Int) = u.r
      · have hq : ((k : Int) != u.r) = false := by rw [hku]; simp
        clear HEK hku
        go_wp2_with ((with_reducible refine wpList_at ⟨some 22, _, _, _, _, _⟩ ?_); refine wpList_valueG rfl _ (by exact exec_loadFl _ _ rfl (W.heap.size) rfl A n c f6) ?_)
        have l21f6 := f6.lt
        have l21u7 := u7.lt
        have l21g8 := g8.lt
        have lB21 := hB.size
        refine (HGK _ hB).out.mono ?_
        rintro e w21 ⟨rfl, h21⟩
        have hs21 := h21.size
        have B21 := hB.trans (h21.mono hB.size)
        have f6_21 := f6.on h21
        have u7_21 := u7.on h21
        have g8_21 := g8.on h21
        have cu70 := u7_21.cell (j := 0) rfl
        have cu71 := u7_21.cell (j := 1) rfl
        have cu72 := u7_21.cell (j := 2) rfl
        have cu73 := u7_21.cell (j := 3) rfl
        go_wp2_with (first
          | (with_reducible refine wpList_alloc_row (o := ⟨some 14, _, _, _, _, _⟩) rfl _ rfl zeroO zero_so ?_; intro w22 a14_22 s22 g22; have k22 : Below w21.heap.size w21 w22 := grown_below g22 (Nat.le_refl _) (by simp); have B22 := B21.trans (k22.mono B21.size); have f6_22 := f6_21.on k22; have u7_22 := u7_21.on k22; have g8_22 := g8_21.on k22; clear f6_21 u7_21 g8_21; have cu70 := u7_22.cell (j := 0) rfl; have cu71 := u7_22.cell (j := 1) rfl; have cu72 := u7_22.cell (j := 2) rfl; have cu73 := u7_22.cell (j := 3) rfl)
          | ((with_reducible refine wpList_at ⟨none, .store _ (.tmp 14) _, _, _, _, _⟩ ?_); refine wpList_store_all rfl _ _ _ rfl (w21.heap.size) rfl _ _ a14_22 (S.cs) rfl (S.cs_one) rfl (by kernel_rfl) ?_; intro w23 a14_23 g23; have f6_23 := f6_22.kept g23 (by simp; omega); have u7_23 := u7_22.kept g23 (by simp; omega); have g8_23 := g8_22.kept g23 (by simp; omega); have B23 := below_kept B22 g23 B22.size (by rintro q hq; cases hq; omega); have sz23 := g23.size; clear f6_22 u7_22 g8_22; have cu70 := u7_23.cell (j := 0) rfl; have cu71 := u7_23.cell (j := 1) rfl; have cu72 := u7_23.cell (j := 2) rfl; have cu73 := u7_23.cell (j := 3) rfl)
          | ((with_reducible refine wpList_at ⟨some 28, _, _, _, _, _⟩ ?_); refine wpList_valueG rfl _ (by exact exec_loadFl _ _ rfl (w2.heap.size) rfl A' n' c' g8_23) ?_))
        have l24f6 := f6_23.lt
        have l24u7 := u7_23.lt
        have l24g8 := g8_23.lt
        have l24a14 := a14_23.lt
        have lB24 := B23.size
        refine (HHK _ B23).out.mono ?_
        rintro e w24 ⟨rfl, h24⟩
        have hs24 := h24.size
        have B24 := B23.trans (h24.mono B23.size)
        have f6_24 := f6_23.on h24
        have u7_24 := u7_23.on h24
        have g8_24 := g8_23.on h24
        have a14_24 := a14_23.on h24
        clear f6_23 u7_23 g8_23 a14_23
        have cu70 := u7_24.cell (j := 0) rfl
        have cu71 := u7_24.cell (j := 1) rfl
        have cu72 := u7_24.cell (j := 2) rfl
        have cu73 := u7_24.cell (j := 3) rfl
        go_wp2_with (first
          | (with_reducible refine wpList_alloc_row (o := ⟨some 16, _, _, _, _, _⟩) rfl _ rfl zeroO zero_so ?_; intro w25 b16_25 s25 g25; have k25 : Below w24.heap.size w24 w25 := grown_below g25 (Nat.le_refl _) (by simp); have B25 := B24.trans (k25.mono B24.size); have f6_25 := f6_24.on k25; have u7_25 := u7_24.on k25; have g8_25 := g8_24.on k25; have a14_25 := a14_24.on k25; clear f6_24 u7_24 g8_24 a14_24; have cu70 := u7_25.cell (j := 0) rfl; have cu71 := u7_25.cell (j := 1) rfl; have cu72 := u7_25.cell (j := 2) rfl; have cu73 := u7_25.cell (j := 3) rfl)
          | ((with_reducible refine wpList_at ⟨none, .store _ (.tmp 16) _, _, _, _, _⟩ ?_); refine wpList_store_all rfl _ _ _ rfl (w24.heap.size) rfl _ _ b16_25 (T.cs) rfl (T.cs_one) rfl (by kernel_rfl) ?_; intro w26 b16_26 g26; have f6_26 := f6_25.kept g26 (by simp; omega); have u7_26 := u7_25.kept g26 (by simp; omega); have g8_26 := g8_25.kept g26 (by simp; omega); have a14_26 := a14_25.kept g26 (by simp; omega); have B26 := below_kept B25 g26 B25.size (by rintro q hq; cases hq; omega); have sz26 := g26.size; clear f6_25 u7_25 g8_25 a14_25; have cu70 := u7_26.cell (j := 0) rfl; have cu71 := u7_26.cell (j := 1) rfl; have cu72 := u7_26.cell (j := 2) rfl; have cu73 := u7_26.cell (j := 3) rfl))
        go_roundg (gk - 1)
        case measure => have := HK.out; omega
        case rel => exact ⟨k + 1, by have := HK.out; show _ = _; omega, by omega, by go_num, f6_26, u7_26, g8_26, B26⟩
      · have hq : ((k : Int) != u.r) = true := by simp only [bne_iff_ne, ne_eq]; exact hku
        obtain rfl : S = T := (HEK hku).out.symm
        have hss : (!stEq S S) = false := by rw [stEq_self]; rfl
        clear HEK hku
        go_wp2_with ((with_reducible refine wpList_at ⟨some 22, _, _, _, _, _⟩ ?_); refine wpList_valueG rfl _ (by exact exec_loadFl _ _ rfl (W.heap.size) rfl A n c f6) ?_)
        have l21f6 := f6.lt
        have l21u7 := u7.lt
        have l21g8 := g8.lt
        have lB21 := hB.size
        refine (HGK _ hB).out.mono ?_
        rintro e w21 ⟨rfl, h21⟩
        have hs21 := h21.size
        have B21 := hB.trans (h21.mono hB.size)
        have f6_21 := f6.on h21
        have u7_21 := u7.on h21
        have g8_21 := g8.on h21
        have cu70 := u7_21.cell (j := 0) rfl
        have cu71 := u7_21.cell (j := 1) rfl
        have cu72 := u7_21.cell (j := 2) rfl
        have cu73 := u7_21.cell (j := 3) rfl
        go_wp2_with (first
          | (with_reducible refine wpList_alloc_row (o := ⟨some 14, _, _, _, _, _⟩) rfl _ rfl zeroO zero_so ?_; intro w22 a14_22 s22 g22; have k22 : Below w21.heap.size w21 w22 := grown_below g22 (Nat.le_refl _) (by simp); have B22 := B21.trans (k22.mono B21.size); have f6_22 := f6_21.on k22; have u7_22 := u7_21.on k22; have g8_22 := g8_21.on k22; clear f6_21 u7_21 g8_21; have cu70 := u7_22.cell (j := 0) rfl; have cu71 := u7_22.cell (j := 1) rfl; have cu72 := u7_22.cell (j := 2) rfl; have cu73 := u7_22.cell (j := 3) rfl)
          | ((with_reducible refine wpList_at ⟨none, .store _ (.tmp 14) _, _, _, _, _⟩ ?_); refine wpList_store_all rfl _ _ _ rfl (w21.heap.size) rfl _ _ a14_22 (S.cs) rfl (S.cs_one) rfl (by kernel_rfl) ?_; intro w23 a14_23 g23; have f6_23 := f6_22.kept g23 (by simp; omega); have u7_23 := u7_22.kept g23 (by simp; omega); have g8_23 := g8_22.kept g23 (by simp; omega); have B23 := below_kept B22 g23 B22.size (by rintro q hq; cases hq; omega); have sz23 := g23.size; clear f6_22 u7_22 g8_22; have cu70 := u7_23.cell (j := 0) rfl; have cu71 := u7_23.cell (j := 1) rfl; have cu72 := u7_23.cell (j := 2) rfl; have cu73 := u7_23.cell (j := 3) rfl)
          | ((with_reducible refine wpList_at ⟨some 28, _, _, _, _, _⟩ ?_); refine wpList_valueG rfl _ (by exact exec_loadFl _ _ rfl (w2.heap.size) rfl A' n' c' g8_23) ?_))
        have l24f6 := f6_23.lt
        have l24u7 := u7_23.lt
        have l24g8 := g8_23.lt
        have l24a14 := a14_23.lt
        have lB24 := B23.size
        refine (HHK _ B23).out.mono ?_
        rintro e w24 ⟨rfl, h24⟩
        have hs24 := h24.size
        have B24 := B23.trans (h24.mono B23.size)
        have f6_24 := f6_23.on h24
        have u7_24 := u7_23.on h24
        have g8_24 := g8_23.on h24
        have a14_24 := a14_23.on h24
        clear f6_23 u7_23 g8_23 a14_23
        have cu70 := u7_24.cell (j := 0) rfl
        have cu71 := u7_24.cell (j := 1) rfl
        have cu72 := u7_24.cell (j := 2) rfl
        have cu73 := u7_24.cell (j := 3) rfl
        go_wp2_with (first
          | (with_reducible refine wpList_alloc_row (o := ⟨some 16, _, _, _, _, _⟩) rfl _ rfl zeroO zero_so ?_; intro w25 b16_25 s25 g25; have k25 : Below w24.heap.size w24 w25 := grown_below g25 (Nat.le_refl _) (by simp); have B25 := B24.trans (k25.mono B24.size); have f6_25 := f6_24.on k25; have u7_25 := u7_24.on k25; have g8_25 := g8_24.on k25; have a14_25 := a14_24.on k25; clear f6_24 u7_24 g8_24 a14_24; have cu70 := u7_25.cell (j := 0) rfl; have cu71 := u7_25.cell (j := 1) rfl; have cu72 := u7_25.cell (j := 2) rfl; have cu73 := u7_25.cell (j := 3) rfl)
          | ((with_reducible refine wpList_at ⟨none, .store _ (.tmp 16) _, _, _, _, _⟩ ?_); refine wpList_store_all rfl _ _ _ rfl (w24.heap.size) rfl _ _ b16_25 (S.cs) rfl (S.cs_one) rfl (by kernel_rfl) ?_; intro w26 b16_26 g26; have f6_26 := f6_25.kept g26 (by simp; omega); have u7_26 := u7_25.kept g26 (by simp; omega); have g8_26 := g8_25.kept g26 (by simp; omega); have a14_26 := a14_25.kept g26 (by simp; omega); have B26 := below_kept B25 g26 B25.size (by rintro q hq; cases hq; omega); have sz26 := g26.size; clear f6_25 u7_25 g8_25 a14_25; have cu70 := u7_26.cell (j := 0) rfl; have cu71 := u7_26.cell (j := 1) rfl; have cu72 := u7_26.cell (j := 2) rfl; have cu73 := u7_26.cell (j := 3) rfl)
          | ((with_reducible refine wpList_at ⟨some 38, _, _, _, _, _⟩ ?_); refine wpList_valueG rfl _ (by exact exec_loadO _ _ rfl (w21.heap.size) rfl S a14_26) ?_)
          | ((with_reducible refine wpList_at ⟨some 39, _, _, _, _, _⟩ ?_); refine wpList_valueG rfl _ (by exact exec_loadO _ _ rfl (w24.heap.size) rfl S b16_26) ?_)
          | ((with_reducible refine wpList_at ⟨some 40, _, _, _, _, _⟩ ?_); refine wpList_valueG rfl _ (by exact exec_neqO _ _ _ rfl S S rfl rfl) ?_))
        go_roundg (gk - 1)
        case measure => have := HK.out; omega
        case rel => exact ⟨k + 1, by have := HK.out; show _ = _; omega, by omega, by go_num, f6_26, u7_26, g8_26, B26⟩
    · obtain rfl : k = 4 := by omega
      clear HG HH HEQ
      go_wp2_with fail
      go_ret
      exact ⟨rfl, hB⟩
end Go.Proofs.YtfclifolniefpaaDoor
