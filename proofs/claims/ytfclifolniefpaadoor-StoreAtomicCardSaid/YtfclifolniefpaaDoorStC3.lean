/-
  The check of StoreAtomic: a walk. Condition: the table of constants as laid.
-/
import Derived.Test.YtfclifolniefpaaDoorStZ
import Derived.Test.YtfclifolniefpaaDoorSan10
import Derived.Lib.SliceRun
set_option linter.unusedSimpArgs false
set_option linter.unusedVariables false
namespace Go.Proofs.YtfclifolniefpaaDoor
open Go.RowKit

theorem stSt_n (fs : List ByteArray) (rec : Int) : (stSt fs rec).n = stSq fs rec := by
  unfold stSt stSq stOut
  split
  · rename_i h; rw [h]
  · rfl
theorem stSt_of {fs : List ByteArray} {rec n : Int} {c : List UInt8} (h : stCur rec (stL fs rec) = (n, c)) (h0 : n ≠ 0) : stSt fs rec = ⟨mk c, n, 0⟩ := by
  unfold stSt stOut
  rw [h, if_neg h0]
set_option maxRecDepth 100000 in
set_option maxHeartbeats 4000000 in
theorem chk3 : Chk 10 := by
  intro fs u R A n c A' n' c' E m d W hM hin hsz hR hK fl fg re hmd hm
  have HLF := Lib.hid (fun h0 => fl_lt fl h0)
  have HLG := Lib.hid (fun h0 => fl_lt fg h0)
  have HM := Lib.hid hM
  have HR := Lib.hid hR
  have HIN := Lib.hid hin
  have HSZ := Lib.hid hsz
  have HG : ∀ (q : Int) (X : World), stIn q = true → Below W.heap.size W X → Hid (Calls Tryd.prog 11 #[flv A n c, .int .i64 q] X (fun e w' => e = .returned (.tuple #[(stSt fs q).v, .int .i64 16]) ∧ Below X.heap.size X w')) := fun q X h1 h2 => Lib.hid (lget_any A n c fs q X h1 (hK.on h2) (fl.on h2) hM.small)
  have HH : ∀ (q : Int) (X : World), stIn q = true → Below W.heap.size W X → Hid (Calls Tryd.prog 11 #[flv A' n' c', .int .i64 q] X (fun e w' => e = .returned (.tuple #[(stSt R.m q).v, .int .i64 16]) ∧ Below X.heap.size X w')) := fun q X h1 h2 => Lib.hid (lget_any A' n' c' R.m q X h1 (hK.on h2) (fg.on h2) (fun s hs => by have := hR.ok.2 s hs; omega))
  have HS1 := Lib.hid (show 0 ≤ stSq fs u.r ∧ stSq fs u.r ≤ 12 from ⟨(stCur_nn u.r (stL fs u.r)).1, hM.2 _ hin⟩)
  have hr3 := stIn_iff.1 hin
  obtain ⟨os, oe, h0⟩ : ∃ os oe, stSt fs u.r = ⟨os, stSq fs u.r, oe⟩ := ⟨(stSt fs u.r).s, (stSt fs u.r).e, by rw [← stSt_n]⟩
  have HGK := fun X h => HG u.r X hin h
  rw [h0] at HGK
  have HHK := fun X h => HH u.r X hin h
  clear HG HH
  have HBN := Lib.hid (show stSq fs u.r + 1 ≠ 0 by have := HS1.out; omega)
  have hW := hR.whole
  have hC := hR.cut
  clear hM hR hin hm hmd re fl fg
  cases hw : R.w with
  | true =>
    obtain ⟨e1, e2, _⟩ := hW hw
    rw [stSt_of e1 HBN.out, mk_tl] at HHK
    rw [e2]
    clear e1 e2 hW hC hw HBN
    generalize stSq fs u.r = S at *
    have hs1 := HS1.out.1
    have hs2 := HS1.out.2
    unfold flv at *
    go_enter Tryd.func10, Tryd.ntmps10
    go_wp2_with (first
      | ((with_reducible refine wpList_at ⟨some 6, _, _, _, _, _⟩ ?_); refine wpList_box_row rfl _ _ rfl [.slice A n c] rfl ?_; intro w1 f6_1 s1 g1; have k1 : Below W.heap.size W w1 := grown_below g1 (Nat.le_refl _) (by simp); have B1 : Below W.heap.size W w1 := k1; have cf60 := f6_1.cell (j := 0) rfl)
      | ((with_reducible refine wpList_at ⟨some 7, _, _, _, _, _⟩ ?_); refine wpList_box_row rfl _ _ rfl (u.cs) rfl ?_; intro w2 u7_2 s2 g2; have k2 : Below w1.heap.size w1 w2 := grown_below g2 (Nat.le_refl _) (by simp); have B2 := B1.trans (k2.mono B1.size); have f6_2 := f6_1.on k2; clear f6_1; have cu70 := u7_2.cell (j := 0) rfl; have cu71 := u7_2.cell (j := 1) rfl; have cu72 := u7_2.cell (j := 2) rfl; have cu73 := u7_2.cell (j := 3) rfl)
      | ((with_reducible refine wpList_at ⟨some 8, _, _, _, _, _⟩ ?_); refine wpList_box_row rfl _ _ rfl [.slice A' n' c'] rfl ?_; intro w3 g8_3 s3 g3; have k3 : Below w2.heap.size w2 w3 := grown_below g3 (Nat.le_refl _) (by simp); have B3 := B2.trans (k3.mono B2.size); have f6_3 := f6_2.on k3; have u7_3 := u7_2.on k3; clear f6_2 u7_2; have cu70 := u7_3.cell (j := 0) rfl; have cu71 := u7_3.cell (j := 1) rfl; have cu72 := u7_3.cell (j := 2) rfl; have cu73 := u7_3.cell (j := 3) rfl; have cg80 := g8_3.cell (j := 0) rfl)
      | ((with_reducible refine wpList_at ⟨some 9, _, _, _, _, _⟩ ?_); refine wpList_box_row rfl _ _ rfl ((⟨u.s, S + 1, 0⟩ : StO).cs) rfl ?_; intro w4 o9_4 s4 g4; have k4 : Below w3.heap.size w3 w4 := grown_below g4 (Nat.le_refl _) (by simp); have B4 := B3.trans (k4.mono B3.size); have f6_4 := f6_3.on k4; have u7_4 := u7_3.on k4; have g8_4 := g8_3.on k4; clear f6_3 u7_3 g8_3; have cu70 := u7_4.cell (j := 0) rfl; have cu71 := u7_4.cell (j := 1) rfl; have cu72 := u7_4.cell (j := 2) rfl; have cu73 := u7_4.cell (j := 3) rfl; have co90 := o9_4.cell (j := 0) rfl; have co91 := o9_4.cell (j := 1) rfl; have co92 := o9_4.cell (j := 2) rfl)
      | ((with_reducible refine wpList_at ⟨some 18, _, _, _, _, _⟩ ?_); refine wpList_valueG rfl _ (by exact exec_loadFl _ _ rfl (W.heap.size) rfl A n c f6_4) ?_))
    have l5f6 := f6_4.lt
    have l5u7 := u7_4.lt
    have l5g8 := g8_4.lt
    have l5o9 := o9_4.lt
    have lB5 := B4.size
    refine (HGK _ B4).out.mono ?_
    rintro e w5 ⟨rfl, h5⟩
    have hs5 := h5.size
    have B5 := B4.trans (h5.mono B4.size)
    have f6_5 := f6_4.on h5
    have u7_5 := u7_4.on h5
    have g8_5 := g8_4.on h5
    have o9_5 := o9_4.on h5
    clear f6_4 u7_4 g8_4 o9_4
    have cu70 := u7_5.cell (j := 0) rfl
    have cu71 := u7_5.cell (j := 1) rfl
    have cu72 := u7_5.cell (j := 2) rfl
    have cu73 := u7_5.cell (j := 3) rfl
    have co90 := o9_5.cell (j := 0) rfl
    have co91 := o9_5.cell (j := 1) rfl
    have co92 := o9_5.cell (j := 2) rfl
    go_wp2_with (first
      | (with_reducible refine wpList_alloc_row (o := ⟨some 13, _, _, _, _, _⟩) rfl _ rfl zeroO zero_so ?_; intro w6 a13_6 s6 g6; have k6 : Below w5.heap.size w5 w6 := grown_below g6 (Nat.le_refl _) (by simp); have B6 := B5.trans (k6.mono B5.size); have f6_6 := f6_5.on k6; have u7_6 := u7_5.on k6; have g8_6 := g8_5.on k6; have o9_6 := o9_5.on k6; clear f6_5 u7_5 g8_5 o9_5; have cu70 := u7_6.cell (j := 0) rfl; have cu71 := u7_6.cell (j := 1) rfl; have cu72 := u7_6.cell (j := 2) rfl; have cu73 := u7_6.cell (j := 3) rfl; have co90 := o9_6.cell (j := 0) rfl; have co91 := o9_6.cell (j := 1) rfl; have co92 := o9_6.cell (j := 2) rfl)
      | ((with_reducible refine wpList_at ⟨none, .store _ (.tmp 13) _, _, _, _, _⟩ ?_); refine wpList_store_all rfl _ _ _ rfl (w5.heap.size) rfl _ _ a13_6 ((⟨os, S, oe⟩ : StO).cs) rfl ((⟨os, S, oe⟩ : StO).cs_one) rfl (by kernel_rfl) ?_; intro w7 a13_7 g7; have f6_7 := f6_6.kept g7 (by simp; omega); have u7_7 := u7_6.kept g7 (by simp; omega); have g8_7 := g8_6.kept g7 (by simp; omega); have o9_7 := o9_6.kept g7 (by simp; omega); have B7 := below_kept B6 g7 B6.size (by rintro q hq; cases hq; omega); have sz7 := g7.size; clear f6_6 u7_6 g8_6 o9_6; have cu70 := u7_7.cell (j := 0) rfl; have cu71 := u7_7.cell (j := 1) rfl; have cu72 := u7_7.cell (j := 2) rfl; have cu73 := u7_7.cell (j := 3) rfl; have co90 := o9_7.cell (j := 0) rfl; have co91 := o9_7.cell (j := 1) rfl; have co92 := o9_7.cell (j := 2) rfl; have ca130 := a13_7.cell (j := 0) rfl; have ca131 := a13_7.cell (j := 1) rfl; have ca132 := a13_7.cell (j := 2) rfl)
      | ((with_reducible refine wpList_at ⟨some 25, _, _, _, _, _⟩ ?_); refine wpList_valueG rfl _ (by exact exec_loadFl _ _ rfl (w2.heap.size) rfl A' n' c' g8_7) ?_))
    have l8f6 := f6_7.lt
    have l8u7 := u7_7.lt
    have l8g8 := g8_7.lt
    have l8o9 := o9_7.lt
    have l8a13 := a13_7.lt
    have lB8 := B7.size
    refine (HHK _ B7).out.mono ?_
    rintro e w8 ⟨rfl, h8⟩
    have hs8 := h8.size
    have B8 := B7.trans (h8.mono B7.size)
    have f6_8 := f6_7.on h8
    have u7_8 := u7_7.on h8
    have g8_8 := g8_7.on h8
    have o9_8 := o9_7.on h8
    have a13_8 := a13_7.on h8
    clear f6_7 u7_7 g8_7 o9_7 a13_7
    have cu70 := u7_8.cell (j := 0) rfl
    have cu71 := u7_8.cell (j := 1) rfl
    have cu72 := u7_8.cell (j := 2) rfl
    have cu73 := u7_8.cell (j := 3) rfl
    have co90 := o9_8.cell (j := 0) rfl
    have co91 := o9_8.cell (j := 1) rfl
    have co92 := o9_8.cell (j := 2) rfl
    have ca130 := a13_8.cell (j := 0) rfl
    have ca131 := a13_8.cell (j := 1) rfl
    have ca132 := a13_8.cell (j := 2) rfl
    go_wp2_with (first
      | (with_reducible refine wpList_alloc_row (o := ⟨some 15, _, _, _, _, _⟩) rfl _ rfl zeroO zero_so ?_; intro w9 b15_9 s9 g9; have k9 : Below w8.heap.size w8 w9 := grown_below g9 (Nat.le_refl _) (by simp); have B9 := B8.trans (k9.mono B8.size); have f6_9 := f6_8.on k9; have u7_9 := u7_8.on k9; have g8_9 := g8_8.on k9; have o9_9 := o9_8.on k9; have a13_9 := a13_8.on k9; clear f6_8 u7_8 g8_8 o9_8 a13_8; have cu70 := u7_9.cell (j := 0) rfl; have cu71 := u7_9.cell (j := 1) rfl; have cu72 := u7_9.cell (j := 2) rfl; have cu73 := u7_9.cell (j := 3) rfl; have co90 := o9_9.cell (j := 0) rfl; have co91 := o9_9.cell (j := 1) rfl; have co92 := o9_9.cell (j := 2) rfl; have ca130 := a13_9.cell (j := 0) rfl; have ca131 := a13_9.cell (j := 1) rfl; have ca132 := a13_9.cell (j := 2) rfl)
      | ((with_reducible refine wpList_at ⟨none, .store _ (.tmp 15) _, _, _, _, _⟩ ?_); refine wpList_store_all rfl _ _ _ rfl (w8.heap.size) rfl _ _ b15_9 ((⟨u.s, S + 1, 0⟩ : StO).cs) rfl ((⟨u.s, S + 1, 0⟩ : StO).cs_one) rfl (by kernel_rfl) ?_; intro w10 b15_10 g10; have f6_10 := f6_9.kept g10 (by simp; omega); have u7_10 := u7_9.kept g10 (by simp; omega); have g8_10 := g8_9.kept g10 (by simp; omega); have o9_10 := o9_9.kept g10 (by simp; omega); have a13_10 := a13_9.kept g10 (by simp; omega); have B10 := below_kept B9 g10 B9.size (by rintro q hq; cases hq; omega); have sz10 := g10.size; clear f6_9 u7_9 g8_9 o9_9 a13_9; have cu70 := u7_10.cell (j := 0) rfl; have cu71 := u7_10.cell (j := 1) rfl; have cu72 := u7_10.cell (j := 2) rfl; have cu73 := u7_10.cell (j := 3) rfl; have ca130 := a13_10.cell (j := 0) rfl; have ca131 := a13_10.cell (j := 1) rfl; have ca132 := a13_10.cell (j := 2) rfl; have co90 := o9_10.cell (j := 0) rfl; have co91 := o9_10.cell (j := 1) rfl; have co92 := o9_10.cell (j := 2) rfl; have cb150 := b15_10.cell (j := 0) rfl; have cb151 := b15_10.cell (j := 1) rfl; have cb152 := b15_10.cell (j := 2) rfl; have cb150 := b15_10.cell (j := 0) rfl; have cb151 := b15_10.cell (j := 1) rfl; have cb152 := b15_10.cell (j := 2) rfl)
      | ((with_reducible refine wpList_at ⟨some 32, _, _, _, _, _⟩ ?_); refine wpList_valueG rfl _ (by exact exec_loadO _ _ rfl (w8.heap.size) rfl (⟨u.s, S + 1, 0⟩ : StO) b15_10) ?_)
      | ((with_reducible refine wpList_at ⟨some 33, _, _, _, _, _⟩ ?_); refine wpList_valueG rfl _ (by exact exec_loadO _ _ rfl (w3.heap.size) rfl (⟨u.s, S + 1, 0⟩ : StO) o9_10) ?_)
      | ((with_reducible refine wpList_at ⟨some 34, _, _, _, _, _⟩ ?_); refine wpList_valueG rfl _ (by exact exec_eqlS _ _ _ rfl (⟨u.s, S + 1, 0⟩ : StO) rfl rfl) ?_))
    go_ret
    exact ⟨rfl, B10⟩
  | false =>
    have hc := hC hw
    clear hW hC hw
    by_cases hq : stSt R.m u.r = stSt fs u.r
    · rw [hq, h0] at HHK
      clear hq h0 hc HBN
      generalize stSq fs u.r = S at *
      have hs1 := HS1.out.1
      have hs2 := HS1.out.2
      unfold flv at *
      go_enter Tryd.func10, Tryd.ntmps10
      go_wp2_with (first
        | ((with_reducible refine wpList_at ⟨some 6, _, _, _, _, _⟩ ?_); refine wpList_box_row rfl _ _ rfl [.slice A n c] rfl ?_; intro w1 f6_1 s1 g1; have k1 : Below W.heap.size W w1 := grown_below g1 (Nat.le_refl _) (by simp); have B1 : Below W.heap.size W w1 := k1; have cf60 := f6_1.cell (j := 0) rfl)
        | ((with_reducible refine wpList_at ⟨some 7, _, _, _, _, _⟩ ?_); refine wpList_box_row rfl _ _ rfl (u.cs) rfl ?_; intro w2 u7_2 s2 g2; have k2 : Below w1.heap.size w1 w2 := grown_below g2 (Nat.le_refl _) (by simp); have B2 := B1.trans (k2.mono B1.size); have f6_2 := f6_1.on k2; clear f6_1; have cu70 := u7_2.cell (j := 0) rfl; have cu71 := u7_2.cell (j := 1) rfl; have cu72 := u7_2.cell (j := 2) rfl; have cu73 := u7_2.cell (j := 3) rfl)
        | ((with_reducible refine wpList_at ⟨some 8, _, _, _, _, _⟩ ?_); refine wpList_box_row rfl _ _ rfl [.slice A' n' c'] rfl ?_; intro w3 g8_3 s3 g3; have k3 : Below w2.heap.size w2 w3 := grown_below g3 (Nat.le_refl _) (by simp); have B3 := B2.trans (k3.mono B2.size); have f6_3 := f6_2.on k3; have u7_3 := u7_2.on k3; clear f6_2 u7_2; have cu70 := u7_3.cell (j := 0) rfl; have cu71 := u7_3.cell (j := 1) rfl; have cu72 := u7_3.cell (j := 2) rfl; have cu73 := u7_3.cell (j := 3) rfl; have cg80 := g8_3.cell (j := 0) rfl)
        | ((with_reducible refine wpList_at ⟨some 9, _, _, _, _, _⟩ ?_); refine wpList_box_row rfl _ _ rfl (R.o.cs) rfl ?_; intro w4 o9_4 s4 g4; have k4 : Below w3.heap.size w3 w4 := grown_below g4 (Nat.le_refl _) (by simp); have B4 := B3.trans (k4.mono B3.size); have f6_4 := f6_3.on k4; have u7_4 := u7_3.on k4; have g8_4 := g8_3.on k4; clear f6_3 u7_3 g8_3; have cu70 := u7_4.cell (j := 0) rfl; have cu71 := u7_4.cell (j := 1) rfl; have cu72 := u7_4.cell (j := 2) rfl; have cu73 := u7_4.cell (j := 3) rfl; have co90 := o9_4.cell (j := 0) rfl; have co91 := o9_4.cell (j := 1) rfl; have co92 := o9_4.cell (j := 2) rfl)
        | ((with_reducible refine wpList_at ⟨some 18, _, _, _, _, _⟩ ?_); refine wpList_valueG rfl _ (by exact exec_loadFl _ _ rfl (W.heap.size) rfl A n c f6_4) ?_))
      have l5f6 := f6_4.lt
      have l5u7 := u7_4.lt
      have l5g8 := g8_4.lt
      have l5o9 := o9_4.lt
      have lB5 := B4.size
      refine (HGK _ B4).out.mono ?_
      rintro e w5 ⟨rfl, h5⟩
      have hs5 := h5.size
      have B5 := B4.trans (h5.mono B4.size)
      have f6_5 := f6_4.on h5
      have u7_5 := u7_4.on h5
      have g8_5 := g8_4.on h5
      have o9_5 := o9_4.on h5
      clear f6_4 u7_4 g8_4 o9_4
      have cu70 := u7_5.cell (j := 0) rfl
      have cu71 := u7_5.cell (j := 1) rfl
      have cu72 := u7_5.cell (j := 2) rfl
      have cu73 := u7_5.cell (j := 3) rfl
      have co90 := o9_5.cell (j := 0) rfl
      have co91 := o9_5.cell (j := 1) rfl
      have co92 := o9_5.cell (j := 2) rfl
      go_wp2_with (first
        | (with_reducible refine wpList_alloc_row (o := ⟨some 13, _, _, _, _, _⟩) rfl _ rfl zeroO zero_so ?_; intro w6 a13_6 s6 g6; have k6 : Below w5.heap.size w5 w6 := grown_below g6 (Nat.le_refl _) (by simp); have B6 := B5.trans (k6.mono B5.size); have f6_6 := f6_5.on k6; have u7_6 := u7_5.on k6; have g8_6 := g8_5.on k6; have o9_6 := o9_5.on k6; clear f6_5 u7_5 g8_5 o9_5; have cu70 := u7_6.cell (j := 0) rfl; have cu71 := u7_6.cell (j := 1) rfl; have cu72 := u7_6.cell (j := 2) rfl; have cu73 := u7_6.cell (j := 3) rfl; have co90 := o9_6.cell (j := 0) rfl; have co91 := o9_6.cell (j := 1) rfl; have co92 := o9_6.cell (j := 2) rfl)
        | ((with_reducible refine wpList_at ⟨none, .store _ (.tmp 13) _, _, _, _, _⟩ ?_); refine wpList_store_all rfl _ _ _ rfl (w5.heap.size) rfl _ _ a13_6 ((⟨os, S, oe⟩ : StO).cs) rfl ((⟨os, S, oe⟩ : StO).cs_one) rfl (by kernel_rfl) ?_; intro w7 a13_7 g7; have f6_7 := f6_6.kept g7 (by simp; omega); have u7_7 := u7_6.kept g7 (by simp; omega); have g8_7 := g8_6.kept g7 (by simp; omega); have o9_7 := o9_6.kept g7 (by simp; omega); have B7 := below_kept B6 g7 B6.size (by rintro q hq; cases hq; omega); have sz7 := g7.size; clear f6_6 u7_6 g8_6 o9_6; have cu70 := u7_7.cell (j := 0) rfl; have cu71 := u7_7.cell (j := 1) rfl; have cu72 := u7_7.cell (j := 2) rfl; have cu73 := u7_7.cell (j := 3) rfl; have co90 := o9_7.cell (j := 0) rfl; have co91 := o9_7.cell (j := 1) rfl; have co92 := o9_7.cell (j := 2) rfl; have ca130 := a13_7.cell (j := 0) rfl; have ca131 := a13_7.cell (j := 1) rfl; have ca132 := a13_7.cell (j := 2) rfl)
        | ((with_reducible refine wpList_at ⟨some 25, _, _, _, _, _⟩ ?_); refine wpList_valueG rfl _ (by exact exec_loadFl _ _ rfl (w2.heap.size) rfl A' n' c' g8_7) ?_))
      have l8f6 := f6_7.lt
      have l8u7 := u7_7.lt
      have l8g8 := g8_7.lt
      have l8o9 := o9_7.lt
      have l8a13 := a13_7.lt
      have lB8 := B7.size
      refine (HHK _ B7).out.mono ?_
      rintro e w8 ⟨rfl, h8⟩
      have hs8 := h8.size
      have B8 := B7.trans (h8.mono B7.size)
      have f6_8 := f6_7.on h8
      have u7_8 := u7_7.on h8
      have g8_8 := g8_7.on h8
      have o9_8 := o9_7.on h8
      have a13_8 := a13_7.on h8
      clear f6_7 u7_7 g8_7 o9_7 a13_7
      have cu70 := u7_8.cell (j := 0) rfl
      have cu71 := u7_8.cell (j := 1) rfl
      have cu72 := u7_8.cell (j := 2) rfl
      have cu73 := u7_8.cell (j := 3) rfl
      have co90 := o9_8.cell (j := 0) rfl
      have co91 := o9_8.cell (j := 1) rfl
      have co92 := o9_8.cell (j := 2) rfl
      have ca130 := a13_8.cell (j := 0) rfl
      have ca131 := a13_8.cell (j := 1) rfl
      have ca132 := a13_8.cell (j := 2) rfl
      go_wp2_with (first
        | (with_reducible refine wpList_alloc_row (o := ⟨some 15, _, _, _, _, _⟩) rfl _ rfl zeroO zero_so ?_; intro w9 b15_9 s9 g9; have k9 : Below w8.heap.size w8 w9 := grown_below g9 (Nat.le_refl _) (by simp); have B9 := B8.trans (k9.mono B8.size); have f6_9 := f6_8.on k9; have u7_9 := u7_8.on k9; have g8_9 := g8_8.on k9; have o9_9 := o9_8.on k9; have a13_9 := a13_8.on k9; clear f6_8 u7_8 g8_8 o9_8 a13_8; have cu70 := u7_9.cell (j := 0) rfl; have cu71 := u7_9.cell (j := 1) rfl; have cu72 := u7_9.cell (j := 2) rfl; have cu73 := u7_9.cell (j := 3) rfl; have co90 := o9_9.cell (j := 0) rfl; have co91 := o9_9.cell (j := 1) rfl; have co92 := o9_9.cell (j := 2) rfl; have ca130 := a13_9.cell (j := 0) rfl; have ca131 := a13_9.cell (j := 1) rfl; have ca132 := a13_9.cell (j := 2) rfl)
        | ((with_reducible refine wpList_at ⟨none, .store _ (.tmp 15) _, _, _, _, _⟩ ?_); refine wpList_store_all rfl _ _ _ rfl (w8.heap.size) rfl _ _ b15_9 ((⟨os, S, oe⟩ : StO).cs) rfl ((⟨os, S, oe⟩ : StO).cs_one) rfl (by kernel_rfl) ?_; intro w10 b15_10 g10; have f6_10 := f6_9.kept g10 (by simp; omega); have u7_10 := u7_9.kept g10 (by simp; omega); have g8_10 := g8_9.kept g10 (by simp; omega); have o9_10 := o9_9.kept g10 (by simp; omega); have a13_10 := a13_9.kept g10 (by simp; omega); have B10 := below_kept B9 g10 B9.size (by rintro q hq; cases hq; omega); have sz10 := g10.size; clear f6_9 u7_9 g8_9 o9_9 a13_9; have cu70 := u7_10.cell (j := 0) rfl; have cu71 := u7_10.cell (j := 1) rfl; have cu72 := u7_10.cell (j := 2) rfl; have cu73 := u7_10.cell (j := 3) rfl; have ca130 := a13_10.cell (j := 0) rfl; have ca131 := a13_10.cell (j := 1) rfl; have ca132 := a13_10.cell (j := 2) rfl; have co90 := o9_10.cell (j := 0) rfl; have co91 := o9_10.cell (j := 1) rfl; have co92 := o9_10.cell (j := 2) rfl; have cb150 := b15_10.cell (j := 0) rfl; have cb151 := b15_10.cell (j := 1) rfl; have cb152 := b15_10.cell (j := 2) rfl)
        | ((with_reducible refine wpList_at ⟨some 55, _, _, _, _, _⟩ ?_); refine wpList_valueG rfl _ (by exact exec_loadO _ _ rfl (w8.heap.size) rfl (⟨os, S, oe⟩ : StO) b15_10) ?_)
        | ((with_reducible refine wpList_at ⟨some 56, _, _, _, _, _⟩ ?_); refine wpList_valueG rfl _ (by exact exec_loadO _ _ rfl (w5.heap.size) rfl (⟨os, S, oe⟩ : StO) a13_10) ?_)
        | ((with_reducible refine wpList_at ⟨some 57, _, _, _, _, _⟩ ?_); refine wpList_valueG rfl _ (by exact exec_eqlS _ _ _ rfl (⟨os, S, oe⟩ : StO) rfl rfl) ?_))
      go_ret
      exact ⟨rfl, B10⟩
    · have hc2 := hc.resolve_left (fun h => hq (by unfold stSt; rw [h]))
      obtain ⟨c2, e1, hl2, hch⟩ : ∃ c2, stCur u.r (stL R.m u.r) = (stSq fs u.r + 1, c2) ∧ c2.length ≤ 2000 ∧ stCh (stEnc u.r (stSq fs u.r + 1) (tl u.s)) (stEnc u.r (stSq fs u.r + 1) c2) := ⟨_, Prod.ext hc2.1 rfl, (stCur_nn _ _).2.2, hc2.2⟩
      rw [stSt_of e1 HBN.out] at HHK
      have hne : stEq (⟨mk c2, stSq fs u.r + 1, 0⟩ : StO) (⟨os, stSq fs u.r, oe⟩ : StO) = false := by
        rw [Bool.eq_false_iff]
        intro h
        exact hq (by rw [stSt_of e1 HBN.out, h0, stEq_iff.1 h])
      have HCH := fun X => Lib.hid (chance_any u (stSq fs u.r + 1) (stSq fs u.r + 1) (mk c2) X (by omega) (by omega) (by have := HS1.out; omega) (by have := HS1.out; omega) (by have := HS1.out; omega) (by have := HS1.out; omega) hsz (by rw [mk_size]; exact hl2) (by rw [tl_mk]; exact hch))
      clear hc hc2 e1 hch hq h0 HBN
      generalize stSq fs u.r = S at *
      have hs1 := HS1.out.1
      have hs2 := HS1.out.2
      clear hl2
      generalize mk c2 = zz2 at *
      by_cases hse : zz2 = u.s
      · have he : stEq (⟨zz2, S + 1, 0⟩ : StO) (⟨u.s, S + 1, 0⟩ : StO) = true := by rw [hse]; exact stEq_self _
        clear hse HCH
        unfold flv at *
        go_enter Tryd.func10, Tryd.ntmps10
        go_wp2_with (first
          | ((with_reducible refine wpList_at ⟨some 6, _, _, _, _, _⟩ ?_); refine wpList_box_row rfl _ _ rfl [.slice A n c] rfl ?_; intro w1 f6_1 s1 g1; have k1 : Below W.heap.size W w1 := grown_below g1 (Nat.le_refl _) (by simp); have B1 : Below W.heap.size W w1 := k1; have cf60 := f6_1.cell (j := 0) rfl)
          | ((with_reducible refine wpList_at ⟨some 7, _, _, _, _, _⟩ ?_); refine wpList_box_row rfl _ _ rfl (u.cs) rfl ?_; intro w2 u7_2 s2 g2; have k2 : Below w1.heap.size w1 w2 := grown_below g2 (Nat.le_refl _) (by simp); have B2 := B1.trans (k2.mono B1.size); have f6_2 := f6_1.on k2; clear f6_1; have cu70 := u7_2.cell (j := 0) rfl; have cu71 := u7_2.cell (j := 1) rfl; have cu72 := u7_2.cell (j := 2) rfl; have cu73 := u7_2.cell (j := 3) rfl)
          | ((with_reducible refine wpList_at ⟨some 8, _, _, _, _, _⟩ ?_); refine wpList_box_row rfl _ _ rfl [.slice A' n' c'] rfl ?_; intro w3 g8_3 s3 g3; have k3 : Below w2.heap.size w2 w3 := grown_below g3 (Nat.le_refl _) (by simp); have B3 := B2.trans (k3.mono B2.size); have f6_3 := f6_2.on k3; have u7_3 := u7_2.on k3; clear f6_2 u7_2; have cu70 := u7_3.cell (j := 0) rfl; have cu71 := u7_3.cell (j := 1) rfl; have cu72 := u7_3.cell (j := 2) rfl; have cu73 := u7_3.cell (j := 3) rfl; have cg80 := g8_3.cell (j := 0) rfl)
          | ((with_reducible refine wpList_at ⟨some 9, _, _, _, _, _⟩ ?_); refine wpList_box_row rfl _ _ rfl (R.o.cs) rfl ?_; intro w4 o9_4 s4 g4; have k4 : Below w3.heap.size w3 w4 := grown_below g4 (Nat.le_refl _) (by simp); have B4 := B3.trans (k4.mono B3.size); have f6_4 := f6_3.on k4; have u7_4 := u7_3.on k4; have g8_4 := g8_3.on k4; clear f6_3 u7_3 g8_3; have cu70 := u7_4.cell (j := 0) rfl; have cu71 := u7_4.cell (j := 1) rfl; have cu72 := u7_4.cell (j := 2) rfl; have cu73 := u7_4.cell (j := 3) rfl; have co90 := o9_4.cell (j := 0) rfl; have co91 := o9_4.cell (j := 1) rfl; have co92 := o9_4.cell (j := 2) rfl)
          | ((with_reducible refine wpList_at ⟨some 18, _, _, _, _, _⟩ ?_); refine wpList_valueG rfl _ (by exact exec_loadFl _ _ rfl (W.heap.size) rfl A n c f6_4) ?_))
        have l5f6 := f6_4.lt
        have l5u7 := u7_4.lt
        have l5g8 := g8_4.lt
        have l5o9 := o9_4.lt
        have lB5 := B4.size
        refine (HGK _ B4).out.mono ?_
        rintro e w5 ⟨rfl, h5⟩
        have hs5 := h5.size
        have B5 := B4.trans (h5.mono B4.size)
        have f6_5 := f6_4.on h5
        have u7_5 := u7_4.on h5
        have g8_5 := g8_4.on h5
        have o9_5 := o9_4.on h5
        clear f6_4 u7_4 g8_4 o9_4
        have cu70 := u7_5.cell (j := 0) rfl
        have cu71 := u7_5.cell (j := 1) rfl
        have cu72 := u7_5.cell (j := 2) rfl
        have cu73 := u7_5.cell (j := 3) rfl
        have co90 := o9_5.cell (j := 0) rfl
        have co91 := o9_5.cell (j := 1) rfl
        have co92 := o9_5.cell (j := 2) rfl
        go_wp2_with (first
          | (with_reducible refine wpList_alloc_row (o := ⟨some 13, _, _, _, _, _⟩) rfl _ rfl zeroO zero_so ?_; intro w6 a13_6 s6 g6; have k6 : Below w5.heap.size w5 w6 := grown_below g6 (Nat.le_refl _) (by simp); have B6 := B5.trans (k6.mono B5.size); have f6_6 := f6_5.on k6; have u7_6 := u7_5.on k6; have g8_6 := g8_5.on k6; have o9_6 := o9_5.on k6; clear f6_5 u7_5 g8_5 o9_5; have cu70 := u7_6.cell (j := 0) rfl; have cu71 := u7_6.cell (j := 1) rfl; have cu72 := u7_6.cell (j := 2) rfl; have cu73 := u7_6.cell (j := 3) rfl; have co90 := o9_6.cell (j := 0) rfl; have co91 := o9_6.cell (j := 1) rfl; have co92 := o9_6.cell (j := 2) rfl)
          | ((with_reducible refine wpList_at ⟨none, .store _ (.tmp 13) _, _, _, _, _⟩ ?_); refine wpList_store_all rfl _ _ _ rfl (w5.heap.size) rfl _ _ a13_6 ((⟨os, S, oe⟩ : StO).cs) rfl ((⟨os, S, oe⟩ : StO).cs_one) rfl (by kernel_rfl) ?_; intro w7 a13_7 g7; have f6_7 := f6_6.kept g7 (by simp; omega); have u7_7 := u7_6.kept g7 (by simp; omega); have g8_7 := g8_6.kept g7 (by simp; omega); have o9_7 := o9_6.kept g7 (by simp; omega); have B7 := below_kept B6 g7 B6.size (by rintro q hq; cases hq; omega); have sz7 := g7.size; clear f6_6 u7_6 g8_6 o9_6; have cu70 := u7_7.cell (j := 0) rfl; have cu71 := u7_7.cell (j := 1) rfl; have cu72 := u7_7.cell (j := 2) rfl; have cu73 := u7_7.cell (j := 3) rfl; have co90 := o9_7.cell (j := 0) rfl; have co91 := o9_7.cell (j := 1) rfl; have co92 := o9_7.cell (j := 2) rfl; have ca130 := a13_7.cell (j := 0) rfl; have ca131 := a13_7.cell (j := 1) rfl; have ca132 := a13_7.cell (j := 2) rfl)
          | ((with_reducible refine wpList_at ⟨some 25, _, _, _, _, _⟩ ?_); refine wpList_valueG rfl _ (by exact exec_loadFl _ _ rfl (w2.heap.size) rfl A' n' c' g8_7) ?_))
        have l8f6 := f6_7.lt
        have l8u7 := u7_7.lt
        have l8g8 := g8_7.lt
        have l8o9 := o9_7.lt
        have l8a13 := a13_7.lt
        have lB8 := B7.size
        refine (HHK _ B7).out.mono ?_
        rintro e w8 ⟨rfl, h8⟩
        have hs8 := h8.size
        have B8 := B7.trans (h8.mono B7.size)
        have f6_8 := f6_7.on h8
        have u7_8 := u7_7.on h8
        have g8_8 := g8_7.on h8
        have o9_8 := o9_7.on h8
        have a13_8 := a13_7.on h8
        clear f6_7 u7_7 g8_7 o9_7 a13_7
        have cu70 := u7_8.cell (j := 0) rfl
        have cu71 := u7_8.cell (j := 1) rfl
        have cu72 := u7_8.cell (j := 2) rfl
        have cu73 := u7_8.cell (j := 3) rfl
        have co90 := o9_8.cell (j := 0) rfl
        have co91 := o9_8.cell (j := 1) rfl
        have co92 := o9_8.cell (j := 2) rfl
        have ca130 := a13_8.cell (j := 0) rfl
        have ca131 := a13_8.cell (j := 1) rfl
        have ca132 := a13_8.cell (j := 2) rfl
        go_wp2_with (first
          | (with_reducible refine wpList_alloc_row (o := ⟨some 15, _, _, _, _, _⟩) rfl _ rfl zeroO zero_so ?_; intro w9 b15_9 s9 g9; have k9 : Below w8.heap.size w8 w9 := grown_below g9 (Nat.le_refl _) (by simp); have B9 := B8.trans (k9.mono B8.size); have f6_9 := f6_8.on k9; have u7_9 := u7_8.on k9; have g8_9 := g8_8.on k9; have o9_9 := o9_8.on k9; have a13_9 := a13_8.on k9; clear f6_8 u7_8 g8_8 o9_8 a13_8; have cu70 := u7_9.cell (j := 0) rfl; have cu71 := u7_9.cell (j := 1) rfl; have cu72 := u7_9.cell (j := 2) rfl; have cu73 := u7_9.cell (j := 3) rfl; have co90 := o9_9.cell (j := 0) rfl; have co91 := o9_9.cell (j := 1) rfl; have co92 := o9_9.cell (j := 2) rfl; have ca130 := a13_9.cell (j := 0) rfl; have ca131 := a13_9.cell (j := 1) rfl; have ca132 := a13_9.cell (j := 2) rfl)
          | ((with_reducible refine wpList_at ⟨none, .store _ (.tmp 15) _, _, _, _, _⟩ ?_); refine wpList_store_all rfl _ _ _ rfl (w8.heap.size) rfl _ _ b15_9 ((⟨zz2, S + 1, 0⟩ : StO).cs) rfl ((⟨zz2, S + 1, 0⟩ : StO).cs_one) rfl (by kernel_rfl) ?_; intro w10 b15_10 g10; have f6_10 := f6_9.kept g10 (by simp; omega); have u7_10 := u7_9.kept g10 (by simp; omega); have g8_10 := g8_9.kept g10 (by simp; omega); have o9_10 := o9_9.kept g10 (by simp; omega); have a13_10 := a13_9.kept g10 (by simp; omega); have B10 := below_kept B9 g10 B9.size (by rintro q hq; cases hq; omega); have sz10 := g10.size; clear f6_9 u7_9 g8_9 o9_9 a13_9; have cu70 := u7_10.cell (j := 0) rfl; have cu71 := u7_10.cell (j := 1) rfl; have cu72 := u7_10.cell (j := 2) rfl; have cu73 := u7_10.cell (j := 3) rfl; have ca130 := a13_10.cell (j := 0) rfl; have ca131 := a13_10.cell (j := 1) rfl; have ca132 := a13_10.cell (j := 2) rfl; have co90 := o9_10.cell (j := 0) rfl; have co91 := o9_10.cell (j := 1) rfl; have co92 := o9_10.cell (j := 2) rfl; have cb150 := b15_10.cell (j := 0) rfl; have cb151 := b15_10.cell (j := 1) rfl; have cb152 := b15_10.cell (j := 2) rfl; have cb150 := b15_10.cell (j := 0) rfl; have cb151 := b15_10.cell (j := 1) rfl; have cb152 := b15_10.cell (j := 2) rfl)
          | ((with_reducible refine wpList_at ⟨some 55, _, _, _, _, _⟩ ?_); refine wpList_valueG rfl _ (by exact exec_loadO _ _ rfl (w8.heap.size) rfl (⟨zz2, S + 1, 0⟩ : StO) b15_10) ?_)
          | ((with_reducible refine wpList_at ⟨some 56, _, _, _, _, _⟩ ?_); refine wpList_valueG rfl _ (by exact exec_loadO _ _ rfl (w5.heap.size) rfl (⟨os, S, oe⟩ : StO) a13_10) ?_)
          | ((with_reducible refine wpList_at ⟨some 57, _, _, _, _, _⟩ ?_); refine wpList_valueG rfl _ (by exact exec_eqlO _ _ _ rfl (⟨zz2, S + 1, 0⟩ : StO) (⟨os, S, oe⟩ : StO) rfl rfl) ?_)
          | ((with_reducible refine wpList_at ⟨some 59, _, _, _, _, _⟩ ?_); refine wpList_valueG rfl _ (by exact exec_loadO _ _ rfl (w8.heap.size) rfl (⟨zz2, S + 1, 0⟩ : StO) b15_10) ?_)
          | ((with_reducible refine wpList_at ⟨some 66, _, _, _, _, _⟩ ?_); refine wpList_valueG rfl _ (by exact exec_eqlO _ _ _ rfl (⟨zz2, S + 1, 0⟩ : StO) (⟨u.s, S + 1, 0⟩ : StO) rfl rfl) ?_))
        go_ret
        exact ⟨rfl, B10⟩
      · have he : stEq (⟨zz2, S + 1, 0⟩ : StO) (⟨u.s, S + 1, 0⟩ : StO) = false := by
          rw [Bool.eq_false_iff]
          intro h
          exact hse (StO.mk.inj (stEq_iff.1 h)).1
        clear hse
        unfold flv at *
        go_enter Tryd.func10, Tryd.ntmps10
        go_wp2_with (first
          | ((with_reducible refine wpList_at ⟨some 6, _, _, _, _, _⟩ ?_); refine wpList_box_row rfl _ _ rfl [.slice A n c] rfl ?_; intro w1 f6_1 s1 g1; have k1 : Below W.heap.size W w1 := grown_below g1 (Nat.le_refl _) (by simp); have B1 : Below W.heap.size W w1 := k1; have cf60 := f6_1.cell (j := 0) rfl)
          | ((with_reducible refine wpList_at ⟨some 7, _, _, _, _, _⟩ ?_); refine wpList_box_row rfl _ _ rfl (u.cs) rfl ?_; intro w2 u7_2 s2 g2; have k2 : Below w1.heap.size w1 w2 := grown_below g2 (Nat.le_refl _) (by simp); have B2 := B1.trans (k2.mono B1.size); have f6_2 := f6_1.on k2; clear f6_1; have cu70 := u7_2.cell (j := 0) rfl; have cu71 := u7_2.cell (j := 1) rfl; have cu72 := u7_2.cell (j := 2) rfl; have cu73 := u7_2.cell (j := 3) rfl)
          | ((with_reducible refine wpList_at ⟨some 8, _, _, _, _, _⟩ ?_); refine wpList_box_row rfl _ _ rfl [.slice A' n' c'] rfl ?_; intro w3 g8_3 s3 g3; have k3 : Below w2.heap.size w2 w3 := grown_below g3 (Nat.le_refl _) (by simp); have B3 := B2.trans (k3.mono B2.size); have f6_3 := f6_2.on k3; have u7_3 := u7_2.on k3; clear f6_2 u7_2; have cu70 := u7_3.cell (j := 0) rfl; have cu71 := u7_3.cell (j := 1) rfl; have cu72 := u7_3.cell (j := 2) rfl; have cu73 := u7_3.cell (j := 3) rfl; have cg80 := g8_3.cell (j := 0) rfl)
          | ((with_reducible refine wpList_at ⟨some 9, _, _, _, _, _⟩ ?_); refine wpList_box_row rfl _ _ rfl (R.o.cs) rfl ?_; intro w4 o9_4 s4 g4; have k4 : Below w3.heap.size w3 w4 := grown_below g4 (Nat.le_refl _) (by simp); have B4 := B3.trans (k4.mono B3.size); have f6_4 := f6_3.on k4; have u7_4 := u7_3.on k4; have g8_4 := g8_3.on k4; clear f6_3 u7_3 g8_3; have cu70 := u7_4.cell (j := 0) rfl; have cu71 := u7_4.cell (j := 1) rfl; have cu72 := u7_4.cell (j := 2) rfl; have cu73 := u7_4.cell (j := 3) rfl; have co90 := o9_4.cell (j := 0) rfl; have co91 := o9_4.cell (j := 1) rfl; have co92 := o9_4.cell (j := 2) rfl)
          | ((with_reducible refine wpList_at ⟨some 18, _, _, _, _, _⟩ ?_); refine wpList_valueG rfl _ (by exact exec_loadFl _ _ rfl (W.heap.size) rfl A n c f6_4) ?_))
        have l5f6 := f6_4.lt
        have l5u7 := u7_4.lt
        have l5g8 := g8_4.lt
        have l5o9 := o9_4.lt
        have lB5 := B4.size
        refine (HGK _ B4).out.mono ?_
        rintro e w5 ⟨rfl, h5⟩
        have hs5 := h5.size
        have B5 := B4.trans (h5.mono B4.size)
        have f6_5 := f6_4.on h5
        have u7_5 := u7_4.on h5
        have g8_5 := g8_4.on h5
        have o9_5 := o9_4.on h5
        clear f6_4 u7_4 g8_4 o9_4
        have cu70 := u7_5.cell (j := 0) rfl
        have cu71 := u7_5.cell (j := 1) rfl
        have cu72 := u7_5.cell (j := 2) rfl
        have cu73 := u7_5.cell (j := 3) rfl
        have co90 := o9_5.cell (j := 0) rfl
        have co91 := o9_5.cell (j := 1) rfl
        have co92 := o9_5.cell (j := 2) rfl
        go_wp2_with (first
          | (with_reducible refine wpList_alloc_row (o := ⟨some 13, _, _, _, _, _⟩) rfl _ rfl zeroO zero_so ?_; intro w6 a13_6 s6 g6; have k6 : Below w5.heap.size w5 w6 := grown_below g6 (Nat.le_refl _) (by simp); have B6 := B5.trans (k6.mono B5.size); have f6_6 := f6_5.on k6; have u7_6 := u7_5.on k6; have g8_6 := g8_5.on k6; have o9_6 := o9_5.on k6; clear f6_5 u7_5 g8_5 o9_5; have cu70 := u7_6.cell (j := 0) rfl; have cu71 := u7_6.cell (j := 1) rfl; have cu72 := u7_6.cell (j := 2) rfl; have cu73 := u7_6.cell (j := 3) rfl; have co90 := o9_6.cell (j := 0) rfl; have co91 := o9_6.cell (j := 1) rfl; have co92 := o9_6.cell (j := 2) rfl)
          | ((with_reducible refine wpList_at ⟨none, .store _ (.tmp 13) _, _, _, _, _⟩ ?_); refine wpList_store_all rfl _ _ _ rfl (w5.heap.size) rfl _ _ a13_6 ((⟨os, S, oe⟩ : StO).cs) rfl ((⟨os, S, oe⟩ : StO).cs_one) rfl (by kernel_rfl) ?_; intro w7 a13_7 g7; have f6_7 := f6_6.kept g7 (by simp; omega); have u7_7 := u7_6.kept g7 (by simp; omega); have g8_7 := g8_6.kept g7 (by simp; omega); have o9_7 := o9_6.kept g7 (by simp; omega); have B7 := below_kept B6 g7 B6.size (by rintro q hq; cases hq; omega); have sz7 := g7.size; clear f6_6 u7_6 g8_6 o9_6; have cu70 := u7_7.cell (j := 0) rfl; have cu71 := u7_7.cell (j := 1) rfl; have cu72 := u7_7.cell (j := 2) rfl; have cu73 := u7_7.cell (j := 3) rfl; have co90 := o9_7.cell (j := 0) rfl; have co91 := o9_7.cell (j := 1) rfl; have co92 := o9_7.cell (j := 2) rfl; have ca130 := a13_7.cell (j := 0) rfl; have ca131 := a13_7.cell (j := 1) rfl; have ca132 := a13_7.cell (j := 2) rfl)
          | ((with_reducible refine wpList_at ⟨some 25, _, _, _, _, _⟩ ?_); refine wpList_valueG rfl _ (by exact exec_loadFl _ _ rfl (w2.heap.size) rfl A' n' c' g8_7) ?_))
        have l8f6 := f6_7.lt
        have l8u7 := u7_7.lt
        have l8g8 := g8_7.lt
        have l8o9 := o9_7.lt
        have l8a13 := a13_7.lt
        have lB8 := B7.size
        refine (HHK _ B7).out.mono ?_
        rintro e w8 ⟨rfl, h8⟩
        have hs8 := h8.size
        have B8 := B7.trans (h8.mono B7.size)
        have f6_8 := f6_7.on h8
        have u7_8 := u7_7.on h8
        have g8_8 := g8_7.on h8
        have o9_8 := o9_7.on h8
        have a13_8 := a13_7.on h8
        clear f6_7 u7_7 g8_7 o9_7 a13_7
        have cu70 := u7_8.cell (j := 0) rfl
        have cu71 := u7_8.cell (j := 1) rfl
        have cu72 := u7_8.cell (j := 2) rfl
        have cu73 := u7_8.cell (j := 3) rfl
        have co90 := o9_8.cell (j := 0) rfl
        have co91 := o9_8.cell (j := 1) rfl
        have co92 := o9_8.cell (j := 2) rfl
        have ca130 := a13_8.cell (j := 0) rfl
        have ca131 := a13_8.cell (j := 1) rfl
        have ca132 := a13_8.cell (j := 2) rfl
        go_wp2_with (first
          | (with_reducible refine wpList_alloc_row (o := ⟨some 15, _, _, _, _, _⟩) rfl _ rfl zeroO zero_so ?_; intro w9 b15_9 s9 g9; have k9 : Below w8.heap.size w8 w9 := grown_below g9 (Nat.le_refl _) (by simp); have B9 := B8.trans (k9.mono B8.size); have f6_9 := f6_8.on k9; have u7_9 := u7_8.on k9; have g8_9 := g8_8.on k9; have o9_9 := o9_8.on k9; have a13_9 := a13_8.on k9; clear f6_8 u7_8 g8_8 o9_8 a13_8; have cu70 := u7_9.cell (j := 0) rfl; have cu71 := u7_9.cell (j := 1) rfl; have cu72 := u7_9.cell (j := 2) rfl; have cu73 := u7_9.cell (j := 3) rfl; have co90 := o9_9.cell (j := 0) rfl; have co91 := o9_9.cell (j := 1) rfl; have co92 := o9_9.cell (j := 2) rfl; have ca130 := a13_9.cell (j := 0) rfl; have ca131 := a13_9.cell (j := 1) rfl; have ca132 := a13_9.cell (j := 2) rfl)
          | ((with_reducible refine wpList_at ⟨none, .store _ (.tmp 15) _, _, _, _, _⟩ ?_); refine wpList_store_all rfl _ _ _ rfl (w8.heap.size) rfl _ _ b15_9 ((⟨zz2, S + 1, 0⟩ : StO).cs) rfl ((⟨zz2, S + 1, 0⟩ : StO).cs_one) rfl (by kernel_rfl) ?_; intro w10 b15_10 g10; have f6_10 := f6_9.kept g10 (by simp; omega); have u7_10 := u7_9.kept g10 (by simp; omega); have g8_10 := g8_9.kept g10 (by simp; omega); have o9_10 := o9_9.kept g10 (by simp; omega); have a13_10 := a13_9.kept g10 (by simp; omega); have B10 := below_kept B9 g10 B9.size (by rintro q hq; cases hq; omega); have sz10 := g10.size; clear f6_9 u7_9 g8_9 o9_9 a13_9; have cu70 := u7_10.cell (j := 0) rfl; have cu71 := u7_10.cell (j := 1) rfl; have cu72 := u7_10.cell (j := 2) rfl; have cu73 := u7_10.cell (j := 3) rfl; have ca130 := a13_10.cell (j := 0) rfl; have ca131 := a13_10.cell (j := 1) rfl; have ca132 := a13_10.cell (j := 2) rfl; have co90 := o9_10.cell (j := 0) rfl; have co91 := o9_10.cell (j := 1) rfl; have co92 := o9_10.cell (j := 2) rfl; have cb150 := b15_10.cell (j := 0) rfl; have cb151 := b15_10.cell (j := 1) rfl; have cb152 := b15_10.cell (j := 2) rfl; have cb150 := b15_10.cell (j := 0) rfl; have cb151 := b15_10.cell (j := 1) rfl; have cb152 := b15_10.cell (j := 2) rfl)
          | ((with_reducible refine wpList_at ⟨some 55, _, _, _, _, _⟩ ?_); refine wpList_valueG rfl _ (by exact exec_loadO _ _ rfl (w8.heap.size) rfl (⟨zz2, S + 1, 0⟩ : StO) b15_10) ?_)
          | ((with_reducible refine wpList_at ⟨some 56, _, _, _, _, _⟩ ?_); refine wpList_valueG rfl _ (by exact exec_loadO _ _ rfl (w5.heap.size) rfl (⟨os, S, oe⟩ : StO) a13_10) ?_)
          | ((with_reducible refine wpList_at ⟨some 57, _, _, _, _, _⟩ ?_); refine wpList_valueG rfl _ (by exact exec_eqlO _ _ _ rfl (⟨zz2, S + 1, 0⟩ : StO) (⟨os, S, oe⟩ : StO) rfl rfl) ?_)
          | ((with_reducible refine wpList_at ⟨some 59, _, _, _, _, _⟩ ?_); refine wpList_valueG rfl _ (by exact exec_loadO _ _ rfl (w8.heap.size) rfl (⟨zz2, S + 1, 0⟩ : StO) b15_10) ?_)
          | ((with_reducible refine wpList_at ⟨some 66, _, _, _, _, _⟩ ?_); refine wpList_valueG rfl _ (by exact exec_eqlO _ _ _ rfl (⟨zz2, S + 1, 0⟩ : StO) (⟨u.s, S + 1, 0⟩ : StO) rfl rfl) ?_)
          | ((with_reducible refine wpList_at ⟨some 69, _, _, _, _, _⟩ ?_); refine wpList_valueG rfl _ (by exact exec_loadU _ _ rfl (w1.heap.size) rfl u u7_10) ?_)
          | ((with_reducible refine wpList_at ⟨some 73, _, _, _, _, _⟩ ?_); refine wpList_valueG rfl _ (by exact exec_loadO _ _ rfl (w8.heap.size) rfl (⟨zz2, S + 1, 0⟩ : StO) b15_10) ?_))
        have l11f6 := f6_10.lt
        have l11u7 := u7_10.lt
        have l11g8 := g8_10.lt
        have l11o9 := o9_10.lt
        have l11a13 := a13_10.lt
        have l11b15 := b15_10.lt
        have lB11 := B10.size
        refine (HCH _).out.mono ?_
        rintro e w11 ⟨rfl, h11⟩
        have hs11 := h11.size
        have B11 := B10.trans (h11.mono B10.size)
        have f6_11 := f6_10.on h11
        have u7_11 := u7_10.on h11
        have g8_11 := g8_10.on h11
        have o9_11 := o9_10.on h11
        have a13_11 := a13_10.on h11
        have b15_11 := b15_10.on h11
        clear f6_10 u7_10 g8_10 o9_10 a13_10 b15_10
        have cu70 := u7_11.cell (j := 0) rfl
        have cu71 := u7_11.cell (j := 1) rfl
        have cu72 := u7_11.cell (j := 2) rfl
        have cu73 := u7_11.cell (j := 3) rfl
        have co90 := o9_11.cell (j := 0) rfl
        have co91 := o9_11.cell (j := 1) rfl
        have co92 := o9_11.cell (j := 2) rfl
        have ca130 := a13_11.cell (j := 0) rfl
        have ca131 := a13_11.cell (j := 1) rfl
        have ca132 := a13_11.cell (j := 2) rfl
        have cb150 := b15_11.cell (j := 0) rfl
        have cb151 := b15_11.cell (j := 1) rfl
        have cb152 := b15_11.cell (j := 2) rfl
        go_wp2_with fail
        go_ret
        exact ⟨rfl, B11⟩
end Go.Proofs.YtfclifolniefpaaDoor
