/-
  FlashMatchesSpec's walk. No condition.
-/
import Derived.Test.YtlllllcmbnmmkaaW85
namespace Go.Proofs.Ytlllllcmbnmmkaa
open Go.RowKit

set_option maxRecDepth 100000 in
set_option maxHeartbeats 8000000 in
theorem walk81 (A B : Option Addr) (n c m d : Nat) (fs gs : List ByteArray) (k : Int) (b : ByteArray) (cut : Int) (w : World) (hok : FlOK w A n c fs) (hog : FlOK w B m d gs) :
    Calls Try.prog 3 #[.agg #[.slice A n c, .slice B m d, .int .i64 k, .string b, .int .i64 cut]] w (TellsB true w) := by
  have HSA := fun W => sanity8_any W
  have HOK := Lib.hid hok
  have HOG := Lib.hid hog
  have HLN := Lib.hid hok.len
  have HS1 := fun W (h : FlOK W A n c fs) => Lib.hid (rsmall_any A n c fs W h)
  have HS2 := fun W (h : FlOK W B m d gs) => Lib.hid (rsmall_any B m d gs W h)
  unfold flv at HS1 HS2
  clear hok hog
  cases h1 : flSmall fs with
  | false =>
    rw [h1] at HS1
    clear h1
    go_enter Try.func3, Try.ntmps3
    go_wp2_with (first
      | (with_reducible refine wpList_box_row (o := ⟨some 1, _, _, _, _, _⟩) rfl _ _ rfl [.slice A n c, .slice B m d, .int .i64 k, .string b, .int .i64 cut] rfl ?_; intro w1 rin_1 s1 g1; have k1 : Below w.heap.size w w1 := grown_below g1 (Nat.le_refl _) (by simp); have B1 : Below w.heap.size w w1 := k1; have okf_1 := HOK.out.on k1; have okg_1 := HOG.out.on k1; have crin0 := rin_1.cell (j := 0) rfl; have crin1 := rin_1.cell (j := 1) rfl; have crin2 := rin_1.cell (j := 2) rfl; have crin3 := rin_1.cell (j := 3) rfl; have crin4 := rin_1.cell (j := 4) rfl)
      | (with_reducible refine wpList_alloc_row (o := ⟨some 3, _, _, _, _, _⟩) rfl _ rfl [.slice none 0 0] (by kernel_rfl) ?_; intro w2 r2 s2 g2)
      | ((with_reducible refine wpList_at ⟨none, .store _ (.tmp 3) _, _, _, _, _⟩ ?_); refine wpList_store_all rfl _ _ _ rfl w1.heap.size rfl _ _ r2 [.slice A n c] rfl (slice_one _ _ _) rfl (by kernel_rfl) ?_; intro w3 f_3 g3; have k3 : Below w1.heap.size w1 w3 := below_kept (grown_below g2 (Nat.le_refl _) (by simp)) g3 (Nat.le_of_lt s2) (by rintro q hq; cases hq; exact Nat.le_refl _); have B3 := B1.trans (k3.mono B1.size); have okf_3 := okf_1.on k3; have okg_3 := okg_1.on k3; have rin_3 := rin_1.on k3; clear okf_1 okg_1 rin_1; have crin0 := rin_3.cell (j := 0) rfl; have crin1 := rin_3.cell (j := 1) rfl; have crin2 := rin_3.cell (j := 2) rfl; have crin3 := rin_3.cell (j := 3) rfl; have crin4 := rin_3.cell (j := 4) rfl; have cf := f_3.cell (j := 0) rfl; clear r2 g2 g3)
      | (with_reducible refine wpList_alloc_row (o := ⟨some 4, _, _, _, _, _⟩) rfl _ rfl [.slice none 0 0] (by kernel_rfl) ?_; intro w4 r4 s4 g4)
      | ((with_reducible refine wpList_at ⟨none, .store _ (.tmp 4) _, _, _, _, _⟩ ?_); refine wpList_store_all rfl _ _ _ rfl w3.heap.size rfl _ _ r4 [.slice B m d] rfl (slice_one _ _ _) rfl (by kernel_rfl) ?_; intro w5 g_5 g5; have k5 : Below w3.heap.size w3 w5 := below_kept (grown_below g4 (Nat.le_refl _) (by simp)) g5 (Nat.le_of_lt s4) (by rintro q hq; cases hq; exact Nat.le_refl _); have B5 := B3.trans (k5.mono B3.size); have okf_5 := okf_3.on k5; have okg_5 := okg_3.on k5; have rin_5 := rin_3.on k5; have f_5 := f_3.on k5; clear okf_3 okg_3 rin_3 f_3; have cf := f_5.cell (j := 0) rfl; have crin0 := rin_5.cell (j := 0) rfl; have crin1 := rin_5.cell (j := 1) rfl; have crin2 := rin_5.cell (j := 2) rfl; have crin3 := rin_5.cell (j := 3) rfl; have crin4 := rin_5.cell (j := 4) rfl; have cg := g_5.cell (j := 0) rfl; clear r4 g4 g5))
    go_wp2_with fail
    refine (HSA _).mono ?_
    rintro e w6 ⟨rfl, h6⟩
    have B6 := B5.trans (h6.mono B5.size)
    have okf_6 := okf_5.on h6
    have okg_6 := okg_5.on h6
    have f_6 := f_5.on h6
    have g_6 := g_5.on h6
    clear okf_5 okg_5 f_5 g_5
    have cf := f_6.cell (j := 0) rfl
    have cg := g_6.cell (j := 0) rfl
    go_wp2_with fail
    refine ((HS1 _ okf_6).out).mono ?_
    rintro e w7 ⟨rfl, h7⟩
    have B7 := B6.trans (h7.mono B6.size)
    have okf_7 := okf_6.on h7
    have okg_7 := okg_6.on h7
    have f_7 := f_6.on h7
    have g_7 := g_6.on h7
    clear okf_6 okg_6 f_6 g_6
    have cf := f_7.cell (j := 0) rfl
    have cg := g_7.cell (j := 0) rfl
    go_wp2_with fail
    go_ret
    exact ⟨rfl, B7⟩
  | true =>
    have hn := small_len h1
    rw [HLN.out] at hn
    rw [h1] at HS1
    clear h1
    cases h2 : flSmall gs with
    | false =>
      rw [h2] at HS2
      clear h2
      go_enter Try.func3, Try.ntmps3
      go_wp2_with (first
        | (with_reducible refine wpList_box_row (o := ⟨some 1, _, _, _, _, _⟩) rfl _ _ rfl [.slice A n c, .slice B m d, .int .i64 k, .string b, .int .i64 cut] rfl ?_; intro w1 rin_1 s1 g1; have k1 : Below w.heap.size w w1 := grown_below g1 (Nat.le_refl _) (by simp); have B1 : Below w.heap.size w w1 := k1; have okf_1 := HOK.out.on k1; have okg_1 := HOG.out.on k1; have crin0 := rin_1.cell (j := 0) rfl; have crin1 := rin_1.cell (j := 1) rfl; have crin2 := rin_1.cell (j := 2) rfl; have crin3 := rin_1.cell (j := 3) rfl; have crin4 := rin_1.cell (j := 4) rfl)
        | (with_reducible refine wpList_alloc_row (o := ⟨some 3, _, _, _, _, _⟩) rfl _ rfl [.slice none 0 0] (by kernel_rfl) ?_; intro w2 r2 s2 g2)
        | ((with_reducible refine wpList_at ⟨none, .store _ (.tmp 3) _, _, _, _, _⟩ ?_); refine wpList_store_all rfl _ _ _ rfl w1.heap.size rfl _ _ r2 [.slice A n c] rfl (slice_one _ _ _) rfl (by kernel_rfl) ?_; intro w3 f_3 g3; have k3 : Below w1.heap.size w1 w3 := below_kept (grown_below g2 (Nat.le_refl _) (by simp)) g3 (Nat.le_of_lt s2) (by rintro q hq; cases hq; exact Nat.le_refl _); have B3 := B1.trans (k3.mono B1.size); have okf_3 := okf_1.on k3; have okg_3 := okg_1.on k3; have rin_3 := rin_1.on k3; clear okf_1 okg_1 rin_1; have crin0 := rin_3.cell (j := 0) rfl; have crin1 := rin_3.cell (j := 1) rfl; have crin2 := rin_3.cell (j := 2) rfl; have crin3 := rin_3.cell (j := 3) rfl; have crin4 := rin_3.cell (j := 4) rfl; have cf := f_3.cell (j := 0) rfl; clear r2 g2 g3)
        | (with_reducible refine wpList_alloc_row (o := ⟨some 4, _, _, _, _, _⟩) rfl _ rfl [.slice none 0 0] (by kernel_rfl) ?_; intro w4 r4 s4 g4)
        | ((with_reducible refine wpList_at ⟨none, .store _ (.tmp 4) _, _, _, _, _⟩ ?_); refine wpList_store_all rfl _ _ _ rfl w3.heap.size rfl _ _ r4 [.slice B m d] rfl (slice_one _ _ _) rfl (by kernel_rfl) ?_; intro w5 g_5 g5; have k5 : Below w3.heap.size w3 w5 := below_kept (grown_below g4 (Nat.le_refl _) (by simp)) g5 (Nat.le_of_lt s4) (by rintro q hq; cases hq; exact Nat.le_refl _); have B5 := B3.trans (k5.mono B3.size); have okf_5 := okf_3.on k5; have okg_5 := okg_3.on k5; have rin_5 := rin_3.on k5; have f_5 := f_3.on k5; clear okf_3 okg_3 rin_3 f_3; have cf := f_5.cell (j := 0) rfl; have crin0 := rin_5.cell (j := 0) rfl; have crin1 := rin_5.cell (j := 1) rfl; have crin2 := rin_5.cell (j := 2) rfl; have crin3 := rin_5.cell (j := 3) rfl; have crin4 := rin_5.cell (j := 4) rfl; have cg := g_5.cell (j := 0) rfl; clear r4 g4 g5))
      go_wp2_with fail
      refine (HSA _).mono ?_
      rintro e w6 ⟨rfl, h6⟩
      have B6 := B5.trans (h6.mono B5.size)
      have okf_6 := okf_5.on h6
      have okg_6 := okg_5.on h6
      have f_6 := f_5.on h6
      have g_6 := g_5.on h6
      clear okf_5 okg_5 f_5 g_5
      have cf := f_6.cell (j := 0) rfl
      have cg := g_6.cell (j := 0) rfl
      go_wp2_with fail
      refine ((HS1 _ okf_6).out).mono ?_
      rintro e w7 ⟨rfl, h7⟩
      have B7 := B6.trans (h7.mono B6.size)
      have okf_7 := okf_6.on h7
      have okg_7 := okg_6.on h7
      have f_7 := f_6.on h7
      have g_7 := g_6.on h7
      clear okf_6 okg_6 f_6 g_6
      have cf := f_7.cell (j := 0) rfl
      have cg := g_7.cell (j := 0) rfl
      go_wp2_with fail
      refine ((HS2 _ okg_7).out).mono ?_
      rintro e w8 ⟨rfl, h8⟩
      have B8 := B7.trans (h8.mono B7.size)
      have okf_8 := okf_7.on h8
      have okg_8 := okg_7.on h8
      have f_8 := f_7.on h8
      have g_8 := g_7.on h8
      clear okf_7 okg_7 f_7 g_7
      have cf := f_8.cell (j := 0) rfl
      have cg := g_8.cell (j := 0) rfl
      go_wp2_with fail
      go_ret
      exact ⟨rfl, B8⟩
    | true =>
      rw [h2] at HS2
      clear h2
      by_cases h300 : 300 < b.size
      · skip
        go_enter Try.func3, Try.ntmps3
        go_wp2_with (first
          | (with_reducible refine wpList_box_row (o := ⟨some 1, _, _, _, _, _⟩) rfl _ _ rfl [.slice A n c, .slice B m d, .int .i64 k, .string b, .int .i64 cut] rfl ?_; intro w1 rin_1 s1 g1; have k1 : Below w.heap.size w w1 := grown_below g1 (Nat.le_refl _) (by simp); have B1 : Below w.heap.size w w1 := k1; have okf_1 := HOK.out.on k1; have okg_1 := HOG.out.on k1; have crin0 := rin_1.cell (j := 0) rfl; have crin1 := rin_1.cell (j := 1) rfl; have crin2 := rin_1.cell (j := 2) rfl; have crin3 := rin_1.cell (j := 3) rfl; have crin4 := rin_1.cell (j := 4) rfl)
          | (with_reducible refine wpList_alloc_row (o := ⟨some 3, _, _, _, _, _⟩) rfl _ rfl [.slice none 0 0] (by kernel_rfl) ?_; intro w2 r2 s2 g2)
          | ((with_reducible refine wpList_at ⟨none, .store _ (.tmp 3) _, _, _, _, _⟩ ?_); refine wpList_store_all rfl _ _ _ rfl w1.heap.size rfl _ _ r2 [.slice A n c] rfl (slice_one _ _ _) rfl (by kernel_rfl) ?_; intro w3 f_3 g3; have k3 : Below w1.heap.size w1 w3 := below_kept (grown_below g2 (Nat.le_refl _) (by simp)) g3 (Nat.le_of_lt s2) (by rintro q hq; cases hq; exact Nat.le_refl _); have B3 := B1.trans (k3.mono B1.size); have okf_3 := okf_1.on k3; have okg_3 := okg_1.on k3; have rin_3 := rin_1.on k3; clear okf_1 okg_1 rin_1; have crin0 := rin_3.cell (j := 0) rfl; have crin1 := rin_3.cell (j := 1) rfl; have crin2 := rin_3.cell (j := 2) rfl; have crin3 := rin_3.cell (j := 3) rfl; have crin4 := rin_3.cell (j := 4) rfl; have cf := f_3.cell (j := 0) rfl; clear r2 g2 g3)
          | (with_reducible refine wpList_alloc_row (o := ⟨some 4, _, _, _, _, _⟩) rfl _ rfl [.slice none 0 0] (by kernel_rfl) ?_; intro w4 r4 s4 g4)
          | ((with_reducible refine wpList_at ⟨none, .store _ (.tmp 4) _, _, _, _, _⟩ ?_); refine wpList_store_all rfl _ _ _ rfl w3.heap.size rfl _ _ r4 [.slice B m d] rfl (slice_one _ _ _) rfl (by kernel_rfl) ?_; intro w5 g_5 g5; have k5 : Below w3.heap.size w3 w5 := below_kept (grown_below g4 (Nat.le_refl _) (by simp)) g5 (Nat.le_of_lt s4) (by rintro q hq; cases hq; exact Nat.le_refl _); have B5 := B3.trans (k5.mono B3.size); have okf_5 := okf_3.on k5; have okg_5 := okg_3.on k5; have rin_5 := rin_3.on k5; have f_5 := f_3.on k5; clear okf_3 okg_3 rin_3 f_3; have cf := f_5.cell (j := 0) rfl; have crin0 := rin_5.cell (j := 0) rfl; have crin1 := rin_5.cell (j := 1) rfl; have crin2 := rin_5.cell (j := 2) rfl; have crin3 := rin_5.cell (j := 3) rfl; have crin4 := rin_5.cell (j := 4) rfl; have cg := g_5.cell (j := 0) rfl; clear r4 g4 g5))
        go_wp2_with fail
        refine (HSA _).mono ?_
        rintro e w6 ⟨rfl, h6⟩
        have B6 := B5.trans (h6.mono B5.size)
        have okf_6 := okf_5.on h6
        have okg_6 := okg_5.on h6
        have f_6 := f_5.on h6
        have g_6 := g_5.on h6
        clear okf_5 okg_5 f_5 g_5
        have cf := f_6.cell (j := 0) rfl
        have cg := g_6.cell (j := 0) rfl
        go_wp2_with fail
        refine ((HS1 _ okf_6).out).mono ?_
        rintro e w7 ⟨rfl, h7⟩
        have B7 := B6.trans (h7.mono B6.size)
        have okf_7 := okf_6.on h7
        have okg_7 := okg_6.on h7
        have f_7 := f_6.on h7
        have g_7 := g_6.on h7
        clear okf_6 okg_6 f_6 g_6
        have cf := f_7.cell (j := 0) rfl
        have cg := g_7.cell (j := 0) rfl
        go_wp2_with fail
        refine ((HS2 _ okg_7).out).mono ?_
        rintro e w8 ⟨rfl, h8⟩
        have B8 := B7.trans (h8.mono B7.size)
        have okf_8 := okf_7.on h8
        have okg_8 := okg_7.on h8
        have f_8 := f_7.on h8
        have g_8 := g_7.on h8
        clear okf_7 okg_7 f_7 g_7
        have cf := f_8.cell (j := 0) rfl
        have cg := g_8.cell (j := 0) rfl
        go_wp2_with fail
        go_ret
        exact ⟨rfl, B8⟩
      · have HN1 := fun W => Lib.hid (lnew_any k W)
        have HN2 := fun W => Lib.hid (rnew8_any k W)
        have HR1 := fun W (h : FlOK W A n c fs) => Lib.hid (lread_any A n c fs k W h)
        have HR2 := fun W (h : FlOK W A n c fs) => Lib.hid (rread8_any A n c fs k W h)
        have HW1 := fun W (h : FlOK W A n c fs) => Lib.hid (lwrite_any A n c fs k b cut W h (by omega))
        have HW2 := fun W (h : FlOK W A n c fs) => Lib.hid (rwrite8_any A n c fs k b cut W h (by omega))
        have HV1 := fun W (h : FlOK W A n c fs) => Lib.hid (lvalid_any A n c fs W h)
        have HV2 := fun W (h : FlOK W A n c fs) => Lib.hid (rvalid8_any A n c fs W h)
        have HE1 := fun W (h : FlOK W A n c fs) (g : FlOK W B m d gs) => Lib.hid (lsame_any A B n c m d fs gs W h g)
        have HE2 := fun W (h : FlOK W A n c fs) (g : FlOK W B m d gs) => Lib.hid (rsame8_any A B n c m d fs gs W h g)
        unfold flv at HR1 HR2 HW1 HW2 HV1 HV2 HE1 HE2
        generalize flNew k = N at *
        generalize flNewE k = NE at *
        generalize flRead fs k = R at *
        generalize flErr fs k = RE at *
        generalize flWrite fs k b cut = X at *
        generalize flWErr fs k b = XE at *
        generalize flValid fs = V at *
        generalize decide (fs = gs) = D at *
        go_enter Try.func3, Try.ntmps3
        go_wp2_with (first
          | (with_reducible refine wpList_box_row (o := ⟨some 1, _, _, _, _, _⟩) rfl _ _ rfl [.slice A n c, .slice B m d, .int .i64 k, .string b, .int .i64 cut] rfl ?_; intro w1 rin_1 s1 g1; have k1 : Below w.heap.size w w1 := grown_below g1 (Nat.le_refl _) (by simp); have B1 : Below w.heap.size w w1 := k1; have okf_1 := HOK.out.on k1; have okg_1 := HOG.out.on k1; have crin0 := rin_1.cell (j := 0) rfl; have crin1 := rin_1.cell (j := 1) rfl; have crin2 := rin_1.cell (j := 2) rfl; have crin3 := rin_1.cell (j := 3) rfl; have crin4 := rin_1.cell (j := 4) rfl)
          | (with_reducible refine wpList_alloc_row (o := ⟨some 3, _, _, _, _, _⟩) rfl _ rfl [.slice none 0 0] (by kernel_rfl) ?_; intro w2 r2 s2 g2)
          | ((with_reducible refine wpList_at ⟨none, .store _ (.tmp 3) _, _, _, _, _⟩ ?_); refine wpList_store_all rfl _ _ _ rfl w1.heap.size rfl _ _ r2 [.slice A n c] rfl (slice_one _ _ _) rfl (by kernel_rfl) ?_; intro w3 f_3 g3; have k3 : Below w1.heap.size w1 w3 := below_kept (grown_below g2 (Nat.le_refl _) (by simp)) g3 (Nat.le_of_lt s2) (by rintro q hq; cases hq; exact Nat.le_refl _); have B3 := B1.trans (k3.mono B1.size); have okf_3 := okf_1.on k3; have okg_3 := okg_1.on k3; have rin_3 := rin_1.on k3; clear okf_1 okg_1 rin_1; have crin0 := rin_3.cell (j := 0) rfl; have crin1 := rin_3.cell (j := 1) rfl; have crin2 := rin_3.cell (j := 2) rfl; have crin3 := rin_3.cell (j := 3) rfl; have crin4 := rin_3.cell (j := 4) rfl; have cf := f_3.cell (j := 0) rfl; clear r2 g2 g3)
          | (with_reducible refine wpList_alloc_row (o := ⟨some 4, _, _, _, _, _⟩) rfl _ rfl [.slice none 0 0] (by kernel_rfl) ?_; intro w4 r4 s4 g4)
          | ((with_reducible refine wpList_at ⟨none, .store _ (.tmp 4) _, _, _, _, _⟩ ?_); refine wpList_store_all rfl _ _ _ rfl w3.heap.size rfl _ _ r4 [.slice B m d] rfl (slice_one _ _ _) rfl (by kernel_rfl) ?_; intro w5 g_5 g5; have k5 : Below w3.heap.size w3 w5 := below_kept (grown_below g4 (Nat.le_refl _) (by simp)) g5 (Nat.le_of_lt s4) (by rintro q hq; cases hq; exact Nat.le_refl _); have B5 := B3.trans (k5.mono B3.size); have okf_5 := okf_3.on k5; have okg_5 := okg_3.on k5; have rin_5 := rin_3.on k5; have f_5 := f_3.on k5; clear okf_3 okg_3 rin_3 f_3; have cf := f_5.cell (j := 0) rfl; have crin0 := rin_5.cell (j := 0) rfl; have crin1 := rin_5.cell (j := 1) rfl; have crin2 := rin_5.cell (j := 2) rfl; have crin3 := rin_5.cell (j := 3) rfl; have crin4 := rin_5.cell (j := 4) rfl; have cg := g_5.cell (j := 0) rfl; clear r4 g4 g5))
        go_wp2_with fail
        refine (HSA _).mono ?_
        rintro e w6 ⟨rfl, h6⟩
        have B6 := B5.trans (h6.mono B5.size)
        have okf_6 := okf_5.on h6
        have okg_6 := okg_5.on h6
        have f_6 := f_5.on h6
        have g_6 := g_5.on h6
        clear okf_5 okg_5 f_5 g_5
        have cf := f_6.cell (j := 0) rfl
        have cg := g_6.cell (j := 0) rfl
        go_wp2_with fail
        refine ((HS1 _ okf_6).out).mono ?_
        rintro e w7 ⟨rfl, h7⟩
        have B7 := B6.trans (h7.mono B6.size)
        have okf_7 := okf_6.on h7
        have okg_7 := okg_6.on h7
        have f_7 := f_6.on h7
        have g_7 := g_6.on h7
        clear okf_6 okg_6 f_6 g_6
        have cf := f_7.cell (j := 0) rfl
        have cg := g_7.cell (j := 0) rfl
        go_wp2_with fail
        refine ((HS2 _ okg_7).out).mono ?_
        rintro e w8 ⟨rfl, h8⟩
        have B8 := B7.trans (h8.mono B7.size)
        have okf_8 := okf_7.on h8
        have okg_8 := okg_7.on h8
        have f_8 := f_7.on h8
        have g_8 := g_7.on h8
        clear okf_7 okg_7 f_7 g_7
        have cf := f_8.cell (j := 0) rfl
        have cg := g_8.cell (j := 0) rfl
        go_wp2_with fail
        refine ((HN1 _).out).mono ?_
        rintro e w9 ⟨Ap, np, mp, rfl, okp9, h9⟩
        have B9 := B8.trans (h9.mono B8.size)
        have okf_9 := okf_8.on h9
        have okg_9 := okg_8.on h9
        have f_9 := f_8.on h9
        have g_9 := g_8.on h9
        clear okf_8 okg_8 f_8 g_8
        have cf := f_9.cell (j := 0) rfl
        have cg := g_9.cell (j := 0) rfl
        unfold flv
        go_wp2_with (first
          | (with_reducible refine wpList_alloc_row (o := ⟨some 9, _, _, _, _, _⟩) rfl _ rfl [.slice none 0 0] (by kernel_rfl) ?_; intro w10 r10 s10 g10)
          | ((with_reducible refine wpList_at ⟨none, .store _ (.tmp 9) _, _, _, _, _⟩ ?_); refine wpList_store_all rfl _ _ _ rfl w9.heap.size rfl _ _ r10 [.slice Ap np mp] rfl (slice_one _ _ _) rfl (by kernel_rfl) ?_; intro w11 p_11 g11; have k11 : Below w9.heap.size w9 w11 := below_kept (grown_below g10 (Nat.le_refl _) (by simp)) g11 (Nat.le_of_lt s10) (by rintro q hq; cases hq; exact Nat.le_refl _); have B11 := B9.trans (k11.mono B9.size); have okf_11 := okf_9.on k11; have okg_11 := okg_9.on k11; have f_11 := f_9.on k11; have g_11 := g_9.on k11; have okp_11 := okp9.on k11; clear okf_9 okg_9 f_9 g_9; have cf := f_11.cell (j := 0) rfl; have cg := g_11.cell (j := 0) rfl; have cp := p_11.cell (j := 0) rfl; clear r10 g10 g11))
        refine ((HN2 _).out).mono ?_
        rintro e w12 ⟨Aq, nq, mq, rfl, okq12, h12⟩
        have B12 := B11.trans (h12.mono B11.size)
        have okf_12 := okf_11.on h12
        have okg_12 := okg_11.on h12
        have f_12 := f_11.on h12
        have g_12 := g_11.on h12
        have okp_12 := okp_11.on h12
        have p_12 := p_11.on h12
        clear okf_11 okg_11 f_11 g_11 okp_11 p_11
        have cf := f_12.cell (j := 0) rfl
        have cg := g_12.cell (j := 0) rfl
        have cp := p_12.cell (j := 0) rfl
        unfold flv
        go_wp2_with (first
          | (with_reducible refine wpList_alloc_row (o := ⟨some 11, _, _, _, _, _⟩) rfl _ rfl [.slice none 0 0] (by kernel_rfl) ?_; intro w13 r13 s13 g13)
          | ((with_reducible refine wpList_at ⟨none, .store _ (.tmp 11) _, _, _, _, _⟩ ?_); refine wpList_store_all rfl _ _ _ rfl w12.heap.size rfl _ _ r13 [.slice Aq nq mq] rfl (slice_one _ _ _) rfl (by kernel_rfl) ?_; intro w14 q_14 g14; have k14 : Below w12.heap.size w12 w14 := below_kept (grown_below g13 (Nat.le_refl _) (by simp)) g14 (Nat.le_of_lt s13) (by rintro q hq; cases hq; exact Nat.le_refl _); have B14 := B12.trans (k14.mono B12.size); have okf_14 := okf_12.on k14; have okg_14 := okg_12.on k14; have f_14 := f_12.on k14; have g_14 := g_12.on k14; have okp_14 := okp_12.on k14; have p_14 := p_12.on k14; have okq_14 := okq12.on k14; clear okf_12 okg_12 f_12 g_12 okp_12 p_12; have cf := f_14.cell (j := 0) rfl; have cg := g_14.cell (j := 0) rfl; have cp := p_14.cell (j := 0) rfl; have cq := q_14.cell (j := 0) rfl; clear r13 g13 g14))
        refine ((HR1 _ okf_14).out).mono ?_
        rintro e w15 ⟨rfl, h15⟩
        have B15 := B14.trans (h15.mono B14.size)
        have okf_15 := okf_14.on h15
        have okg_15 := okg_14.on h15
        have f_15 := f_14.on h15
        have g_15 := g_14.on h15
        have okp_15 := okp_14.on h15
        have p_15 := p_14.on h15
        have okq_15 := okq_14.on h15
        have q_15 := q_14.on h15
        clear okf_14 okg_14 f_14 g_14 okp_14 p_14 okq_14 q_14
        have cf := f_15.cell (j := 0) rfl
        have cg := g_15.cell (j := 0) rfl
        have cp := p_15.cell (j := 0) rfl
        have cq := q_15.cell (j := 0) rfl
        go_wp2_with fail
        refine ((HR2 _ okf_15).out).mono ?_
        rintro e w16 ⟨rfl, h16⟩
        have B16 := B15.trans (h16.mono B15.size)
        have okf_16 := okf_15.on h16
        have okg_16 := okg_15.on h16
        have f_16 := f_15.on h16
        have g_16 := g_15.on h16
        have okp_16 := okp_15.on h16
        have p_16 := p_15.on h16
        have okq_16 := okq_15.on h16
        have q_16 := q_15.on h16
        clear okf_15 okg_15 f_15 g_15 okp_15 p_15 okq_15 q_15
        have cf := f_16.cell (j := 0) rfl
        have cg := g_16.cell (j := 0) rfl
        have cp := p_16.cell (j := 0) rfl
        have cq := q_16.cell (j := 0) rfl
        go_wp2_with fail
        refine ((HW1 _ okf_16).out).mono ?_
        rintro e w17 ⟨Ar, nr, mr, rfl, okr17, h17⟩
        have B17 := B16.trans (h17.mono B16.size)
        have okf_17 := okf_16.on h17
        have okg_17 := okg_16.on h17
        have f_17 := f_16.on h17
        have g_17 := g_16.on h17
        have okp_17 := okp_16.on h17
        have p_17 := p_16.on h17
        have okq_17 := okq_16.on h17
        have q_17 := q_16.on h17
        clear okf_16 okg_16 f_16 g_16 okp_16 p_16 okq_16 q_16
        have cf := f_17.cell (j := 0) rfl
        have cg := g_17.cell (j := 0) rfl
        have cp := p_17.cell (j := 0) rfl
        have cq := q_17.cell (j := 0) rfl
        unfold flv
        go_wp2_with (first
          | (with_reducible refine wpList_alloc_row (o := ⟨some 17, _, _, _, _, _⟩) rfl _ rfl [.slice none 0 0] (by kernel_rfl) ?_; intro w18 r18 s18 g18)
          | ((with_reducible refine wpList_at ⟨none, .store _ (.tmp 17) _, _, _, _, _⟩ ?_); refine wpList_store_all rfl _ _ _ rfl w17.heap.size rfl _ _ r18 [.slice Ar nr mr] rfl (slice_one _ _ _) rfl (by kernel_rfl) ?_; intro w19 r_19 g19; have k19 : Below w17.heap.size w17 w19 := below_kept (grown_below g18 (Nat.le_refl _) (by simp)) g19 (Nat.le_of_lt s18) (by rintro q hq; cases hq; exact Nat.le_refl _); have B19 := B17.trans (k19.mono B17.size); have okf_19 := okf_17.on k19; have okg_19 := okg_17.on k19; have f_19 := f_17.on k19; have g_19 := g_17.on k19; have okp_19 := okp_17.on k19; have p_19 := p_17.on k19; have okq_19 := okq_17.on k19; have q_19 := q_17.on k19; have okr_19 := okr17.on k19; clear okf_17 okg_17 f_17 g_17 okp_17 p_17 okq_17 q_17; have cf := f_19.cell (j := 0) rfl; have cg := g_19.cell (j := 0) rfl; have cp := p_19.cell (j := 0) rfl; have cq := q_19.cell (j := 0) rfl; have cr := r_19.cell (j := 0) rfl; clear r18 g18 g19))
        refine ((HW2 _ okf_19).out).mono ?_
        rintro e w20 ⟨As, ns, ms, rfl, oks20, h20⟩
        have B20 := B19.trans (h20.mono B19.size)
        have okf_20 := okf_19.on h20
        have okg_20 := okg_19.on h20
        have f_20 := f_19.on h20
        have g_20 := g_19.on h20
        have okp_20 := okp_19.on h20
        have p_20 := p_19.on h20
        have okq_20 := okq_19.on h20
        have q_20 := q_19.on h20
        have okr_20 := okr_19.on h20
        have r_20 := r_19.on h20
        clear okf_19 okg_19 f_19 g_19 okp_19 p_19 okq_19 q_19 okr_19 r_19
        have cf := f_20.cell (j := 0) rfl
        have cg := g_20.cell (j := 0) rfl
        have cp := p_20.cell (j := 0) rfl
        have cq := q_20.cell (j := 0) rfl
        have cr := r_20.cell (j := 0) rfl
        unfold flv
        go_wp2_with (first
          | (with_reducible refine wpList_alloc_row (o := ⟨some 19, _, _, _, _, _⟩) rfl _ rfl [.slice none 0 0] (by kernel_rfl) ?_; intro w21 r21 s21 g21)
          | ((with_reducible refine wpList_at ⟨none, .store _ (.tmp 19) _, _, _, _, _⟩ ?_); refine wpList_store_all rfl _ _ _ rfl w20.heap.size rfl _ _ r21 [.slice As ns ms] rfl (slice_one _ _ _) rfl (by kernel_rfl) ?_; intro w22 s_22 g22; have k22 : Below w20.heap.size w20 w22 := below_kept (grown_below g21 (Nat.le_refl _) (by simp)) g22 (Nat.le_of_lt s21) (by rintro q hq; cases hq; exact Nat.le_refl _); have B22 := B20.trans (k22.mono B20.size); have okf_22 := okf_20.on k22; have okg_22 := okg_20.on k22; have f_22 := f_20.on k22; have g_22 := g_20.on k22; have okp_22 := okp_20.on k22; have p_22 := p_20.on k22; have okq_22 := okq_20.on k22; have q_22 := q_20.on k22; have okr_22 := okr_20.on k22; have r_22 := r_20.on k22; have oks_22 := oks20.on k22; clear okf_20 okg_20 f_20 g_20 okp_20 p_20 okq_20 q_20 okr_20 r_20; have cf := f_22.cell (j := 0) rfl; have cg := g_22.cell (j := 0) rfl; have cp := p_22.cell (j := 0) rfl; have cq := q_22.cell (j := 0) rfl; have cr := r_22.cell (j := 0) rfl; have cs := s_22.cell (j := 0) rfl; clear r21 g21 g22))
        have d23 : Below w22.heap.size w22 w22.drew := (Below.refl _ _).drew
        have B23 := B22.trans (d23.mono B22.size)
        have okf_23 := okf_22.on d23
        have okg_23 := okg_22.on d23
        have f_23 := f_22.on d23
        have g_23 := g_22.on d23
        have okp_23 := okp_22.on d23
        have p_23 := p_22.on d23
        have okq_23 := okq_22.on d23
        have q_23 := q_22.on d23
        have okr_23 := okr_22.on d23
        have r_23 := r_22.on d23
        have oks_23 := oks_22.on d23
        have s_23 := s_22.on d23
        clear okf_22 okg_22 f_22 g_22 okp_22 p_22 okq_22 q_22 okr_22 r_22 oks_22 s_22
        have cf := f_23.cell (j := 0) rfl
        have cg := g_23.cell (j := 0) rfl
        have cp := p_23.cell (j := 0) rfl
        have cq := q_23.cell (j := 0) rfl
        have cr := r_23.cell (j := 0) rfl
        have cs := s_23.cell (j := 0) rfl
        refine wp_region_plan (fun w' => Row w' (w9.heap.size) 24 ([.slice Ap np mp]) ∧ Row w' (w12.heap.size) 24 ([.slice Aq nq mq]) ∧ Row w' (w17.heap.size) 24 ([.slice Ar nr mr]) ∧ Row w' (w20.heap.size) 24 ([.slice As ns ms]) ∧ Row w' (w1.heap.size) 24 ([.slice A n c]) ∧ Row w' (w3.heap.size) 24 ([.slice B m d])) (.take 0 <| .take 1 <| .take 2 <| .take 3 <| .one 4 <| .take 5 <| .take 6 <| .take 7 <| .take 8 <| .take 9 <| .take 10 <| .take 11 <| .take 12 <| .take 13 <| .take 14 <| .take 15 <| .take 16 <| .take 17 <| .take 18 <| .take 19 <| .take 20 <| .take 21 <| .take 22 <| .take 23 <| .one 24 <| .take 25 <| .take 26 <| .take 27 <| .take 28 <| .take 29 <| .take 30 <| .take 31 <| .take 32 <| .take 34 <| .one 33 <| .one 35 <| .take 36 <| .take 37 <| .take 38 <| .take 39 <| .take 40 <| .take 42 <| .take 43 <| .one 41 <| .one 44 <| .take 45 <| .take 46 <| .take 47 <| .done) (by kernel_rfl) (by kernel_rfl) (by kernel_rfl) (fun _ _ _ _ _ h => h) ⟨p_23, q_23, r_23, s_23, f_23, g_23⟩ ?_
        repeat (refine plan_take _ rfl ?_; (first | (refine wpQuiet_valueG (o := ⟨some 86, _, _, _, _, _⟩) rfl _ (by intro _ h; exact exec_load _ 24 _ rfl ⟨w9.heap.size, 0, none⟩ rfl [.slice Ap np mp] h.1.cells _ Try.underlying24 rfl (by kernel_rfl)) (wpQuiet_nil ?_); simp only [Act.put, List.setIfInBounds_toArray, List.set_cons_zero, List.set_cons_succ]) | (refine wpQuiet_valueG (o := ⟨some 87, _, _, _, _, _⟩) rfl _ (by intro _ h; exact exec_load _ 24 _ rfl ⟨w12.heap.size, 0, none⟩ rfl [.slice Aq nq mq] h.2.1.cells _ Try.underlying24 rfl (by kernel_rfl)) (wpQuiet_nil ?_); simp only [Act.put, List.setIfInBounds_toArray, List.set_cons_zero, List.set_cons_succ]) | (refine wpQuiet_valueG (o := ⟨some 106, _, _, _, _, _⟩) rfl _ (by intro _ h; exact exec_load _ 24 _ rfl ⟨w17.heap.size, 0, none⟩ rfl [.slice Ar nr mr] h.2.2.1.cells _ Try.underlying24 rfl (by kernel_rfl)) (wpQuiet_nil ?_); simp only [Act.put, List.setIfInBounds_toArray, List.set_cons_zero, List.set_cons_succ]) | (refine wpQuiet_valueG (o := ⟨some 107, _, _, _, _, _⟩) rfl _ (by intro _ h; exact exec_load _ 24 _ rfl ⟨w20.heap.size, 0, none⟩ rfl [.slice As ns ms] h.2.2.2.1.cells _ Try.underlying24 rfl (by kernel_rfl)) (wpQuiet_nil ?_); simp only [Act.put, List.setIfInBounds_toArray, List.set_cons_zero, List.set_cons_succ]) | (refine wpQuiet_valueG (o := ⟨some 116, _, _, _, _, _⟩) rfl _ (by intro _ h; exact exec_load _ 24 _ rfl ⟨w1.heap.size, 0, none⟩ rfl [.slice A n c] h.2.2.2.2.1.cells _ Try.underlying24 rfl (by kernel_rfl)) (wpQuiet_nil ?_); simp only [Act.put, List.setIfInBounds_toArray, List.set_cons_zero, List.set_cons_succ]) | (refine wpQuiet_valueG (o := ⟨some 118, _, _, _, _, _⟩) rfl _ (by intro _ h; exact exec_load _ 24 _ rfl ⟨w1.heap.size, 0, none⟩ rfl [.slice A n c] h.2.2.2.2.1.cells _ Try.underlying24 rfl (by kernel_rfl)) (wpQuiet_nil ?_); simp only [Act.put, List.setIfInBounds_toArray, List.set_cons_zero, List.set_cons_succ]) | (refine wpQuiet_valueG (o := ⟨some 123, _, _, _, _, _⟩) rfl _ (by intro _ h; exact exec_load _ 24 _ rfl ⟨w1.heap.size, 0, none⟩ rfl [.slice A n c] h.2.2.2.2.1.cells _ Try.underlying24 rfl (by kernel_rfl)) (wpQuiet_nil ?_); simp only [Act.put, List.setIfInBounds_toArray, List.set_cons_zero, List.set_cons_succ]) | (refine wpQuiet_valueG (o := ⟨some 124, _, _, _, _, _⟩) rfl _ (by intro _ h; exact exec_load _ 24 _ rfl ⟨w3.heap.size, 0, none⟩ rfl [.slice B m d] h.2.2.2.2.2.cells _ Try.underlying24 rfl (by kernel_rfl)) (wpQuiet_nil ?_); simp only [Act.put, List.setIfInBounds_toArray, List.set_cons_zero, List.set_cons_succ]) | (refine wpQuiet_valueG (o := ⟨some 126, _, _, _, _, _⟩) rfl _ (by intro _ h; exact exec_load _ 24 _ rfl ⟨w1.heap.size, 0, none⟩ rfl [.slice A n c] h.2.2.2.2.1.cells _ Try.underlying24 rfl (by kernel_rfl)) (wpQuiet_nil ?_); simp only [Act.put, List.setIfInBounds_toArray, List.set_cons_zero, List.set_cons_succ]) | (refine wpQuiet_valueG (o := ⟨some 127, _, _, _, _, _⟩) rfl _ (by intro _ h; exact exec_load _ 24 _ rfl ⟨w3.heap.size, 0, none⟩ rfl [.slice B m d] h.2.2.2.2.2.cells _ Try.underlying24 rfl (by kernel_rfl)) (wpQuiet_nil ?_); simp only [Act.put, List.setIfInBounds_toArray, List.set_cons_zero, List.set_cons_succ]) | (go_big_quiet_step ((intros; rfl)); refine wpQuiet_nil ?_)))
        refine plan_one _ rfl fun K hK => ?_
        go_simp
        refine (same8_true _ _ _ _ _ _ _ okp_23 okq_23).mono ?_
        rintro e w24 ⟨rfl, h24⟩
        have B24 := B23.trans (h24.mono B23.size)
        have okf_24 := okf_23.on h24
        have okg_24 := okg_23.on h24
        have f_24 := f_23.on h24
        have g_24 := g_23.on h24
        have okp_24 := okp_23.on h24
        have p_24 := p_23.on h24
        have okq_24 := okq_23.on h24
        have q_24 := q_23.on h24
        have okr_24 := okr_23.on h24
        have r_24 := r_23.on h24
        have oks_24 := oks_23.on h24
        have s_24 := s_23.on h24
        clear okf_23 okg_23 f_23 g_23 okp_23 p_23 okq_23 q_23 okr_23 r_23 oks_23 s_23
        have cf := f_24.cell (j := 0) rfl
        have cg := g_24.cell (j := 0) rfl
        have cp := p_24.cell (j := 0) rfl
        have cq := q_24.cell (j := 0) rfl
        have cr := r_24.cell (j := 0) rfl
        have cs := s_24.cell (j := 0) rfl
        refine hK _ _ ⟨p_24, q_24, r_24, s_24, f_24, g_24⟩ ?_
        clear hK K
        repeat (refine plan_take _ rfl ?_; (first | (refine wpQuiet_valueG (o := ⟨some 86, _, _, _, _, _⟩) rfl _ (by intro _ h; exact exec_load _ 24 _ rfl ⟨w9.heap.size, 0, none⟩ rfl [.slice Ap np mp] h.1.cells _ Try.underlying24 rfl (by kernel_rfl)) (wpQuiet_nil ?_); simp only [Act.put, List.setIfInBounds_toArray, List.set_cons_zero, List.set_cons_succ]) | (refine wpQuiet_valueG (o := ⟨some 87, _, _, _, _, _⟩) rfl _ (by intro _ h; exact exec_load _ 24 _ rfl ⟨w12.heap.size, 0, none⟩ rfl [.slice Aq nq mq] h.2.1.cells _ Try.underlying24 rfl (by kernel_rfl)) (wpQuiet_nil ?_); simp only [Act.put, List.setIfInBounds_toArray, List.set_cons_zero, List.set_cons_succ]) | (refine wpQuiet_valueG (o := ⟨some 106, _, _, _, _, _⟩) rfl _ (by intro _ h; exact exec_load _ 24 _ rfl ⟨w17.heap.size, 0, none⟩ rfl [.slice Ar nr mr] h.2.2.1.cells _ Try.underlying24 rfl (by kernel_rfl)) (wpQuiet_nil ?_); simp only [Act.put, List.setIfInBounds_toArray, List.set_cons_zero, List.set_cons_succ]) | (refine wpQuiet_valueG (o := ⟨some 107, _, _, _, _, _⟩) rfl _ (by intro _ h; exact exec_load _ 24 _ rfl ⟨w20.heap.size, 0, none⟩ rfl [.slice As ns ms] h.2.2.2.1.cells _ Try.underlying24 rfl (by kernel_rfl)) (wpQuiet_nil ?_); simp only [Act.put, List.setIfInBounds_toArray, List.set_cons_zero, List.set_cons_succ]) | (refine wpQuiet_valueG (o := ⟨some 116, _, _, _, _, _⟩) rfl _ (by intro _ h; exact exec_load _ 24 _ rfl ⟨w1.heap.size, 0, none⟩ rfl [.slice A n c] h.2.2.2.2.1.cells _ Try.underlying24 rfl (by kernel_rfl)) (wpQuiet_nil ?_); simp only [Act.put, List.setIfInBounds_toArray, List.set_cons_zero, List.set_cons_succ]) | (refine wpQuiet_valueG (o := ⟨some 118, _, _, _, _, _⟩) rfl _ (by intro _ h; exact exec_load _ 24 _ rfl ⟨w1.heap.size, 0, none⟩ rfl [.slice A n c] h.2.2.2.2.1.cells _ Try.underlying24 rfl (by kernel_rfl)) (wpQuiet_nil ?_); simp only [Act.put, List.setIfInBounds_toArray, List.set_cons_zero, List.set_cons_succ]) | (refine wpQuiet_valueG (o := ⟨some 123, _, _, _, _, _⟩) rfl _ (by intro _ h; exact exec_load _ 24 _ rfl ⟨w1.heap.size, 0, none⟩ rfl [.slice A n c] h.2.2.2.2.1.cells _ Try.underlying24 rfl (by kernel_rfl)) (wpQuiet_nil ?_); simp only [Act.put, List.setIfInBounds_toArray, List.set_cons_zero, List.set_cons_succ]) | (refine wpQuiet_valueG (o := ⟨some 124, _, _, _, _, _⟩) rfl _ (by intro _ h; exact exec_load _ 24 _ rfl ⟨w3.heap.size, 0, none⟩ rfl [.slice B m d] h.2.2.2.2.2.cells _ Try.underlying24 rfl (by kernel_rfl)) (wpQuiet_nil ?_); simp only [Act.put, List.setIfInBounds_toArray, List.set_cons_zero, List.set_cons_succ]) | (refine wpQuiet_valueG (o := ⟨some 126, _, _, _, _, _⟩) rfl _ (by intro _ h; exact exec_load _ 24 _ rfl ⟨w1.heap.size, 0, none⟩ rfl [.slice A n c] h.2.2.2.2.1.cells _ Try.underlying24 rfl (by kernel_rfl)) (wpQuiet_nil ?_); simp only [Act.put, List.setIfInBounds_toArray, List.set_cons_zero, List.set_cons_succ]) | (refine wpQuiet_valueG (o := ⟨some 127, _, _, _, _, _⟩) rfl _ (by intro _ h; exact exec_load _ 24 _ rfl ⟨w3.heap.size, 0, none⟩ rfl [.slice B m d] h.2.2.2.2.2.cells _ Try.underlying24 rfl (by kernel_rfl)) (wpQuiet_nil ?_); simp only [Act.put, List.setIfInBounds_toArray, List.set_cons_zero, List.set_cons_succ]) | (go_big_quiet_step ((intros; rfl)); refine wpQuiet_nil ?_)))
        refine plan_one _ rfl fun K hK => ?_
        go_simp
        refine (same8_true _ _ _ _ _ _ _ okr_24 oks_24).mono ?_
        rintro e w25 ⟨rfl, h25⟩
        have B25 := B24.trans (h25.mono B24.size)
        have okf_25 := okf_24.on h25
        have okg_25 := okg_24.on h25
        have f_25 := f_24.on h25
        have g_25 := g_24.on h25
        have okp_25 := okp_24.on h25
        have p_25 := p_24.on h25
        have okq_25 := okq_24.on h25
        have q_25 := q_24.on h25
        have okr_25 := okr_24.on h25
        have r_25 := r_24.on h25
        have oks_25 := oks_24.on h25
        have s_25 := s_24.on h25
        clear okf_24 okg_24 f_24 g_24 okp_24 p_24 okq_24 q_24 okr_24 r_24 oks_24 s_24
        have cf := f_25.cell (j := 0) rfl
        have cg := g_25.cell (j := 0) rfl
        have cp := p_25.cell (j := 0) rfl
        have cq := q_25.cell (j := 0) rfl
        have cr := r_25.cell (j := 0) rfl
        have cs := s_25.cell (j := 0) rfl
        refine hK _ _ ⟨p_25, q_25, r_25, s_25, f_25, g_25⟩ ?_
        clear hK K
        repeat (refine plan_take _ rfl ?_; (first | (refine wpQuiet_valueG (o := ⟨some 86, _, _, _, _, _⟩) rfl _ (by intro _ h; exact exec_load _ 24 _ rfl ⟨w9.heap.size, 0, none⟩ rfl [.slice Ap np mp] h.1.cells _ Try.underlying24 rfl (by kernel_rfl)) (wpQuiet_nil ?_); simp only [Act.put, List.setIfInBounds_toArray, List.set_cons_zero, List.set_cons_succ]) | (refine wpQuiet_valueG (o := ⟨some 87, _, _, _, _, _⟩) rfl _ (by intro _ h; exact exec_load _ 24 _ rfl ⟨w12.heap.size, 0, none⟩ rfl [.slice Aq nq mq] h.2.1.cells _ Try.underlying24 rfl (by kernel_rfl)) (wpQuiet_nil ?_); simp only [Act.put, List.setIfInBounds_toArray, List.set_cons_zero, List.set_cons_succ]) | (refine wpQuiet_valueG (o := ⟨some 106, _, _, _, _, _⟩) rfl _ (by intro _ h; exact exec_load _ 24 _ rfl ⟨w17.heap.size, 0, none⟩ rfl [.slice Ar nr mr] h.2.2.1.cells _ Try.underlying24 rfl (by kernel_rfl)) (wpQuiet_nil ?_); simp only [Act.put, List.setIfInBounds_toArray, List.set_cons_zero, List.set_cons_succ]) | (refine wpQuiet_valueG (o := ⟨some 107, _, _, _, _, _⟩) rfl _ (by intro _ h; exact exec_load _ 24 _ rfl ⟨w20.heap.size, 0, none⟩ rfl [.slice As ns ms] h.2.2.2.1.cells _ Try.underlying24 rfl (by kernel_rfl)) (wpQuiet_nil ?_); simp only [Act.put, List.setIfInBounds_toArray, List.set_cons_zero, List.set_cons_succ]) | (refine wpQuiet_valueG (o := ⟨some 116, _, _, _, _, _⟩) rfl _ (by intro _ h; exact exec_load _ 24 _ rfl ⟨w1.heap.size, 0, none⟩ rfl [.slice A n c] h.2.2.2.2.1.cells _ Try.underlying24 rfl (by kernel_rfl)) (wpQuiet_nil ?_); simp only [Act.put, List.setIfInBounds_toArray, List.set_cons_zero, List.set_cons_succ]) | (refine wpQuiet_valueG (o := ⟨some 118, _, _, _, _, _⟩) rfl _ (by intro _ h; exact exec_load _ 24 _ rfl ⟨w1.heap.size, 0, none⟩ rfl [.slice A n c] h.2.2.2.2.1.cells _ Try.underlying24 rfl (by kernel_rfl)) (wpQuiet_nil ?_); simp only [Act.put, List.setIfInBounds_toArray, List.set_cons_zero, List.set_cons_succ]) | (refine wpQuiet_valueG (o := ⟨some 123, _, _, _, _, _⟩) rfl _ (by intro _ h; exact exec_load _ 24 _ rfl ⟨w1.heap.size, 0, none⟩ rfl [.slice A n c] h.2.2.2.2.1.cells _ Try.underlying24 rfl (by kernel_rfl)) (wpQuiet_nil ?_); simp only [Act.put, List.setIfInBounds_toArray, List.set_cons_zero, List.set_cons_succ]) | (refine wpQuiet_valueG (o := ⟨some 124, _, _, _, _, _⟩) rfl _ (by intro _ h; exact exec_load _ 24 _ rfl ⟨w3.heap.size, 0, none⟩ rfl [.slice B m d] h.2.2.2.2.2.cells _ Try.underlying24 rfl (by kernel_rfl)) (wpQuiet_nil ?_); simp only [Act.put, List.setIfInBounds_toArray, List.set_cons_zero, List.set_cons_succ]) | (refine wpQuiet_valueG (o := ⟨some 126, _, _, _, _, _⟩) rfl _ (by intro _ h; exact exec_load _ 24 _ rfl ⟨w1.heap.size, 0, none⟩ rfl [.slice A n c] h.2.2.2.2.1.cells _ Try.underlying24 rfl (by kernel_rfl)) (wpQuiet_nil ?_); simp only [Act.put, List.setIfInBounds_toArray, List.set_cons_zero, List.set_cons_succ]) | (refine wpQuiet_valueG (o := ⟨some 127, _, _, _, _, _⟩) rfl _ (by intro _ h; exact exec_load _ 24 _ rfl ⟨w3.heap.size, 0, none⟩ rfl [.slice B m d] h.2.2.2.2.2.cells _ Try.underlying24 rfl (by kernel_rfl)) (wpQuiet_nil ?_); simp only [Act.put, List.setIfInBounds_toArray, List.set_cons_zero, List.set_cons_succ]) | (go_big_quiet_step ((intros; rfl)); refine wpQuiet_nil ?_)))
        refine plan_one _ rfl fun K hK => ?_
        go_simp
        refine ((HV1 _ okf_25).out).mono ?_
        rintro e w26 ⟨rfl, h26⟩
        have B26 := B25.trans (h26.mono B25.size)
        have okf_26 := okf_25.on h26
        have okg_26 := okg_25.on h26
        have f_26 := f_25.on h26
        have g_26 := g_25.on h26
        have okp_26 := okp_25.on h26
        have p_26 := p_25.on h26
        have okq_26 := okq_25.on h26
        have q_26 := q_25.on h26
        have okr_26 := okr_25.on h26
        have r_26 := r_25.on h26
        have oks_26 := oks_25.on h26
        have s_26 := s_25.on h26
        clear okf_25 okg_25 f_25 g_25 okp_25 p_25 okq_25 q_25 okr_25 r_25 oks_25 s_25
        have cf := f_26.cell (j := 0) rfl
        have cg := g_26.cell (j := 0) rfl
        have cp := p_26.cell (j := 0) rfl
        have cq := q_26.cell (j := 0) rfl
        have cr := r_26.cell (j := 0) rfl
        have cs := s_26.cell (j := 0) rfl
        refine hK _ _ ⟨p_26, q_26, r_26, s_26, f_26, g_26⟩ ?_
        clear hK K
        refine plan_one _ rfl fun K hK => ?_
        go_simp
        refine ((HV2 _ okf_26).out).mono ?_
        rintro e w27 ⟨rfl, h27⟩
        have B27 := B26.trans (h27.mono B26.size)
        have okf_27 := okf_26.on h27
        have okg_27 := okg_26.on h27
        have f_27 := f_26.on h27
        have g_27 := g_26.on h27
        have okp_27 := okp_26.on h27
        have p_27 := p_26.on h27
        have okq_27 := okq_26.on h27
        have q_27 := q_26.on h27
        have okr_27 := okr_26.on h27
        have r_27 := r_26.on h27
        have oks_27 := oks_26.on h27
        have s_27 := s_26.on h27
        clear okf_26 okg_26 f_26 g_26 okp_26 p_26 okq_26 q_26 okr_26 r_26 oks_26 s_26
        have cf := f_27.cell (j := 0) rfl
        have cg := g_27.cell (j := 0) rfl
        have cp := p_27.cell (j := 0) rfl
        have cq := q_27.cell (j := 0) rfl
        have cr := r_27.cell (j := 0) rfl
        have cs := s_27.cell (j := 0) rfl
        refine hK _ _ ⟨p_27, q_27, r_27, s_27, f_27, g_27⟩ ?_
        clear hK K
        repeat (refine plan_take _ rfl ?_; (first | (refine wpQuiet_valueG (o := ⟨some 86, _, _, _, _, _⟩) rfl _ (by intro _ h; exact exec_load _ 24 _ rfl ⟨w9.heap.size, 0, none⟩ rfl [.slice Ap np mp] h.1.cells _ Try.underlying24 rfl (by kernel_rfl)) (wpQuiet_nil ?_); simp only [Act.put, List.setIfInBounds_toArray, List.set_cons_zero, List.set_cons_succ]) | (refine wpQuiet_valueG (o := ⟨some 87, _, _, _, _, _⟩) rfl _ (by intro _ h; exact exec_load _ 24 _ rfl ⟨w12.heap.size, 0, none⟩ rfl [.slice Aq nq mq] h.2.1.cells _ Try.underlying24 rfl (by kernel_rfl)) (wpQuiet_nil ?_); simp only [Act.put, List.setIfInBounds_toArray, List.set_cons_zero, List.set_cons_succ]) | (refine wpQuiet_valueG (o := ⟨some 106, _, _, _, _, _⟩) rfl _ (by intro _ h; exact exec_load _ 24 _ rfl ⟨w17.heap.size, 0, none⟩ rfl [.slice Ar nr mr] h.2.2.1.cells _ Try.underlying24 rfl (by kernel_rfl)) (wpQuiet_nil ?_); simp only [Act.put, List.setIfInBounds_toArray, List.set_cons_zero, List.set_cons_succ]) | (refine wpQuiet_valueG (o := ⟨some 107, _, _, _, _, _⟩) rfl _ (by intro _ h; exact exec_load _ 24 _ rfl ⟨w20.heap.size, 0, none⟩ rfl [.slice As ns ms] h.2.2.2.1.cells _ Try.underlying24 rfl (by kernel_rfl)) (wpQuiet_nil ?_); simp only [Act.put, List.setIfInBounds_toArray, List.set_cons_zero, List.set_cons_succ]) | (refine wpQuiet_valueG (o := ⟨some 116, _, _, _, _, _⟩) rfl _ (by intro _ h; exact exec_load _ 24 _ rfl ⟨w1.heap.size, 0, none⟩ rfl [.slice A n c] h.2.2.2.2.1.cells _ Try.underlying24 rfl (by kernel_rfl)) (wpQuiet_nil ?_); simp only [Act.put, List.setIfInBounds_toArray, List.set_cons_zero, List.set_cons_succ]) | (refine wpQuiet_valueG (o := ⟨some 118, _, _, _, _, _⟩) rfl _ (by intro _ h; exact exec_load _ 24 _ rfl ⟨w1.heap.size, 0, none⟩ rfl [.slice A n c] h.2.2.2.2.1.cells _ Try.underlying24 rfl (by kernel_rfl)) (wpQuiet_nil ?_); simp only [Act.put, List.setIfInBounds_toArray, List.set_cons_zero, List.set_cons_succ]) | (refine wpQuiet_valueG (o := ⟨some 123, _, _, _, _, _⟩) rfl _ (by intro _ h; exact exec_load _ 24 _ rfl ⟨w1.heap.size, 0, none⟩ rfl [.slice A n c] h.2.2.2.2.1.cells _ Try.underlying24 rfl (by kernel_rfl)) (wpQuiet_nil ?_); simp only [Act.put, List.setIfInBounds_toArray, List.set_cons_zero, List.set_cons_succ]) | (refine wpQuiet_valueG (o := ⟨some 124, _, _, _, _, _⟩) rfl _ (by intro _ h; exact exec_load _ 24 _ rfl ⟨w3.heap.size, 0, none⟩ rfl [.slice B m d] h.2.2.2.2.2.cells _ Try.underlying24 rfl (by kernel_rfl)) (wpQuiet_nil ?_); simp only [Act.put, List.setIfInBounds_toArray, List.set_cons_zero, List.set_cons_succ]) | (refine wpQuiet_valueG (o := ⟨some 126, _, _, _, _, _⟩) rfl _ (by intro _ h; exact exec_load _ 24 _ rfl ⟨w1.heap.size, 0, none⟩ rfl [.slice A n c] h.2.2.2.2.1.cells _ Try.underlying24 rfl (by kernel_rfl)) (wpQuiet_nil ?_); simp only [Act.put, List.setIfInBounds_toArray, List.set_cons_zero, List.set_cons_succ]) | (refine wpQuiet_valueG (o := ⟨some 127, _, _, _, _, _⟩) rfl _ (by intro _ h; exact exec_load _ 24 _ rfl ⟨w3.heap.size, 0, none⟩ rfl [.slice B m d] h.2.2.2.2.2.cells _ Try.underlying24 rfl (by kernel_rfl)) (wpQuiet_nil ?_); simp only [Act.put, List.setIfInBounds_toArray, List.set_cons_zero, List.set_cons_succ]) | (go_big_quiet_step ((intros; rfl)); refine wpQuiet_nil ?_)))
        refine plan_one _ rfl fun K hK => ?_
        go_simp
        refine ((HE1 _ okf_27 okg_27).out).mono ?_
        rintro e w28 ⟨rfl, h28⟩
        have B28 := B27.trans (h28.mono B27.size)
        have okf_28 := okf_27.on h28
        have okg_28 := okg_27.on h28
        have f_28 := f_27.on h28
        have g_28 := g_27.on h28
        have okp_28 := okp_27.on h28
        have p_28 := p_27.on h28
        have okq_28 := okq_27.on h28
        have q_28 := q_27.on h28
        have okr_28 := okr_27.on h28
        have r_28 := r_27.on h28
        have oks_28 := oks_27.on h28
        have s_28 := s_27.on h28
        clear okf_27 okg_27 f_27 g_27 okp_27 p_27 okq_27 q_27 okr_27 r_27 oks_27 s_27
        have cf := f_28.cell (j := 0) rfl
        have cg := g_28.cell (j := 0) rfl
        have cp := p_28.cell (j := 0) rfl
        have cq := q_28.cell (j := 0) rfl
        have cr := r_28.cell (j := 0) rfl
        have cs := s_28.cell (j := 0) rfl
        refine hK _ _ ⟨p_28, q_28, r_28, s_28, f_28, g_28⟩ ?_
        clear hK K
        refine plan_one _ rfl fun K hK => ?_
        go_simp
        refine ((HE2 _ okf_28 okg_28).out).mono ?_
        rintro e w29 ⟨rfl, h29⟩
        have B29 := B28.trans (h29.mono B28.size)
        have okf_29 := okf_28.on h29
        have okg_29 := okg_28.on h29
        have f_29 := f_28.on h29
        have g_29 := g_28.on h29
        have okp_29 := okp_28.on h29
        have p_29 := p_28.on h29
        have okq_29 := okq_28.on h29
        have q_29 := q_28.on h29
        have okr_29 := okr_28.on h29
        have r_29 := r_28.on h29
        have oks_29 := oks_28.on h29
        have s_29 := s_28.on h29
        clear okf_28 okg_28 f_28 g_28 okp_28 p_28 okq_28 q_28 okr_28 r_28 oks_28 s_28
        have cf := f_29.cell (j := 0) rfl
        have cg := g_29.cell (j := 0) rfl
        have cp := p_29.cell (j := 0) rfl
        have cq := q_29.cell (j := 0) rfl
        have cr := r_29.cell (j := 0) rfl
        have cs := s_29.cell (j := 0) rfl
        refine hK _ _ ⟨p_29, q_29, r_29, s_29, f_29, g_29⟩ ?_
        clear hK K
        repeat (refine plan_take _ rfl ?_; (first | (refine wpQuiet_valueG (o := ⟨some 86, _, _, _, _, _⟩) rfl _ (by intro _ h; exact exec_load _ 24 _ rfl ⟨w9.heap.size, 0, none⟩ rfl [.slice Ap np mp] h.1.cells _ Try.underlying24 rfl (by kernel_rfl)) (wpQuiet_nil ?_); simp only [Act.put, List.setIfInBounds_toArray, List.set_cons_zero, List.set_cons_succ]) | (refine wpQuiet_valueG (o := ⟨some 87, _, _, _, _, _⟩) rfl _ (by intro _ h; exact exec_load _ 24 _ rfl ⟨w12.heap.size, 0, none⟩ rfl [.slice Aq nq mq] h.2.1.cells _ Try.underlying24 rfl (by kernel_rfl)) (wpQuiet_nil ?_); simp only [Act.put, List.setIfInBounds_toArray, List.set_cons_zero, List.set_cons_succ]) | (refine wpQuiet_valueG (o := ⟨some 106, _, _, _, _, _⟩) rfl _ (by intro _ h; exact exec_load _ 24 _ rfl ⟨w17.heap.size, 0, none⟩ rfl [.slice Ar nr mr] h.2.2.1.cells _ Try.underlying24 rfl (by kernel_rfl)) (wpQuiet_nil ?_); simp only [Act.put, List.setIfInBounds_toArray, List.set_cons_zero, List.set_cons_succ]) | (refine wpQuiet_valueG (o := ⟨some 107, _, _, _, _, _⟩) rfl _ (by intro _ h; exact exec_load _ 24 _ rfl ⟨w20.heap.size, 0, none⟩ rfl [.slice As ns ms] h.2.2.2.1.cells _ Try.underlying24 rfl (by kernel_rfl)) (wpQuiet_nil ?_); simp only [Act.put, List.setIfInBounds_toArray, List.set_cons_zero, List.set_cons_succ]) | (refine wpQuiet_valueG (o := ⟨some 116, _, _, _, _, _⟩) rfl _ (by intro _ h; exact exec_load _ 24 _ rfl ⟨w1.heap.size, 0, none⟩ rfl [.slice A n c] h.2.2.2.2.1.cells _ Try.underlying24 rfl (by kernel_rfl)) (wpQuiet_nil ?_); simp only [Act.put, List.setIfInBounds_toArray, List.set_cons_zero, List.set_cons_succ]) | (refine wpQuiet_valueG (o := ⟨some 118, _, _, _, _, _⟩) rfl _ (by intro _ h; exact exec_load _ 24 _ rfl ⟨w1.heap.size, 0, none⟩ rfl [.slice A n c] h.2.2.2.2.1.cells _ Try.underlying24 rfl (by kernel_rfl)) (wpQuiet_nil ?_); simp only [Act.put, List.setIfInBounds_toArray, List.set_cons_zero, List.set_cons_succ]) | (refine wpQuiet_valueG (o := ⟨some 123, _, _, _, _, _⟩) rfl _ (by intro _ h; exact exec_load _ 24 _ rfl ⟨w1.heap.size, 0, none⟩ rfl [.slice A n c] h.2.2.2.2.1.cells _ Try.underlying24 rfl (by kernel_rfl)) (wpQuiet_nil ?_); simp only [Act.put, List.setIfInBounds_toArray, List.set_cons_zero, List.set_cons_succ]) | (refine wpQuiet_valueG (o := ⟨some 124, _, _, _, _, _⟩) rfl _ (by intro _ h; exact exec_load _ 24 _ rfl ⟨w3.heap.size, 0, none⟩ rfl [.slice B m d] h.2.2.2.2.2.cells _ Try.underlying24 rfl (by kernel_rfl)) (wpQuiet_nil ?_); simp only [Act.put, List.setIfInBounds_toArray, List.set_cons_zero, List.set_cons_succ]) | (refine wpQuiet_valueG (o := ⟨some 126, _, _, _, _, _⟩) rfl _ (by intro _ h; exact exec_load _ 24 _ rfl ⟨w1.heap.size, 0, none⟩ rfl [.slice A n c] h.2.2.2.2.1.cells _ Try.underlying24 rfl (by kernel_rfl)) (wpQuiet_nil ?_); simp only [Act.put, List.setIfInBounds_toArray, List.set_cons_zero, List.set_cons_succ]) | (refine wpQuiet_valueG (o := ⟨some 127, _, _, _, _, _⟩) rfl _ (by intro _ h; exact exec_load _ 24 _ rfl ⟨w3.heap.size, 0, none⟩ rfl [.slice B m d] h.2.2.2.2.2.cells _ Try.underlying24 rfl (by kernel_rfl)) (wpQuiet_nil ?_); simp only [Act.put, List.setIfInBounds_toArray, List.set_cons_zero, List.set_cons_succ]) | (go_big_quiet_step ((intros; rfl)); refine wpQuiet_nil ?_)))
        refine plan_done ?_
        go_wp2_with fail
        go_ret
        exact ⟨by simp, B29⟩
end Go.Proofs.Ytlllllcmbnmmkaa
