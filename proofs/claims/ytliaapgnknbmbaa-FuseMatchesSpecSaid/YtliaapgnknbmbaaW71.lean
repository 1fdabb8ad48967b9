/-
  FuseMatchesSpec's walk. No condition.
-/
import Derived.Test.YtliaapgnknbmbaaW72
import Derived.Test.YtliaapgnknbmbaaW73
import Derived.Test.YtliaapgnknbmbaaFuRL
import Derived.Test.YtliaapgnknbmbaaFuRD
import Derived.Test.YtliaapgnknbmbaaFuRP
namespace Go.Proofs.Ytliaapgnknbmbaa
open Go.RowKit

set_option maxRecDepth 100000 in
set_option maxHeartbeats 8000000 in
theorem walk71 (A : Option Addr) (n c : Nat) (ps : List Part) (b i : Int) (flag : Bool) (w : World) (hok : FuOK w A n c ps) :
    Calls Try.prog 3 #[fuv A n c, .int .i64 b, .int .i64 i, .bool flag] w (TellsB true w) := by
  have HSA := fun W => sanity7_any W
  have HV1 := fun W (h : FuOK W A n c ps) => Lib.hid (fvalid_any A n c ps W h.1)
  have HV2 := fun W (h : FuOK W A n c ps) => Lib.hid (rvalid_any A n c ps W h.1)
  have HLN := Lib.hid hok.1.len
  unfold fuv at *
  by_cases h6 : 6 < n
  · go_enter Try.func3, Try.ntmps3
    go_wp2_with (with_reducible refine wpList_box_row (o := ⟨some 4, _, _, _, _, _⟩) rfl _ _ rfl [.slice A n c] rfl ?_; intro w1 r1 s1 g1; have c1 := r1.cell (j := 0) rfl; have b1 := grown_below g1 (Nat.le_refl _) (by simp))
    refine (HSA _).mono ?_
    rintro e w2 ⟨rfl, b2⟩
    go_wp2_with fail
    go_ret
    exact ⟨rfl, b1.trans (b2.mono b1.size)⟩
  · go_enter Try.func3, Try.ntmps3
    go_wp2_with (with_reducible refine wpList_box_row (o := ⟨some 4, _, _, _, _, _⟩) rfl _ _ rfl [.slice A n c] rfl ?_; intro w1 r1 s1 g1; have c1 := r1.cell (j := 0) rfl; have b1 := grown_below g1 (Nat.le_refl _) (by simp))
    have hok1 := hok.on b1
    clear g1
    go_loopg [27] n (fun g s27 wr => ∃ k : Nat, Hid (k + g = n) ∧ k ≤ n ∧ s27 = .int .i64 (k : Int) ∧ wr = w1)
    case atStart => exact ⟨0, by show _ = _; omega, by omega, rfl, rfl⟩
    case round =>
     obtain ⟨k, HK, hk, rfl, rfl⟩ := hrel
     by_cases hlt : k < n
     · obtain ⟨ad, p, rfl, hlta, hpk, hc, hp, _⟩ := hok1.1.at_ hlt
       clear hpk hp
       by_cases h60 : 60 < p.n
       · go_wp2_with fail
         refine (HSA _).mono ?_
         rintro e w3 ⟨rfl, b2⟩
         go_wp2_with fail
         go_ret
         exact ⟨rfl, b1.trans (b2.mono b1.size)⟩
       · go_wp2_with fail
         go_roundg (gk - 1)
         case measure => have := HK.out; omega
         case rel => exact ⟨k + 1, by have := HK.out; show _ = _; omega, by omega, by go_num, rfl⟩
     · have HOK := Lib.hid hok1
       have hB1 := Below.refl wr.heap.size wr
       cases hv : fuValid (bk ps) with
       | false =>
        rw [hv] at HV1 HV2
        go_wp2_with fail
        refine wp_region_plan (fun w' => Row w' w.heap.size 24 [.slice A n c]) (.take 0 <| .take 2 <| .one 1 <| .one 3 <| .take 4 <| .take 5 <| .take 6 <| .one 7 <| .take 8 <| .take 9 <| .done) (by kernel_rfl) (by kernel_rfl) (by kernel_rfl) (fun _ _ _ _ _ h => h) (r1.on hB1.drew) ?_
        repeat (refine plan_take _ rfl ?_; (first | (refine wpQuiet_valueG (o := ⟨some 36, _, _, _, _, _⟩) rfl _ (by intro _ h; exact exec_load _ 24 _ rfl ⟨w.heap.size, 0, none⟩ rfl [.slice A n c] h.cells _ Try.underlying24 rfl (by kernel_rfl)) (wpQuiet_nil ?_); simp only [Act.put, List.setIfInBounds_toArray, List.set_cons_zero, List.set_cons_succ]) | (refine wpQuiet_valueG (o := ⟨some 38, _, _, _, _, _⟩) rfl _ (by intro _ h; exact exec_load _ 24 _ rfl ⟨w.heap.size, 0, none⟩ rfl [.slice A n c] h.cells _ Try.underlying24 rfl (by kernel_rfl)) (wpQuiet_nil ?_); simp only [Act.put, List.setIfInBounds_toArray, List.set_cons_zero, List.set_cons_succ]) | (refine wpQuiet_valueG (o := ⟨some 42, _, _, _, _, _⟩) rfl _ (by intro _ h; exact exec_load _ 24 _ rfl ⟨w.heap.size, 0, none⟩ rfl [.slice A n c] h.cells _ Try.underlying24 rfl (by kernel_rfl)) (wpQuiet_nil ?_); simp only [Act.put, List.setIfInBounds_toArray, List.set_cons_zero, List.set_cons_succ]) | (go_big_quiet_step ((intros; rfl)); refine wpQuiet_nil ?_)))
        refine plan_one _ rfl fun K hK => ?_
        go_simp
        refine ((HV1 _ (HOK.out.on hB1.drew)).out).mono ?_
        rintro e wq1 ⟨rfl, hq1⟩
        have Bq1 := hB1.drew.trans (hq1.mono hB1.drew.size)
        refine hK _ _ (r1.on Bq1) ?_
        clear hK K
        refine plan_one _ rfl fun K hK => ?_
        go_simp
        refine ((HV2 _ (HOK.out.on Bq1)).out).mono ?_
        rintro e wq3 ⟨rfl, hq3⟩
        have Bq3 := Bq1.trans (hq3.mono Bq1.size)
        refine hK _ _ (r1.on Bq3) ?_
        clear hK K
        repeat (refine plan_take _ rfl ?_; (first | (refine wpQuiet_valueG (o := ⟨some 36, _, _, _, _, _⟩) rfl _ (by intro _ h; exact exec_load _ 24 _ rfl ⟨w.heap.size, 0, none⟩ rfl [.slice A n c] h.cells _ Try.underlying24 rfl (by kernel_rfl)) (wpQuiet_nil ?_); simp only [Act.put, List.setIfInBounds_toArray, List.set_cons_zero, List.set_cons_succ]) | (refine wpQuiet_valueG (o := ⟨some 38, _, _, _, _, _⟩) rfl _ (by intro _ h; exact exec_load _ 24 _ rfl ⟨w.heap.size, 0, none⟩ rfl [.slice A n c] h.cells _ Try.underlying24 rfl (by kernel_rfl)) (wpQuiet_nil ?_); simp only [Act.put, List.setIfInBounds_toArray, List.set_cons_zero, List.set_cons_succ]) | (refine wpQuiet_valueG (o := ⟨some 42, _, _, _, _, _⟩) rfl _ (by intro _ h; exact exec_load _ 24 _ rfl ⟨w.heap.size, 0, none⟩ rfl [.slice A n c] h.cells _ Try.underlying24 rfl (by kernel_rfl)) (wpQuiet_nil ?_); simp only [Act.put, List.setIfInBounds_toArray, List.set_cons_zero, List.set_cons_succ]) | (go_big_quiet_step ((intros; rfl)); refine wpQuiet_nil ?_)))
        refine plan_one _ rfl fun K hK => ?_
        go_simp
        refine ((HV2 _ (HOK.out.on Bq3)).out).mono ?_
        rintro e wq7 ⟨rfl, hq7⟩
        have Bq7 := Bq3.trans (hq7.mono Bq3.size)
        refine hK _ _ (r1.on Bq7) ?_
        clear hK K
        repeat (refine plan_take _ rfl ?_; (first | (refine wpQuiet_valueG (o := ⟨some 36, _, _, _, _, _⟩) rfl _ (by intro _ h; exact exec_load _ 24 _ rfl ⟨w.heap.size, 0, none⟩ rfl [.slice A n c] h.cells _ Try.underlying24 rfl (by kernel_rfl)) (wpQuiet_nil ?_); simp only [Act.put, List.setIfInBounds_toArray, List.set_cons_zero, List.set_cons_succ]) | (refine wpQuiet_valueG (o := ⟨some 38, _, _, _, _, _⟩) rfl _ (by intro _ h; exact exec_load _ 24 _ rfl ⟨w.heap.size, 0, none⟩ rfl [.slice A n c] h.cells _ Try.underlying24 rfl (by kernel_rfl)) (wpQuiet_nil ?_); simp only [Act.put, List.setIfInBounds_toArray, List.set_cons_zero, List.set_cons_succ]) | (refine wpQuiet_valueG (o := ⟨some 42, _, _, _, _, _⟩) rfl _ (by intro _ h; exact exec_load _ 24 _ rfl ⟨w.heap.size, 0, none⟩ rfl [.slice A n c] h.cells _ Try.underlying24 rfl (by kernel_rfl)) (wpQuiet_nil ?_); simp only [Act.put, List.setIfInBounds_toArray, List.set_cons_zero, List.set_cons_succ]) | (go_big_quiet_step ((intros; rfl)); refine wpQuiet_nil ?_)))
        refine plan_done ?_
        have cbx := (r1.on Bq7).cell (j := 0) rfl
        go_wp2_with fail
        refine (HSA _).mono ?_
        rintro e w1 ⟨rfl, h1⟩
        have B1 := Bq7.trans (h1.mono Bq7.size)
        have ok_1 := (HOK.out.on Bq7).on h1
        have bx_1 := (r1.on Bq7).on h1
        have cbx := bx_1.cell (j := 0) rfl
        go_wp2_with fail
        refine ((HV1 _ ok_1).out).mono ?_
        rintro e w2 ⟨rfl, h2⟩
        have B2 := B1.trans (h2.mono B1.size)
        have ok_2 := ok_1.on h2
        have bx_2 := bx_1.on h2
        clear ok_1 bx_1
        have cbx := bx_2.cell (j := 0) rfl
        go_wp2_with fail
        refine ((HV2 _ ok_2).out).mono ?_
        rintro e w3 ⟨rfl, h3⟩
        have B3 := B2.trans (h3.mono B2.size)
        have ok_3 := ok_2.on h3
        have bx_3 := bx_2.on h3
        clear ok_2 bx_2
        have cbx := bx_3.cell (j := 0) rfl
        go_wp2_with fail
        go_ret
        exact ⟨rfl, b1.trans (B3.mono b1.size)⟩
       | true =>
        rw [hv] at HV1 HV2
        have hn4 := valid_n hok hv
        have HLL := Lib.hid (valid_l hv)
        have HPN := Lib.hid ((parts_le hok (bs := bk ps) (k := 1000) rfl (by rw [bk_len, HLN.out]) HLL.out).2)
        have HBT0 := Lib.hid (valid_bits hv)
        have HPL : Hid ((fuPulse (bk ps) b i flag).length ≤ 4) := Lib.hid (by
          have h1 := congrArg List.length (fuPulse_lens (bk ps) b i flag)
          rw [List.length_map, List.length_map] at h1
          have := valid_len hv
          omega)
        have HR1 := fun W (h : FuOK W A n c ps) => Lib.hid (fread_any A n c ps b i flag W h.1)
        have HR2 := fun W (h : FuOK W A n c ps) => Lib.hid (rread_any A n c ps b i flag W h.1)
        have HP1 := fun W (h : FuOK W A n c ps) => Lib.hid (fpulse_any A n c ps b i flag W h.1 (by omega) HPN.out)
        have HP2 := fun W (h : FuOK W A n c ps) => Lib.hid (rpulse_any A n c ps b i flag W h (by omega) HPN.out)
        have HW1 := fun W (h : FuOK W A n c ps) => Lib.hid (fwidth_any A n c ps b W h.1 h.2.2)
        have HW2 := fun W (h : FuOK W A n c ps) => Lib.hid (rwidth_any A n c ps b W h.1 h.2.2)
        have HL1 := fun W (h : FuOK W A n c ps) => Lib.hid (fleast_any A n c ps b W h.1 h.2.2)
        have HL2 := fun W (h : FuOK W A n c ps) => Lib.hid (rleast_any A n c ps b W h.1 h.2.2)
        have HM1 := fun W (h : FuOK W A n c ps) => Lib.hid (fmost_any A n c ps b W h.1 h.2.2)
        have HM2 := fun W (h : FuOK W A n c ps) => Lib.hid (rmost_any A n c ps b W h.1 h.2.2)
        have HS1 := fun W (h : FuOK W A n c ps) => Lib.hid (fsound_any A n c ps W h.1 (by omega) HBT0.out)
        have HS2 := fun W (h : FuOK W A n c ps) => Lib.hid (rsound_any A n c ps W h.1 (by omega) HBT0.out)
        unfold fuv at *
        generalize fuRead (bk ps) b i flag = R at *
        generalize fuErr (bk ps) b i = E at *
        generalize fuWidth (bk ps) b = Wd at *
        generalize fuLevel (bk ps) b false = L1 at *
        generalize fuLevel (bk ps) b true = L2 at *
        generalize fuSound (bk ps) = X at *
        clear hv
        go_wp2_with fail
        refine wp_region_plan (fun w' => Row w' w.heap.size 24 [.slice A n c]) (.take 0 <| .take 2 <| .one 1 <| .one 3 <| .take 4 <| .take 5 <| .take 6 <| .one 7 <| .take 8 <| .take 9 <| .done) (by kernel_rfl) (by kernel_rfl) (by kernel_rfl) (fun _ _ _ _ _ h => h) (r1.on hB1.drew) ?_
        repeat (refine plan_take _ rfl ?_; (first | (refine wpQuiet_valueG (o := ⟨some 36, _, _, _, _, _⟩) rfl _ (by intro _ h; exact exec_load _ 24 _ rfl ⟨w.heap.size, 0, none⟩ rfl [.slice A n c] h.cells _ Try.underlying24 rfl (by kernel_rfl)) (wpQuiet_nil ?_); simp only [Act.put, List.setIfInBounds_toArray, List.set_cons_zero, List.set_cons_succ]) | (refine wpQuiet_valueG (o := ⟨some 38, _, _, _, _, _⟩) rfl _ (by intro _ h; exact exec_load _ 24 _ rfl ⟨w.heap.size, 0, none⟩ rfl [.slice A n c] h.cells _ Try.underlying24 rfl (by kernel_rfl)) (wpQuiet_nil ?_); simp only [Act.put, List.setIfInBounds_toArray, List.set_cons_zero, List.set_cons_succ]) | (refine wpQuiet_valueG (o := ⟨some 42, _, _, _, _, _⟩) rfl _ (by intro _ h; exact exec_load _ 24 _ rfl ⟨w.heap.size, 0, none⟩ rfl [.slice A n c] h.cells _ Try.underlying24 rfl (by kernel_rfl)) (wpQuiet_nil ?_); simp only [Act.put, List.setIfInBounds_toArray, List.set_cons_zero, List.set_cons_succ]) | (go_big_quiet_step ((intros; rfl)); refine wpQuiet_nil ?_)))
        refine plan_one _ rfl fun K hK => ?_
        go_simp
        refine ((HV1 _ (HOK.out.on hB1.drew)).out).mono ?_
        rintro e wq1 ⟨rfl, hq1⟩
        have Bq1 := hB1.drew.trans (hq1.mono hB1.drew.size)
        refine hK _ _ (r1.on Bq1) ?_
        clear hK K
        refine plan_one _ rfl fun K hK => ?_
        go_simp
        refine ((HV2 _ (HOK.out.on Bq1)).out).mono ?_
        rintro e wq3 ⟨rfl, hq3⟩
        have Bq3 := Bq1.trans (hq3.mono Bq1.size)
        refine hK _ _ (r1.on Bq3) ?_
        clear hK K
        repeat (refine plan_take _ rfl ?_; (first | (refine wpQuiet_valueG (o := ⟨some 36, _, _, _, _, _⟩) rfl _ (by intro _ h; exact exec_load _ 24 _ rfl ⟨w.heap.size, 0, none⟩ rfl [.slice A n c] h.cells _ Try.underlying24 rfl (by kernel_rfl)) (wpQuiet_nil ?_); simp only [Act.put, List.setIfInBounds_toArray, List.set_cons_zero, List.set_cons_succ]) | (refine wpQuiet_valueG (o := ⟨some 38, _, _, _, _, _⟩) rfl _ (by intro _ h; exact exec_load _ 24 _ rfl ⟨w.heap.size, 0, none⟩ rfl [.slice A n c] h.cells _ Try.underlying24 rfl (by kernel_rfl)) (wpQuiet_nil ?_); simp only [Act.put, List.setIfInBounds_toArray, List.set_cons_zero, List.set_cons_succ]) | (refine wpQuiet_valueG (o := ⟨some 42, _, _, _, _, _⟩) rfl _ (by intro _ h; exact exec_load _ 24 _ rfl ⟨w.heap.size, 0, none⟩ rfl [.slice A n c] h.cells _ Try.underlying24 rfl (by kernel_rfl)) (wpQuiet_nil ?_); simp only [Act.put, List.setIfInBounds_toArray, List.set_cons_zero, List.set_cons_succ]) | (go_big_quiet_step ((intros; rfl)); refine wpQuiet_nil ?_)))
        refine plan_one _ rfl fun K hK => ?_
        go_simp
        refine ((HV2 _ (HOK.out.on Bq3)).out).mono ?_
        rintro e wq7 ⟨rfl, hq7⟩
        have Bq7 := Bq3.trans (hq7.mono Bq3.size)
        refine hK _ _ (r1.on Bq7) ?_
        clear hK K
        repeat (refine plan_take _ rfl ?_; (first | (refine wpQuiet_valueG (o := ⟨some 36, _, _, _, _, _⟩) rfl _ (by intro _ h; exact exec_load _ 24 _ rfl ⟨w.heap.size, 0, none⟩ rfl [.slice A n c] h.cells _ Try.underlying24 rfl (by kernel_rfl)) (wpQuiet_nil ?_); simp only [Act.put, List.setIfInBounds_toArray, List.set_cons_zero, List.set_cons_succ]) | (refine wpQuiet_valueG (o := ⟨some 38, _, _, _, _, _⟩) rfl _ (by intro _ h; exact exec_load _ 24 _ rfl ⟨w.heap.size, 0, none⟩ rfl [.slice A n c] h.cells _ Try.underlying24 rfl (by kernel_rfl)) (wpQuiet_nil ?_); simp only [Act.put, List.setIfInBounds_toArray, List.set_cons_zero, List.set_cons_succ]) | (refine wpQuiet_valueG (o := ⟨some 42, _, _, _, _, _⟩) rfl _ (by intro _ h; exact exec_load _ 24 _ rfl ⟨w.heap.size, 0, none⟩ rfl [.slice A n c] h.cells _ Try.underlying24 rfl (by kernel_rfl)) (wpQuiet_nil ?_); simp only [Act.put, List.setIfInBounds_toArray, List.set_cons_zero, List.set_cons_succ]) | (go_big_quiet_step ((intros; rfl)); refine wpQuiet_nil ?_)))
        refine plan_done ?_
        have cbx := (r1.on Bq7).cell (j := 0) rfl
        go_wp2_with fail
        refine ((HR1 _ (HOK.out.on Bq7)).out).mono ?_
        rintro e w1 ⟨rfl, h1⟩
        have B1 := Bq7.trans (h1.mono Bq7.size)
        have ok_1 := (HOK.out.on Bq7).on h1
        have bx_1 := (r1.on Bq7).on h1
        have cbx := bx_1.cell (j := 0) rfl
        go_wp2_with fail
        refine ((HR2 _ ok_1).out).mono ?_
        rintro e w2 ⟨rfl, h2⟩
        have B2 := B1.trans (h2.mono B1.size)
        have ok_2 := ok_1.on h2
        have bx_2 := bx_1.on h2
        clear ok_1 bx_1
        have cbx := bx_2.cell (j := 0) rfl
        go_wp2_with fail
        refine ((HP1 _ ok_2).out).mono ?_
        rintro e w3 ⟨A7, n7, c7, qs, rfl, okg3, hb7, h3⟩
        have B3 := B2.trans (h3.mono B2.size)
        have ok_3 := ok_2.on h3
        have bx_3 := bx_2.on h3
        clear ok_2 bx_2
        have cbx := bx_3.cell (j := 0) rfl
        have HBQ := Lib.hid hb7
        clear hb7
        unfold fuv
        go_wp2_with (first
          | (with_reducible refine wpList_alloc_row (o := ⟨some 15, _, _, _, _, _⟩) rfl _ rfl [.slice none 0 0] (by kernel_rfl) ?_; intro w4 r4 s4 g4)
          | ((with_reducible refine wpList_at ⟨none, .store _ (.tmp 15) _, _, _, _, _⟩ ?_); refine wpList_store_all rfl _ _ _ rfl w3.heap.size rfl _ _ r4 [.slice A7 n7 c7] rfl (slice_one _ _ _) rfl (by kernel_rfl) ?_; intro w5 by_5 g5; have k5 : Below w3.heap.size w3 w5 := below_kept (grown_below g4 (Nat.le_refl _) (by simp)) g5 (Nat.le_of_lt s4) (by rintro q hq; cases hq; exact Nat.le_refl _); have B5 := B3.trans (k5.mono B3.size); have ok_5 := ok_3.on k5; have bx_5 := bx_3.on k5; have okg_5 := okg3.on k5; clear ok_3 bx_3; have cbx := bx_5.cell (j := 0) rfl; have cby := by_5.cell (j := 0) rfl; clear r4 g4 g5))
        refine ((HP2 _ ok_5).out).mono ?_
        rintro e w6 ⟨A8, n8, c8, ts, rfl, okh6, hb8, h6⟩
        have B6 := B5.trans (h6.mono B5.size)
        have ok_6 := ok_5.on h6
        have bx_6 := bx_5.on h6
        have okg_6 := okg_5.on h6
        have by_6 := by_5.on h6
        clear ok_5 bx_5 okg_5 by_5
        have cbx := bx_6.cell (j := 0) rfl
        have cby := by_6.cell (j := 0) rfl
        have HBT := Lib.hid hb8
        clear hb8
        unfold fuv
        go_wp2_with (first
          | (with_reducible refine wpList_alloc_row (o := ⟨some 17, _, _, _, _, _⟩) rfl _ rfl [.slice none 0 0] (by kernel_rfl) ?_; intro w7 r7 s7 g7)
          | ((with_reducible refine wpList_at ⟨none, .store _ (.tmp 17) _, _, _, _, _⟩ ?_); refine wpList_store_all rfl _ _ _ rfl w6.heap.size rfl _ _ r7 [.slice A8 n8 c8] rfl (slice_one _ _ _) rfl (by kernel_rfl) ?_; intro w8 bz_8 g8; have k8 : Below w6.heap.size w6 w8 := below_kept (grown_below g7 (Nat.le_refl _) (by simp)) g8 (Nat.le_of_lt s7) (by rintro q hq; cases hq; exact Nat.le_refl _); have B8 := B6.trans (k8.mono B6.size); have ok_8 := ok_6.on k8; have bx_8 := bx_6.on k8; have okg_8 := okg_6.on k8; have by_8 := by_6.on k8; have okh_8 := okh6.on k8; clear ok_6 bx_6 okg_6 by_6; have cbx := bx_8.cell (j := 0) rfl; have cby := by_8.cell (j := 0) rfl; have cbz := bz_8.cell (j := 0) rfl; clear r7 g7 g8))
        have HOK2 := Lib.hid ok_8
        have HOG := Lib.hid okg_8
        have HOT := Lib.hid okh_8
        have HN7 := Lib.hid (fuok_n HOG.out HBQ.out HPL.out)
        have BB := B8
        have e1 := bx_8
        have e2 := by_8
        have e3 := bz_8
        refine wp_region_plan (fun w' => Row w' w.heap.size 24 [.slice A n c] ∧ Row w' w3.heap.size 24 [.slice A7 n7 c7] ∧ Row w' w6.heap.size 24 [.slice A8 n8 c8]) (.one 0 <| .take 1 <| .take 2 <| .take 3 <| .take 4 <| .take 5 <| .take 6 <| .take 7 <| .take 8 <| .take 9 <| .take 10 <| .take 11 <| .take 12 <| .take 13 <| .one 14 <| .take 15 <| .take 16 <| .take 17 <| .take 18 <| .take 19 <| .take 20 <| .take 21 <| .take 22 <| .take 23 <| .take 25 <| .take 26 <| .one 24 <| .one 27 <| .take 28 <| .take 29 <| .take 30 <| .take 31 <| .take 32 <| .take 34 <| .take 35 <| .one 33 <| .one 36 <| .take 37 <| .take 38 <| .take 39 <| .take 40 <| .take 41 <| .take 43 <| .take 44 <| .one 42 <| .one 45 <| .take 46 <| .take 47 <| .take 48 <| .take 49 <| .take 51 <| .one 50 <| .one 52 <| .take 53 <| .take 54 <| .take 55 <| .done) (by kernel_rfl) (by kernel_rfl) (by kernel_rfl) (fun _ _ _ _ _ h => h) ⟨e1.on (Below.refl w8.heap.size w8).drew, e2.on (Below.refl w8.heap.size w8).drew, e3.on (Below.refl w8.heap.size w8).drew⟩ ?_
        refine plan_one _ rfl fun K hK => ?_
        go_simp
        refine (HSA _).mono ?_
        rintro e wq0 ⟨rfl, hq0⟩
        have Bq0 := (Below.refl w8.heap.size w8).drew.trans (hq0.mono (Below.refl w8.heap.size w8).drew.size)
        refine hK _ _ ⟨e1.on Bq0, e2.on Bq0, e3.on Bq0⟩ ?_
        clear hK K
        repeat (refine plan_take _ rfl ?_; (first | (refine wpQuiet_valueG (o := ⟨some 111, _, _, _, _, _⟩) rfl _ (by intro _ h; exact exec_load _ 24 _ rfl ⟨w.heap.size, 0, none⟩ rfl [.slice A n c] h.1.cells _ Try.underlying24 rfl (by kernel_rfl)) (wpQuiet_nil ?_); simp only [Act.put, List.setIfInBounds_toArray, List.set_cons_zero, List.set_cons_succ]) | (refine wpQuiet_valueG (o := ⟨some 114, _, _, _, _, _⟩) rfl _ (by intro _ h; exact exec_load _ 24 _ rfl ⟨w.heap.size, 0, none⟩ rfl [.slice A n c] h.1.cells _ Try.underlying24 rfl (by kernel_rfl)) (wpQuiet_nil ?_); simp only [Act.put, List.setIfInBounds_toArray, List.set_cons_zero, List.set_cons_succ]) | (refine wpQuiet_valueG (o := ⟨some 120, _, _, _, _, _⟩) rfl _ (by intro _ h; exact exec_load _ 24 _ rfl ⟨w.heap.size, 0, none⟩ rfl [.slice A n c] h.1.cells _ Try.underlying24 rfl (by kernel_rfl)) (wpQuiet_nil ?_); simp only [Act.put, List.setIfInBounds_toArray, List.set_cons_zero, List.set_cons_succ]) | (refine wpQuiet_valueG (o := ⟨some 123, _, _, _, _, _⟩) rfl _ (by intro _ h; exact exec_load _ 24 _ rfl ⟨w.heap.size, 0, none⟩ rfl [.slice A n c] h.1.cells _ Try.underlying24 rfl (by kernel_rfl)) (wpQuiet_nil ?_); simp only [Act.put, List.setIfInBounds_toArray, List.set_cons_zero, List.set_cons_succ]) | (refine wpQuiet_valueG (o := ⟨some 129, _, _, _, _, _⟩) rfl _ (by intro _ h; exact exec_load _ 24 _ rfl ⟨w.heap.size, 0, none⟩ rfl [.slice A n c] h.1.cells _ Try.underlying24 rfl (by kernel_rfl)) (wpQuiet_nil ?_); simp only [Act.put, List.setIfInBounds_toArray, List.set_cons_zero, List.set_cons_succ]) | (refine wpQuiet_valueG (o := ⟨some 132, _, _, _, _, _⟩) rfl _ (by intro _ h; exact exec_load _ 24 _ rfl ⟨w.heap.size, 0, none⟩ rfl [.slice A n c] h.1.cells _ Try.underlying24 rfl (by kernel_rfl)) (wpQuiet_nil ?_); simp only [Act.put, List.setIfInBounds_toArray, List.set_cons_zero, List.set_cons_succ]) | (refine wpQuiet_valueG (o := ⟨some 138, _, _, _, _, _⟩) rfl _ (by intro _ h; exact exec_load _ 24 _ rfl ⟨w.heap.size, 0, none⟩ rfl [.slice A n c] h.1.cells _ Try.underlying24 rfl (by kernel_rfl)) (wpQuiet_nil ?_); simp only [Act.put, List.setIfInBounds_toArray, List.set_cons_zero, List.set_cons_succ]) | (refine wpQuiet_valueG (o := ⟨some 140, _, _, _, _, _⟩) rfl _ (by intro _ h; exact exec_load _ 24 _ rfl ⟨w.heap.size, 0, none⟩ rfl [.slice A n c] h.1.cells _ Try.underlying24 rfl (by kernel_rfl)) (wpQuiet_nil ?_); simp only [Act.put, List.setIfInBounds_toArray, List.set_cons_zero, List.set_cons_succ]) | (refine wpQuiet_valueG (o := ⟨some 101, _, _, _, _, _⟩) rfl _ (by intro _ h; exact exec_load _ 24 _ rfl ⟨w3.heap.size, 0, none⟩ rfl [.slice A7 n7 c7] h.2.1.cells _ Try.underlying24 rfl (by kernel_rfl)) (wpQuiet_nil ?_); simp only [Act.put, List.setIfInBounds_toArray, List.set_cons_zero, List.set_cons_succ]) | (refine wpQuiet_valueG (o := ⟨some 102, _, _, _, _, _⟩) rfl _ (by intro _ h; exact exec_load _ 24 _ rfl ⟨w6.heap.size, 0, none⟩ rfl [.slice A8 n8 c8] h.2.2.cells _ Try.underlying24 rfl (by kernel_rfl)) (wpQuiet_nil ?_); simp only [Act.put, List.setIfInBounds_toArray, List.set_cons_zero, List.set_cons_succ]) | (go_big_quiet_step ((intros; rfl)); refine wpQuiet_nil ?_)))
        refine plan_one _ rfl fun K hK => ?_
        go_simp
        refine (same_true _ A7 A8 n7 c7 n8 c8 qs ts (HOG.out.on Bq0) (HOT.out.on Bq0) (by rw [HBQ.out, HBT.out]) (by have := HN7.out; omega)).mono ?_
        rintro e wq14 ⟨rfl, hq14⟩
        have Bq14 := Bq0.trans (hq14.mono Bq0.size)
        refine hK _ _ ⟨e1.on Bq14, e2.on Bq14, e3.on Bq14⟩ ?_
        clear hK K
        repeat (refine plan_take _ rfl ?_; (first | (refine wpQuiet_valueG (o := ⟨some 111, _, _, _, _, _⟩) rfl _ (by intro _ h; exact exec_load _ 24 _ rfl ⟨w.heap.size, 0, none⟩ rfl [.slice A n c] h.1.cells _ Try.underlying24 rfl (by kernel_rfl)) (wpQuiet_nil ?_); simp only [Act.put, List.setIfInBounds_toArray, List.set_cons_zero, List.set_cons_succ]) | (refine wpQuiet_valueG (o := ⟨some 114, _, _, _, _, _⟩) rfl _ (by intro _ h; exact exec_load _ 24 _ rfl ⟨w.heap.size, 0, none⟩ rfl [.slice A n c] h.1.cells _ Try.underlying24 rfl (by kernel_rfl)) (wpQuiet_nil ?_); simp only [Act.put, List.setIfInBounds_toArray, List.set_cons_zero, List.set_cons_succ]) | (refine wpQuiet_valueG (o := ⟨some 120, _, _, _, _, _⟩) rfl _ (by intro _ h; exact exec_load _ 24 _ rfl ⟨w.heap.size, 0, none⟩ rfl [.slice A n c] h.1.cells _ Try.underlying24 rfl (by kernel_rfl)) (wpQuiet_nil ?_); simp only [Act.put, List.setIfInBounds_toArray, List.set_cons_zero, List.set_cons_succ]) | (refine wpQuiet_valueG (o := ⟨some 123, _, _, _, _, _⟩) rfl _ (by intro _ h; exact exec_load _ 24 _ rfl ⟨w.heap.size, 0, none⟩ rfl [.slice A n c] h.1.cells _ Try.underlying24 rfl (by kernel_rfl)) (wpQuiet_nil ?_); simp only [Act.put, List.setIfInBounds_toArray, List.set_cons_zero, List.set_cons_succ]) | (refine wpQuiet_valueG (o := ⟨some 129, _, _, _, _, _⟩) rfl _ (by intro _ h; exact exec_load _ 24 _ rfl ⟨w.heap.size, 0, none⟩ rfl [.slice A n c] h.1.cells _ Try.underlying24 rfl (by kernel_rfl)) (wpQuiet_nil ?_); simp only [Act.put, List.setIfInBounds_toArray, List.set_cons_zero, List.set_cons_succ]) | (refine wpQuiet_valueG (o := ⟨some 132, _, _, _, _, _⟩) rfl _ (by intro _ h; exact exec_load _ 24 _ rfl ⟨w.heap.size, 0, none⟩ rfl [.slice A n c] h.1.cells _ Try.underlying24 rfl (by kernel_rfl)) (wpQuiet_nil ?_); simp only [Act.put, List.setIfInBounds_toArray, List.set_cons_zero, List.set_cons_succ]) | (refine wpQuiet_valueG (o := ⟨some 138, _, _, _, _, _⟩) rfl _ (by intro _ h; exact exec_load _ 24 _ rfl ⟨w.heap.size, 0, none⟩ rfl [.slice A n c] h.1.cells _ Try.underlying24 rfl (by kernel_rfl)) (wpQuiet_nil ?_); simp only [Act.put, List.setIfInBounds_toArray, List.set_cons_zero, List.set_cons_succ]) | (refine wpQuiet_valueG (o := ⟨some 140, _, _, _, _, _⟩) rfl _ (by intro _ h; exact exec_load _ 24 _ rfl ⟨w.heap.size, 0, none⟩ rfl [.slice A n c] h.1.cells _ Try.underlying24 rfl (by kernel_rfl)) (wpQuiet_nil ?_); simp only [Act.put, List.setIfInBounds_toArray, List.set_cons_zero, List.set_cons_succ]) | (refine wpQuiet_valueG (o := ⟨some 101, _, _, _, _, _⟩) rfl _ (by intro _ h; exact exec_load _ 24 _ rfl ⟨w3.heap.size, 0, none⟩ rfl [.slice A7 n7 c7] h.2.1.cells _ Try.underlying24 rfl (by kernel_rfl)) (wpQuiet_nil ?_); simp only [Act.put, List.setIfInBounds_toArray, List.set_cons_zero, List.set_cons_succ]) | (refine wpQuiet_valueG (o := ⟨some 102, _, _, _, _, _⟩) rfl _ (by intro _ h; exact exec_load _ 24 _ rfl ⟨w6.heap.size, 0, none⟩ rfl [.slice A8 n8 c8] h.2.2.cells _ Try.underlying24 rfl (by kernel_rfl)) (wpQuiet_nil ?_); simp only [Act.put, List.setIfInBounds_toArray, List.set_cons_zero, List.set_cons_succ]) | (go_big_quiet_step ((intros; rfl)); refine wpQuiet_nil ?_)))
        refine plan_one _ rfl fun K hK => ?_
        go_simp
        refine ((HW1 _ (HOK2.out.on Bq14)).out).mono ?_
        rintro e wq24 ⟨rfl, hq24⟩
        have Bq24 := Bq14.trans (hq24.mono Bq14.size)
        refine hK _ _ ⟨e1.on Bq24, e2.on Bq24, e3.on Bq24⟩ ?_
        clear hK K
        refine plan_one _ rfl fun K hK => ?_
        go_simp
        refine ((HW2 _ (HOK2.out.on Bq24)).out).mono ?_
        rintro e wq27 ⟨rfl, hq27⟩
        have Bq27 := Bq24.trans (hq27.mono Bq24.size)
        refine hK _ _ ⟨e1.on Bq27, e2.on Bq27, e3.on Bq27⟩ ?_
        clear hK K
        repeat (refine plan_take _ rfl ?_; (first | (refine wpQuiet_valueG (o := ⟨some 111, _, _, _, _, _⟩) rfl _ (by intro _ h; exact exec_load _ 24 _ rfl ⟨w.heap.size, 0, none⟩ rfl [.slice A n c] h.1.cells _ Try.underlying24 rfl (by kernel_rfl)) (wpQuiet_nil ?_); simp only [Act.put, List.setIfInBounds_toArray, List.set_cons_zero, List.set_cons_succ]) | (refine wpQuiet_valueG (o := ⟨some 114, _, _, _, _, _⟩) rfl _ (by intro _ h; exact exec_load _ 24 _ rfl ⟨w.heap.size, 0, none⟩ rfl [.slice A n c] h.1.cells _ Try.underlying24 rfl (by kernel_rfl)) (wpQuiet_nil ?_); simp only [Act.put, List.setIfInBounds_toArray, List.set_cons_zero, List.set_cons_succ]) | (refine wpQuiet_valueG (o := ⟨some 120, _, _, _, _, _⟩) rfl _ (by intro _ h; exact exec_load _ 24 _ rfl ⟨w.heap.size, 0, none⟩ rfl [.slice A n c] h.1.cells _ Try.underlying24 rfl (by kernel_rfl)) (wpQuiet_nil ?_); simp only [Act.put, List.setIfInBounds_toArray, List.set_cons_zero, List.set_cons_succ]) | (refine wpQuiet_valueG (o := ⟨some 123, _, _, _, _, _⟩) rfl _ (by intro _ h; exact exec_load _ 24 _ rfl ⟨w.heap.size, 0, none⟩ rfl [.slice A n c] h.1.cells _ Try.underlying24 rfl (by kernel_rfl)) (wpQuiet_nil ?_); simp only [Act.put, List.setIfInBounds_toArray, List.set_cons_zero, List.set_cons_succ]) | (refine wpQuiet_valueG (o := ⟨some 129, _, _, _, _, _⟩) rfl _ (by intro _ h; exact exec_load _ 24 _ rfl ⟨w.heap.size, 0, none⟩ rfl [.slice A n c] h.1.cells _ Try.underlying24 rfl (by kernel_rfl)) (wpQuiet_nil ?_); simp only [Act.put, List.setIfInBounds_toArray, List.set_cons_zero, List.set_cons_succ]) | (refine wpQuiet_valueG (o := ⟨some 132, _, _, _, _, _⟩) rfl _ (by intro _ h; exact exec_load _ 24 _ rfl ⟨w.heap.size, 0, none⟩ rfl [.slice A n c] h.1.cells _ Try.underlying24 rfl (by kernel_rfl)) (wpQuiet_nil ?_); simp only [Act.put, List.setIfInBounds_toArray, List.set_cons_zero, List.set_cons_succ]) | (refine wpQuiet_valueG (o := ⟨some 138, _, _, _, _, _⟩) rfl _ (by intro _ h; exact exec_load _ 24 _ rfl ⟨w.heap.size, 0, none⟩ rfl [.slice A n c] h.1.cells _ Try.underlying24 rfl (by kernel_rfl)) (wpQuiet_nil ?_); simp only [Act.put, List.setIfInBounds_toArray, List.set_cons_zero, List.set_cons_succ]) | (refine wpQuiet_valueG (o := ⟨some 140, _, _, _, _, _⟩) rfl _ (by intro _ h; exact exec_load _ 24 _ rfl ⟨w.heap.size, 0, none⟩ rfl [.slice A n c] h.1.cells _ Try.underlying24 rfl (by kernel_rfl)) (wpQuiet_nil ?_); simp only [Act.put, List.setIfInBounds_toArray, List.set_cons_zero, List.set_cons_succ]) | (refine wpQuiet_valueG (o := ⟨some 101, _, _, _, _, _⟩) rfl _ (by intro _ h; exact exec_load _ 24 _ rfl ⟨w3.heap.size, 0, none⟩ rfl [.slice A7 n7 c7] h.2.1.cells _ Try.underlying24 rfl (by kernel_rfl)) (wpQuiet_nil ?_); simp only [Act.put, List.setIfInBounds_toArray, List.set_cons_zero, List.set_cons_succ]) | (refine wpQuiet_valueG (o := ⟨some 102, _, _, _, _, _⟩) rfl _ (by intro _ h; exact exec_load _ 24 _ rfl ⟨w6.heap.size, 0, none⟩ rfl [.slice A8 n8 c8] h.2.2.cells _ Try.underlying24 rfl (by kernel_rfl)) (wpQuiet_nil ?_); simp only [Act.put, List.setIfInBounds_toArray, List.set_cons_zero, List.set_cons_succ]) | (go_big_quiet_step ((intros; rfl)); refine wpQuiet_nil ?_)))
        refine plan_one _ rfl fun K hK => ?_
        go_simp
        refine ((HL1 _ (HOK2.out.on Bq27)).out).mono ?_
        rintro e wq33 ⟨rfl, hq33⟩
        have Bq33 := Bq27.trans (hq33.mono Bq27.size)
        refine hK _ _ ⟨e1.on Bq33, e2.on Bq33, e3.on Bq33⟩ ?_
        clear hK K
        refine plan_one _ rfl fun K hK => ?_
        go_simp
        refine ((HL2 _ (HOK2.out.on Bq33)).out).mono ?_
        rintro e wq36 ⟨rfl, hq36⟩
        have Bq36 := Bq33.trans (hq36.mono Bq33.size)
        refine hK _ _ ⟨e1.on Bq36, e2.on Bq36, e3.on Bq36⟩ ?_
        clear hK K
        repeat (refine plan_take _ rfl ?_; (first | (refine wpQuiet_valueG (o := ⟨some 111, _, _, _, _, _⟩) rfl _ (by intro _ h; exact exec_load _ 24 _ rfl ⟨w.heap.size, 0, none⟩ rfl [.slice A n c] h.1.cells _ Try.underlying24 rfl (by kernel_rfl)) (wpQuiet_nil ?_); simp only [Act.put, List.setIfInBounds_toArray, List.set_cons_zero, List.set_cons_succ]) | (refine wpQuiet_valueG (o := ⟨some 114, _, _, _, _, _⟩) rfl _ (by intro _ h; exact exec_load _ 24 _ rfl ⟨w.heap.size, 0, none⟩ rfl [.slice A n c] h.1.cells _ Try.underlying24 rfl (by kernel_rfl)) (wpQuiet_nil ?_); simp only [Act.put, List.setIfInBounds_toArray, List.set_cons_zero, List.set_cons_succ]) | (refine wpQuiet_valueG (o := ⟨some 120, _, _, _, _, _⟩) rfl _ (by intro _ h; exact exec_load _ 24 _ rfl ⟨w.heap.size, 0, none⟩ rfl [.slice A n c] h.1.cells _ Try.underlying24 rfl (by kernel_rfl)) (wpQuiet_nil ?_); simp only [Act.put, List.setIfInBounds_toArray, List.set_cons_zero, List.set_cons_succ]) | (refine wpQuiet_valueG (o := ⟨some 123, _, _, _, _, _⟩) rfl _ (by intro _ h; exact exec_load _ 24 _ rfl ⟨w.heap.size, 0, none⟩ rfl [.slice A n c] h.1.cells _ Try.underlying24 rfl (by kernel_rfl)) (wpQuiet_nil ?_); simp only [Act.put, List.setIfInBounds_toArray, List.set_cons_zero, List.set_cons_succ]) | (refine wpQuiet_valueG (o := ⟨some 129, _, _, _, _, _⟩) rfl _ (by intro _ h; exact exec_load _ 24 _ rfl ⟨w.heap.size, 0, none⟩ rfl [.slice A n c] h.1.cells _ Try.underlying24 rfl (by kernel_rfl)) (wpQuiet_nil ?_); simp only [Act.put, List.setIfInBounds_toArray, List.set_cons_zero, List.set_cons_succ]) | (refine wpQuiet_valueG (o := ⟨some 132, _, _, _, _, _⟩) rfl _ (by intro _ h; exact exec_load _ 24 _ rfl ⟨w.heap.size, 0, none⟩ rfl [.slice A n c] h.1.cells _ Try.underlying24 rfl (by kernel_rfl)) (wpQuiet_nil ?_); simp only [Act.put, List.setIfInBounds_toArray, List.set_cons_zero, List.set_cons_succ]) | (refine wpQuiet_valueG (o := ⟨some 138, _, _, _, _, _⟩) rfl _ (by intro _ h; exact exec_load _ 24 _ rfl ⟨w.heap.size, 0, none⟩ rfl [.slice A n c] h.1.cells _ Try.underlying24 rfl (by kernel_rfl)) (wpQuiet_nil ?_); simp only [Act.put, List.setIfInBounds_toArray, List.set_cons_zero, List.set_cons_succ]) | (refine wpQuiet_valueG (o := ⟨some 140, _, _, _, _, _⟩) rfl _ (by intro _ h; exact exec_load _ 24 _ rfl ⟨w.heap.size, 0, none⟩ rfl [.slice A n c] h.1.cells _ Try.underlying24 rfl (by kernel_rfl)) (wpQuiet_nil ?_); simp only [Act.put, List.setIfInBounds_toArray, List.set_cons_zero, List.set_cons_succ]) | (refine wpQuiet_valueG (o := ⟨some 101, _, _, _, _, _⟩) rfl _ (by intro _ h; exact exec_load _ 24 _ rfl ⟨w3.heap.size, 0, none⟩ rfl [.slice A7 n7 c7] h.2.1.cells _ Try.underlying24 rfl (by kernel_rfl)) (wpQuiet_nil ?_); simp only [Act.put, List.setIfInBounds_toArray, List.set_cons_zero, List.set_cons_succ]) | (refine wpQuiet_valueG (o := ⟨some 102, _, _, _, _, _⟩) rfl _ (by intro _ h; exact exec_load _ 24 _ rfl ⟨w6.heap.size, 0, none⟩ rfl [.slice A8 n8 c8] h.2.2.cells _ Try.underlying24 rfl (by kernel_rfl)) (wpQuiet_nil ?_); simp only [Act.put, List.setIfInBounds_toArray, List.set_cons_zero, List.set_cons_succ]) | (go_big_quiet_step ((intros; rfl)); refine wpQuiet_nil ?_)))
        refine plan_one _ rfl fun K hK => ?_
        go_simp
        refine ((HM1 _ (HOK2.out.on Bq36)).out).mono ?_
        rintro e wq42 ⟨rfl, hq42⟩
        have Bq42 := Bq36.trans (hq42.mono Bq36.size)
        refine hK _ _ ⟨e1.on Bq42, e2.on Bq42, e3.on Bq42⟩ ?_
        clear hK K
        refine plan_one _ rfl fun K hK => ?_
        go_simp
        refine ((HM2 _ (HOK2.out.on Bq42)).out).mono ?_
        rintro e wq45 ⟨rfl, hq45⟩
        have Bq45 := Bq42.trans (hq45.mono Bq42.size)
        refine hK _ _ ⟨e1.on Bq45, e2.on Bq45, e3.on Bq45⟩ ?_
        clear hK K
        repeat (refine plan_take _ rfl ?_; (first | (refine wpQuiet_valueG (o := ⟨some 111, _, _, _, _, _⟩) rfl _ (by intro _ h; exact exec_load _ 24 _ rfl ⟨w.heap.size, 0, none⟩ rfl [.slice A n c] h.1.cells _ Try.underlying24 rfl (by kernel_rfl)) (wpQuiet_nil ?_); simp only [Act.put, List.setIfInBounds_toArray, List.set_cons_zero, List.set_cons_succ]) | (refine wpQuiet_valueG (o := ⟨some 114, _, _, _, _, _⟩) rfl _ (by intro _ h; exact exec_load _ 24 _ rfl ⟨w.heap.size, 0, none⟩ rfl [.slice A n c] h.1.cells _ Try.underlying24 rfl (by kernel_rfl)) (wpQuiet_nil ?_); simp only [Act.put, List.setIfInBounds_toArray, List.set_cons_zero, List.set_cons_succ]) | (refine wpQuiet_valueG (o := ⟨some 120, _, _, _, _, _⟩) rfl _ (by intro _ h; exact exec_load _ 24 _ rfl ⟨w.heap.size, 0, none⟩ rfl [.slice A n c] h.1.cells _ Try.underlying24 rfl (by kernel_rfl)) (wpQuiet_nil ?_); simp only [Act.put, List.setIfInBounds_toArray, List.set_cons_zero, List.set_cons_succ]) | (refine wpQuiet_valueG (o := ⟨some 123, _, _, _, _, _⟩) rfl _ (by intro _ h; exact exec_load _ 24 _ rfl ⟨w.heap.size, 0, none⟩ rfl [.slice A n c] h.1.cells _ Try.underlying24 rfl (by kernel_rfl)) (wpQuiet_nil ?_); simp only [Act.put, List.setIfInBounds_toArray, List.set_cons_zero, List.set_cons_succ]) | (refine wpQuiet_valueG (o := ⟨some 129, _, _, _, _, _⟩) rfl _ (by intro _ h; exact exec_load _ 24 _ rfl ⟨w.heap.size, 0, none⟩ rfl [.slice A n c] h.1.cells _ Try.underlying24 rfl (by kernel_rfl)) (wpQuiet_nil ?_); simp only [Act.put, List.setIfInBounds_toArray, List.set_cons_zero, List.set_cons_succ]) | (refine wpQuiet_valueG (o := ⟨some 132, _, _, _, _, _⟩) rfl _ (by intro _ h; exact exec_load _ 24 _ rfl ⟨w.heap.size, 0, none⟩ rfl [.slice A n c] h.1.cells _ Try.underlying24 rfl (by kernel_rfl)) (wpQuiet_nil ?_); simp only [Act.put, List.setIfInBounds_toArray, List.set_cons_zero, List.set_cons_succ]) | (refine wpQuiet_valueG (o := ⟨some 138, _, _, _, _, _⟩) rfl _ (by intro _ h; exact exec_load _ 24 _ rfl ⟨w.heap.size, 0, none⟩ rfl [.slice A n c] h.1.cells _ Try.underlying24 rfl (by kernel_rfl)) (wpQuiet_nil ?_); simp only [Act.put, List.setIfInBounds_toArray, List.set_cons_zero, List.set_cons_succ]) | (refine wpQuiet_valueG (o := ⟨some 140, _, _, _, _, _⟩) rfl _ (by intro _ h; exact exec_load _ 24 _ rfl ⟨w.heap.size, 0, none⟩ rfl [.slice A n c] h.1.cells _ Try.underlying24 rfl (by kernel_rfl)) (wpQuiet_nil ?_); simp only [Act.put, List.setIfInBounds_toArray, List.set_cons_zero, List.set_cons_succ]) | (refine wpQuiet_valueG (o := ⟨some 101, _, _, _, _, _⟩) rfl _ (by intro _ h; exact exec_load _ 24 _ rfl ⟨w3.heap.size, 0, none⟩ rfl [.slice A7 n7 c7] h.2.1.cells _ Try.underlying24 rfl (by kernel_rfl)) (wpQuiet_nil ?_); simp only [Act.put, List.setIfInBounds_toArray, List.set_cons_zero, List.set_cons_succ]) | (refine wpQuiet_valueG (o := ⟨some 102, _, _, _, _, _⟩) rfl _ (by intro _ h; exact exec_load _ 24 _ rfl ⟨w6.heap.size, 0, none⟩ rfl [.slice A8 n8 c8] h.2.2.cells _ Try.underlying24 rfl (by kernel_rfl)) (wpQuiet_nil ?_); simp only [Act.put, List.setIfInBounds_toArray, List.set_cons_zero, List.set_cons_succ]) | (go_big_quiet_step ((intros; rfl)); refine wpQuiet_nil ?_)))
        refine plan_one _ rfl fun K hK => ?_
        go_simp
        refine ((HS1 _ (HOK2.out.on Bq45)).out).mono ?_
        rintro e wq50 ⟨rfl, hq50⟩
        have Bq50 := Bq45.trans (hq50.mono Bq45.size)
        refine hK _ _ ⟨e1.on Bq50, e2.on Bq50, e3.on Bq50⟩ ?_
        clear hK K
        refine plan_one _ rfl fun K hK => ?_
        go_simp
        refine ((HS2 _ (HOK2.out.on Bq50)).out).mono ?_
        rintro e wq52 ⟨rfl, hq52⟩
        have Bq52 := Bq50.trans (hq52.mono Bq50.size)
        refine hK _ _ ⟨e1.on Bq52, e2.on Bq52, e3.on Bq52⟩ ?_
        clear hK K
        repeat (refine plan_take _ rfl ?_; (first | (refine wpQuiet_valueG (o := ⟨some 111, _, _, _, _, _⟩) rfl _ (by intro _ h; exact exec_load _ 24 _ rfl ⟨w.heap.size, 0, none⟩ rfl [.slice A n c] h.1.cells _ Try.underlying24 rfl (by kernel_rfl)) (wpQuiet_nil ?_); simp only [Act.put, List.setIfInBounds_toArray, List.set_cons_zero, List.set_cons_succ]) | (refine wpQuiet_valueG (o := ⟨some 114, _, _, _, _, _⟩) rfl _ (by intro _ h; exact exec_load _ 24 _ rfl ⟨w.heap.size, 0, none⟩ rfl [.slice A n c] h.1.cells _ Try.underlying24 rfl (by kernel_rfl)) (wpQuiet_nil ?_); simp only [Act.put, List.setIfInBounds_toArray, List.set_cons_zero, List.set_cons_succ]) | (refine wpQuiet_valueG (o := ⟨some 120, _, _, _, _, _⟩) rfl _ (by intro _ h; exact exec_load _ 24 _ rfl ⟨w.heap.size, 0, none⟩ rfl [.slice A n c] h.1.cells _ Try.underlying24 rfl (by kernel_rfl)) (wpQuiet_nil ?_); simp only [Act.put, List.setIfInBounds_toArray, List.set_cons_zero, List.set_cons_succ]) | (refine wpQuiet_valueG (o := ⟨some 123, _, _, _, _, _⟩) rfl _ (by intro _ h; exact exec_load _ 24 _ rfl ⟨w.heap.size, 0, none⟩ rfl [.slice A n c] h.1.cells _ Try.underlying24 rfl (by kernel_rfl)) (wpQuiet_nil ?_); simp only [Act.put, List.setIfInBounds_toArray, List.set_cons_zero, List.set_cons_succ]) | (refine wpQuiet_valueG (o := ⟨some 129, _, _, _, _, _⟩) rfl _ (by intro _ h; exact exec_load _ 24 _ rfl ⟨w.heap.size, 0, none⟩ rfl [.slice A n c] h.1.cells _ Try.underlying24 rfl (by kernel_rfl)) (wpQuiet_nil ?_); simp only [Act.put, List.setIfInBounds_toArray, List.set_cons_zero, List.set_cons_succ]) | (refine wpQuiet_valueG (o := ⟨some 132, _, _, _, _, _⟩) rfl _ (by intro _ h; exact exec_load _ 24 _ rfl ⟨w.heap.size, 0, none⟩ rfl [.slice A n c] h.1.cells _ Try.underlying24 rfl (by kernel_rfl)) (wpQuiet_nil ?_); simp only [Act.put, List.setIfInBounds_toArray, List.set_cons_zero, List.set_cons_succ]) | (refine wpQuiet_valueG (o := ⟨some 138, _, _, _, _, _⟩) rfl _ (by intro _ h; exact exec_load _ 24 _ rfl ⟨w.heap.size, 0, none⟩ rfl [.slice A n c] h.1.cells _ Try.underlying24 rfl (by kernel_rfl)) (wpQuiet_nil ?_); simp only [Act.put, List.setIfInBounds_toArray, List.set_cons_zero, List.set_cons_succ]) | (refine wpQuiet_valueG (o := ⟨some 140, _, _, _, _, _⟩) rfl _ (by intro _ h; exact exec_load _ 24 _ rfl ⟨w.heap.size, 0, none⟩ rfl [.slice A n c] h.1.cells _ Try.underlying24 rfl (by kernel_rfl)) (wpQuiet_nil ?_); simp only [Act.put, List.setIfInBounds_toArray, List.set_cons_zero, List.set_cons_succ]) | (refine wpQuiet_valueG (o := ⟨some 101, _, _, _, _, _⟩) rfl _ (by intro _ h; exact exec_load _ 24 _ rfl ⟨w3.heap.size, 0, none⟩ rfl [.slice A7 n7 c7] h.2.1.cells _ Try.underlying24 rfl (by kernel_rfl)) (wpQuiet_nil ?_); simp only [Act.put, List.setIfInBounds_toArray, List.set_cons_zero, List.set_cons_succ]) | (refine wpQuiet_valueG (o := ⟨some 102, _, _, _, _, _⟩) rfl _ (by intro _ h; exact exec_load _ 24 _ rfl ⟨w6.heap.size, 0, none⟩ rfl [.slice A8 n8 c8] h.2.2.cells _ Try.underlying24 rfl (by kernel_rfl)) (wpQuiet_nil ?_); simp only [Act.put, List.setIfInBounds_toArray, List.set_cons_zero, List.set_cons_succ]) | (go_big_quiet_step ((intros; rfl)); refine wpQuiet_nil ?_)))
        refine plan_done ?_
        go_wp2_with fail
        go_ret
        exact ⟨by simp, b1.trans ((BB.trans (Bq52.mono BB.size)).mono b1.size)⟩
end Go.Proofs.Ytliaapgnknbmbaa
