/-
  DeviceTorn's walk. Condition: bounded lengths.
-/
import Derived.Test.YtkepmhkakkkliaaTorn
namespace Go.Proofs.Ytkepmhkakkkliaa
open Go.RowKit

set_option maxRecDepth 100000 in
set_option maxHeartbeats 40000000 in
theorem walk95 (A B : Option Addr) (n c m d : Nat) (l k : List UInt8) (x : Nat) (hx255 : x ≤ 255) (cut : Bool) (n0 : Int) (nz : Bool) (w : World) (hr : Reads w w.heap.size 1 A n (bvs l)) (hq : Reads w w.heap.size 1 B m (bvs k)) :
    Calls Try.prog 7 #[.slice A n c, .slice B m d, .int .u8 (x : Int), (⟨cut, n0, nz⟩ : DvF).v] w (TellsB true w) := by
  have HSA := fun W => sanity9_any W
  by_cases hn256 : 256 < n
  · go_enter Try.func7, Try.ntmps7
    go_wp2_with ((with_reducible refine wpList_at ⟨some 7, _, _, _, _, _⟩ ?_); refine wpList_box_row rfl _ _ rfl ((⟨cut, n0, nz⟩ : DvF).cs) rfl ?_; intro w1 rf_1 s1 g1; have k1 : Below w.heap.size w w1 := grown_below g1 (Nat.le_refl _) (by simp); have B1 : Below w.heap.size w w1 := k1; have ro_1 := hr.on k1; have rw_1 := hq.on k1; have crf0 := rf_1.cell (j := 0) rfl; have crf1 := rf_1.cell (j := 1) rfl; have crf2 := rf_1.cell (j := 2) rfl)
    refine (HSA _).mono ?_
    rintro e w2 ⟨rfl, h2⟩
    have B2 := B1.trans (h2.mono B1.size)
    have ro_2 := ro_1.on h2
    have rw_2 := rw_1.on h2
    have rf_2 := rf_1.on h2
    clear ro_1 rw_1 rf_1
    have crf0 := rf_2.cell (j := 0) rfl
    have crf1 := rf_2.cell (j := 1) rfl
    have crf2 := rf_2.cell (j := 2) rfl
    go_wp2_with fail
    go_ret
    exact ⟨rfl, B2⟩
  by_cases hm256 : 256 < m
  · go_enter Try.func7, Try.ntmps7
    go_wp2_with ((with_reducible refine wpList_at ⟨some 7, _, _, _, _, _⟩ ?_); refine wpList_box_row rfl _ _ rfl ((⟨cut, n0, nz⟩ : DvF).cs) rfl ?_; intro w1 rf_1 s1 g1; have k1 : Below w.heap.size w w1 := grown_below g1 (Nat.le_refl _) (by simp); have B1 : Below w.heap.size w w1 := k1; have ro_1 := hr.on k1; have rw_1 := hq.on k1; have crf0 := rf_1.cell (j := 0) rfl; have crf1 := rf_1.cell (j := 1) rfl; have crf2 := rf_1.cell (j := 2) rfl)
    refine (HSA _).mono ?_
    rintro e w2 ⟨rfl, h2⟩
    have B2 := B1.trans (h2.mono B1.size)
    have ro_2 := ro_1.on h2
    have rw_2 := rw_1.on h2
    have rf_2 := rf_1.on h2
    clear ro_1 rw_1 rf_1
    have crf0 := rf_2.cell (j := 0) rfl
    have crf1 := rf_2.cell (j := 1) rfl
    have crf2 := rf_2.cell (j := 2) rfl
    go_wp2_with fail
    go_ret
    exact ⟨rfl, B2⟩
  have HS1 : Hid ((⟨l.toArray⟩ : ByteArray) ++ (fullS 0).extract n 256 = padS l) := Lib.hid (by rw [← hr.bytes_len]; exact padS_code)
  have HS2 : Hid ((⟨k.toArray⟩ : ByteArray) ++ (fullS 0).extract m 256 = padS k) := Lib.hid (by rw [← hq.bytes_len]; exact padS_code)
  have hS1 : (padS l).size = 256 := padS_size (by rw [hr.bytes_len]; omega)
  have hS2 : (padS k).size = 256 := padS_size (by rw [hq.bytes_len]; omega)
  have hll : l.length = n := hr.bytes_len
  have hkl : k.length = m := hq.bytes_len
  have HFZ := fun W => Lib.hid (full_any 0 W)
  have hZ := fullS_size 0
  generalize fullS 0 = Z at *
  generalize padS l = S1 at *
  generalize padS k = S2 at *
  obtain ⟨j, hj, hj128⟩ : ∃ j : Nat, (x : Int) % 128 = (j : Int) ∧ j < 128 := ⟨x % 128, by omega, Nat.mod_lt _ (by omega)⟩
  obtain ⟨i0, hi0, hz0, hz1, _⟩ := info_parts info_ac
  obtain ⟨i1, hi1, hy0, hy1, _⟩ := info_parts info_ft
  cases cut with
  | false =>
    have HN : Hid (tornN ⟨false, n0, nz⟩ = 256) := Lib.hid rfl
    obtain ⟨RS', hall, hlen⟩ := torn_all (f := ⟨false, n0, nz⟩) hj128 hS1 hS2
    rw [show tornN ⟨false, n0, nz⟩ = 256 from HN.out] at hall
    have HALL := Lib.hid hall
    have HLEN : Hid (RS'.length = 2) := Lib.hid hlen
    clear hall hlen HN
    go_enter Try.func7, Try.ntmps7
    go_wp2_with ((with_reducible refine wpList_at ⟨some 7, _, _, _, _, _⟩ ?_); refine wpList_box_row rfl _ _ rfl ((⟨false, n0, nz⟩ : DvF).cs) rfl ?_; intro w1 rf_1 s1 g1; have k1 : Below w.heap.size w w1 := grown_below g1 (Nat.le_refl _) (by simp); have B1 : Below w.heap.size w w1 := k1; have ro_1 := hr.on k1; have rw_1 := hq.on k1; have crf0 := rf_1.cell (j := 0) rfl; have crf1 := rf_1.cell (j := 1) rfl; have crf2 := rf_1.cell (j := 2) rfl)
    refine (HSA _).mono ?_
    rintro e w2 ⟨rfl, h2⟩
    have B2 := B1.trans (h2.mono B1.size)
    have ro_2 := ro_1.on h2
    have rw_2 := rw_1.on h2
    have rf_2 := rf_1.on h2
    clear ro_1 rw_1 rf_1
    have crf0 := rf_2.cell (j := 0) rfl
    have crf1 := rf_2.cell (j := 1) rfl
    have crf2 := rf_2.cell (j := 2) rfl
    go_wp2_with fail
    try simp only [Act.put, List.setIfInBounds_toArray, List.set_cons_zero, List.set_cons_succ]
    go_cut [10] (fun s1 wc => s1 = .string S1 ∧ Below w2.heap.size w2 wc)
    case first =>
      have b0 : Below w2.heap.size w2 w2.drew := (Below.refl _ _).drew
      have rdd : Reads w2.drew w2.heap.size 1 A n (bvs l) := ro_2
      refine wp_region_plan (fun w' => Reads w' w2.heap.size 1 A n (bvs l)) (.take 0 <| .take 1 <| .take 3 <| .take 4 <| .one 2 <| .take 5 <| .take 6 <| .take 7 <| .done) (by kernel_rfl) (by kernel_rfl) (by kernel_rfl) (fun _ _ _ _ _ h => h) rdd ?_
      repeat (refine plan_take _ rfl ?_; (first | ((with_reducible refine wpQuiet_at ⟨some 31, _, _, _, _, _⟩ ?_); refine wpQuiet_valueG rfl _ (by intro _ hS; exact exec_string_of _ _ _ 5 _ rfl Try.underlying56 Try.underlying5 Try.underlying9 rfl hS) (wpQuiet_nil ?_); simp only [Act.put, List.setIfInBounds_toArray, List.set_cons_zero, List.set_cons_succ]) | (go_big_quiet_step ((intros; rfl)); refine wpQuiet_nil ?_)))
      refine plan_one _ rfl fun K hK => ?_
      go_simp
      refine (HFZ _).out.mono ?_
      rintro e wu1 ⟨rfl, hu1⟩
      have rdu1 := rdd.below hu1
      have bu1 := b0.trans (hu1.mono b0.size)
      refine hK _ _ rdu1 ?_
      clear hK K
      repeat (refine plan_take _ rfl ?_; (first | ((with_reducible refine wpQuiet_at ⟨some 31, _, _, _, _, _⟩ ?_); refine wpQuiet_valueG rfl _ (by intro _ hS; exact exec_string_of _ _ _ 5 _ rfl Try.underlying56 Try.underlying5 Try.underlying9 rfl hS) (wpQuiet_nil ?_); simp only [Act.put, List.setIfInBounds_toArray, List.set_cons_zero, List.set_cons_succ]) | (go_big_quiet_step ((intros; rfl)); refine wpQuiet_nil ?_)))
      refine plan_done ?_
      go_wp2_with fail
      go_meet
      exact ⟨by first | rfl | exact congrArg Value.string HS1.out, bu1⟩
    case rest =>
      revert wc
      intro wcS1 hcut
      obtain ⟨rfl, hbS1⟩ := hcut
      have BS1 := B2.trans (hbS1.mono B2.size)
      have ro_S1 := ro_2.on hbS1
      have rw_S1 := rw_2.on hbS1
      have rf_S1 := rf_2.on hbS1
      clear ro_2 rw_2 rf_2
      have crf0 := rf_S1.cell (j := 0) rfl
      have crf1 := rf_S1.cell (j := 1) rfl
      have crf2 := rf_S1.cell (j := 2) rfl
      go_wp2_with fail
      try simp only [Act.put, List.setIfInBounds_toArray, List.set_cons_zero, List.set_cons_succ]
      go_cut [11] (fun s1 wc => s1 = .string S2 ∧ Below wcS1.heap.size wcS1 wc)
      case first =>
        have b0 : Below wcS1.heap.size wcS1 wcS1.drew := (Below.refl _ _).drew
        have rdd : Reads wcS1.drew wcS1.heap.size 1 B m (bvs k) := rw_S1
        refine wp_region_plan (fun w' => Reads w' wcS1.heap.size 1 B m (bvs k)) (.take 0 <| .take 1 <| .take 3 <| .take 4 <| .one 2 <| .take 5 <| .take 6 <| .take 7 <| .done) (by kernel_rfl) (by kernel_rfl) (by kernel_rfl) (fun _ _ _ _ _ h => h) rdd ?_
        repeat (refine plan_take _ rfl ?_; (first | ((with_reducible refine wpQuiet_at ⟨some 38, _, _, _, _, _⟩ ?_); refine wpQuiet_valueG rfl _ (by intro _ hS; exact exec_string_of _ _ _ 5 _ rfl Try.underlying56 Try.underlying5 Try.underlying9 rfl hS) (wpQuiet_nil ?_); simp only [Act.put, List.setIfInBounds_toArray, List.set_cons_zero, List.set_cons_succ]) | (go_big_quiet_step ((intros; rfl)); refine wpQuiet_nil ?_)))
        refine plan_one _ rfl fun K hK => ?_
        go_simp
        refine (HFZ _).out.mono ?_
        rintro e wu2 ⟨rfl, hu2⟩
        have rdu2 := rdd.below hu2
        have bu2 := b0.trans (hu2.mono b0.size)
        refine hK _ _ rdu2 ?_
        clear hK K
        repeat (refine plan_take _ rfl ?_; (first | ((with_reducible refine wpQuiet_at ⟨some 38, _, _, _, _, _⟩ ?_); refine wpQuiet_valueG rfl _ (by intro _ hS; exact exec_string_of _ _ _ 5 _ rfl Try.underlying56 Try.underlying5 Try.underlying9 rfl hS) (wpQuiet_nil ?_); simp only [Act.put, List.setIfInBounds_toArray, List.set_cons_zero, List.set_cons_succ]) | (go_big_quiet_step ((intros; rfl)); refine wpQuiet_nil ?_)))
        refine plan_done ?_
        go_wp2_with fail
        go_meet
        exact ⟨by first | rfl | exact congrArg Value.string HS2.out, bu2⟩
      case rest =>
        revert wc
        intro wcS2 hcut
        obtain ⟨rfl, hbS2⟩ := hcut
        have BS2 := BS1.trans (hbS2.mono BS1.size)
        have ro_S2 := ro_S1.on hbS2
        have rw_S2 := rw_S1.on hbS2
        have rf_S2 := rf_S1.on hbS2
        clear ro_S1 rw_S1 rf_S1
        have crf0 := rf_S2.cell (j := 0) rfl
        have crf1 := rf_S2.cell (j := 1) rfl
        have crf2 := rf_S2.cell (j := 2) rfl
        go_wp2_with fail
        try simp only [hj]
        have k3 : Below wcS2.heap.size wcS2 (wcS2.alloc (.cells [.int .i64 1].toArray 3)) := (Below.refl _ _).alloc (Nat.le_refl _) _
        have B3 := BS2.trans (k3.mono BS2.size)
        have ro_3 := ro_S2.on k3
        have rw_3 := rw_S2.on k3
        have rf_3 := rf_S2.on k3
        clear ro_S2 rw_S2 rf_S2
        have crf0 := rf_3.cell (j := 0) rfl
        have crf1 := rf_3.cell (j := 1) rfl
        have crf2 := rf_3.cell (j := 2) rfl
        refine (torn_new (wcS2.alloc (.cells [.int .i64 1].toArray 3)) (some ⟨wcS2.heap.size, 0, none⟩) 1 ((row_alloc wcS2 3 [.int .i64 1]).reads rfl)).mono ?_
        rintro e w4 ⟨hh, rfl, kh, _, sh, h4⟩
        have B4 := B3.trans (h4.mono B3.size)
        have ro_4 := ro_3.on h4
        have rw_4 := rw_3.on h4
        have rf_4 := rf_3.on h4
        clear ro_3 rw_3 rf_3
        have crf0 := rf_4.cell (j := 0) rfl
        have crf1 := rf_4.cell (j := 1) rfl
        have crf2 := rf_4.cell (j := 2) rfl
        have HSh := Lib.hid sh
        have H16h := Lib.hid kh.h16
        clear sh
        go_wp2_with (first
          | (with_reducible refine wpList_alloc_row (o := ⟨some 13, _, _, _, _, _⟩) rfl _ rfl zeroH zero_hw ?_; intro w5 r5 s5 g5)
          | ((with_reducible refine wpList_at ⟨none, .store _ (.tmp 13) _, _, _, _, _⟩ ?_); refine wpList_store_all rfl _ _ _ rfl w4.heap.size rfl _ _ r5 (hh.cs) rfl (hh.cs_one) (hw_zl H16h.out) (hw_size H16h.out) ?_; intro w6 rh_6 g6; have k6 : Below w4.heap.size w4 w6 := below_kept (grown_below g5 (Nat.le_refl _) (by simp)) g6 (Nat.le_of_lt s5) (by rintro q hq; cases hq; exact Nat.le_refl _); have B6 := B4.trans (k6.mono B4.size); have ro_6 := ro_4.on k6; have rw_6 := rw_4.on k6; have rf_6 := rf_4.on k6; have kh_6 := kh.on k6; clear ro_4 rw_4 rf_4; have crf0 := rf_6.cell (j := 0) rfl; have crf1 := rf_6.cell (j := 1) rfl; have crf2 := rf_6.cell (j := 2) rfl; clear r5 g5 g6; have s6 := rh_6.lt)
          | ((with_reducible refine wpList_at ⟨some 54, _, _, _, _, _⟩ ?_); refine wpList_valueG rfl _ (by exact exec_loadH _ _ rfl (w4.heap.size) rfl hh H16h.out rh_6) ?_)
          | ((with_reducible refine wpList_at ⟨some 61, _, _, _, _, _⟩ ?_); refine wpList_valueW rfl _ (exec_slice2 _ 48 33 _ _ rfl Try.underlying48 i0 _ hi0 hz0 (tornA j S1).cs (tornA j S2).cs 4 hz1 (by decide) (by decide) rfl rfl rfl rfl) ?_; have bA : Below w6.heap.size w6 (w6.alloc (.cells ((tornA j S1).cs ++ (tornA j S2).cs).toArray 33)) := (Below.refl _ _).alloc (Nat.le_refl _) _; have rfA := rf_6.on bA)
          | ((with_reducible refine wpList_at ⟨some 63, _, _, _, _, _⟩ ?_); refine wpList_valueG rfl _ (by exact exec_loadT _ _ rfl (w.heap.size) rfl (⟨false, n0, nz⟩ : DvF) rfA) ?_)
          | ((with_reducible refine wpList_at ⟨some 64, _, _, _, _, _⟩ ?_); refine wpList_valueW rfl _ (exec_slice2 _ 49 35 _ _ rfl Try.underlying49 i1 _ hi1 hy0 noF.cs (⟨false, n0, nz⟩ : DvF).cs 3 hy1 (by decide) (by decide) rfl rfl rfl rfl) ?_; have bF : Below (w6.alloc (.cells ((tornA j S1).cs ++ (tornA j S2).cs).toArray 33)).heap.size (w6.alloc (.cells ((tornA j S1).cs ++ (tornA j S2).cs).toArray 33)) ((w6.alloc (.cells ((tornA j S1).cs ++ (tornA j S2).cs).toArray 33)).alloc (.cells (noF.cs ++ (⟨false, n0, nz⟩ : DvF).cs).toArray 35)) := (Below.refl _ _).alloc (Nat.le_refl _) _))
        have bAF : Below w6.heap.size w6 ((w6.alloc (.cells ((tornA j S1).cs ++ (tornA j S2).cs).toArray 33)).alloc (.cells (noF.cs ++ (⟨false, n0, nz⟩ : DvF).cs).toArray 35)) := bA.trans (bF.mono bA.size)
        have BAF := B6.trans (bAF.mono B6.size)
        have ro_AF := ro_6.on bAF
        have rw_AF := rw_6.on bAF
        have rf_AF := rf_6.on bAF
        have kh_AF := kh_6.on bAF
        have rh_AF := rh_6.on bAF
        clear ro_6 rw_6 rf_6 kh_6 rh_6
        have crf0 := rf_AF.cell (j := 0) rfl
        have crf1 := rf_AF.cell (j := 1) rfl
        have crf2 := rf_AF.cell (j := 2) rfl
        have rdA : Reads ((w6.alloc (.cells ((tornA j S1).cs ++ (tornA j S2).cs).toArray 33)).alloc (.cells (noF.cs ++ (⟨false, n0, nz⟩ : DvF).cs).toArray 35)) ((w6.alloc (.cells ((tornA j S1).cs ++ (tornA j S2).cs).toArray 33)).alloc (.cells (noF.cs ++ (⟨false, n0, nz⟩ : DvF).cs).toArray 35)).heap.size 4 (some ⟨w6.heap.size, 0, none⟩) 2 ([tornA j S1, tornA j S2].flatMap DvA.cs) := by have h0 := ((row_alloc w6 33 ((tornA j S1).cs ++ (tornA j S2).cs)).reads (size := 4) (n := 2) rfl).on bF; simpa using h0
        have rdF : Reads ((w6.alloc (.cells ((tornA j S1).cs ++ (tornA j S2).cs).toArray 33)).alloc (.cells (noF.cs ++ (⟨false, n0, nz⟩ : DvF).cs).toArray 35)) ((w6.alloc (.cells ((tornA j S1).cs ++ (tornA j S2).cs).toArray 33)).alloc (.cells (noF.cs ++ (⟨false, n0, nz⟩ : DvF).cs).toArray 35)).heap.size 3 (some ⟨w6.heap.size + 1, 0, none⟩) 2 ([noF, (⟨false, n0, nz⟩ : DvF)].flatMap DvF.cs) := by have h0 := (row_alloc (w6.alloc (.cells ((tornA j S1).cs ++ (tornA j S2).cs).toArray 33)) 35 (noF.cs ++ (⟨false, n0, nz⟩ : DvF).cs)).reads (size := 3) (n := 2) rfl; rw [show (w6.alloc (.cells ((tornA j S1).cs ++ (tornA j S2).cs).toArray 33)).heap.size = w6.heap.size + 1 by simp] at h0; simpa using h0
        have HDA := dall_any9 hh _ _ 2 2 2 2 [tornA j S1, tornA j S2] [noF, (⟨false, n0, nz⟩ : DvF)] _ kh_AF (by rw [HSh.out]; exact tornS_sm) rdA rdF (by decide)
        rw [HSh.out, HALL.out] at HDA
        clear rdA rdF
        refine (HDA).mono ?_
        rintro e w7 ⟨hx, Ax, nx, cx, rfl, kx, sx, rdx, lnx, h7⟩
        have B7 := BAF.trans (h7.mono BAF.size)
        have ro_7 := ro_AF.on h7
        have rw_7 := rw_AF.on h7
        have rf_7 := rf_AF.on h7
        have kh_7 := kh_AF.on h7
        have rh_7 := rh_AF.on h7
        clear ro_AF rw_AF rf_AF kh_AF rh_AF
        have crf0 := rf_7.cell (j := 0) rfl
        have crf1 := rf_7.cell (j := 1) rfl
        have crf2 := rf_7.cell (j := 2) rfl
        have HFX : Hid (hx.fs = s9F.set j (S2.extract 0 256 ++ S1.extract 256 256)) := Lib.hid (congrArg DvS.fs sx)
        have H16x := Lib.hid kx.h16
        clear sx rdx
        have hm128 : hx.m = 128 := by rw [← kx.2.1.len, HFX.out, List.length_set, s9_len]
        have hzm : ((hx.m : Int) != 128) = false := by rw [hm128]; rfl
        obtain ⟨xd, sx2, hxB, hltx, hsx, hcx⟩ := kx.2.1.1.str_at (show j < hx.m by omega)
        obtain rfl : sx2 = S2.extract 0 256 ++ S1.extract 256 256 := by rw [HFX.out, List.getElem?_set, if_pos rfl, if_pos (by rw [s9_len]; exact hj128)] at hsx; exact (Option.some.inj hsx).symm
        clear hsx
        have hnx : nx = 2 := lnx.trans HLEN.out
        clear lnx
        subst hnx
        go_wp2_with (first
          | (with_reducible refine wpList_alloc_row (o := ⟨some 15, _, _, _, _, _⟩) rfl _ rfl zeroH zero_hw ?_; intro w8 r8 s8 g8)
          | ((with_reducible refine wpList_at ⟨none, .store _ (.tmp 15) _, _, _, _, _⟩ ?_); refine wpList_store_all rfl _ _ _ rfl w7.heap.size rfl _ _ r8 (hx.cs) rfl (hx.cs_one) (hw_zl H16x.out) (hw_size H16x.out) ?_; intro w9 rx_9 g9; have k9 : Below w7.heap.size w7 w9 := below_kept (grown_below g8 (Nat.le_refl _) (by simp)) g9 (Nat.le_of_lt s8) (by rintro q hq; cases hq; exact Nat.le_refl _); have B9 := B7.trans (k9.mono B7.size); have ro_9 := ro_7.on k9; have rw_9 := rw_7.on k9; have rf_9 := rf_7.on k9; have kh_9 := kh_7.on k9; have rh_9 := rh_7.on k9; have kx_9 := kx.on k9; clear ro_7 rw_7 rf_7 kh_7 rh_7; have crf0 := rf_9.cell (j := 0) rfl; have crf1 := rf_9.cell (j := 1) rfl; have crf2 := rf_9.cell (j := 2) rfl; clear r8 g8 g9; have s9 := rx_9.lt; have crx0 := rx_9.cell (j := 0) rfl; have crx1 := rx_9.cell (j := 1) rfl))
        have hcW : w9.drew.cell? (xd.add j) = _ := (k9.cell (by rw [block_of_add]; exact hltx)).trans hcx
        have hx1 : w9.drew.cell? ⟨w7.heap.size, 1, none⟩ = some (.slice (some xd) hx.m hx.d) := by have h0 := rx_9.cell (j := 1) (u := .slice hx.B hx.m hx.d) rfl; rwa [hxB] at h0
        refine wp_region_plan (fun w' => w'.cell? ⟨w7.heap.size, 1, none⟩ = some (.slice (some xd) hx.m hx.d) ∧ w'.cell? (xd.add j) = some (.string (S2.extract 0 256 ++ S1.extract 256 256))) (.take 0 <| .take 1 <| .take 2 <| .take 3 <| .take 4 <| .take 5 <| .take 6 <| .take 7 <| .take 8 <| .take 9 <| .take 10 <| .take 11 <| .take 12 <| .take 13 <| .take 14 <| .take 15 <| .take 16 <| .take 17 <| .take 18 <| .take 19 <| .take 20 <| .take 21 <| .take 22 <| .take 23 <| .done) (by kernel_rfl) (by kernel_rfl) (by kernel_rfl) (fun _ _ _ _ _ h => h) ⟨hx1, hcW⟩ ?_
        repeat (refine plan_take _ rfl ?_; (first | ((with_reducible refine wpQuiet_at ⟨some 92, _, _, _, _, _⟩ ?_); refine wpQuiet_valueG rfl _ (by intro _ hS; exact exec_load1 _ 25 _ rfl ⟨w7.heap.size, 1, none⟩ rfl (.slice (some xd) hx.m hx.d) hS.1 _ Try.underlying25 rfl) (wpQuiet_nil ?_); simp only [Act.put, List.setIfInBounds_toArray, List.set_cons_zero, List.set_cons_succ]) | ((with_reducible refine wpQuiet_at ⟨some 95, _, _, _, _, _⟩ ?_); refine wpQuiet_valueG rfl _ (by intro _ hS; exact exec_load1 _ 9 _ rfl (xd.add j) rfl (.string (S2.extract 0 256 ++ S1.extract 256 256)) hS.2 _ Try.underlying9 rfl) (wpQuiet_nil ?_); simp only [Act.put, List.setIfInBounds_toArray, List.set_cons_zero, List.set_cons_succ]) | (go_big_quiet_step ((intros; rfl)); refine wpQuiet_nil ?_)))
        refine plan_done ?_
        go_wp2_with fail
        go_ret
        exact ⟨rfl, B9.drew⟩
  | true =>
    by_cases h0 : n0 < 0
    · have HN : Hid (tornN ⟨true, n0, nz⟩ = 0) := Lib.hid (by unfold tornN; rw [if_pos rfl]; show (min 256 (max n0 0)).toNat = 0; omega)
      obtain ⟨RS', hall, hlen⟩ := torn_all (f := ⟨true, n0, nz⟩) hj128 hS1 hS2
      rw [show tornN ⟨true, n0, nz⟩ = 0 from HN.out] at hall
      have HALL := Lib.hid hall
      have HLEN : Hid (RS'.length = 1) := Lib.hid hlen
      clear hall hlen HN
      have hmm : min (max n0 0) 256 = 0 := by omega
      go_enter Try.func7, Try.ntmps7
      go_wp2_with ((with_reducible refine wpList_at ⟨some 7, _, _, _, _, _⟩ ?_); refine wpList_box_row rfl _ _ rfl ((⟨true, n0, nz⟩ : DvF).cs) rfl ?_; intro w1 rf_1 s1 g1; have k1 : Below w.heap.size w w1 := grown_below g1 (Nat.le_refl _) (by simp); have B1 : Below w.heap.size w w1 := k1; have ro_1 := hr.on k1; have rw_1 := hq.on k1; have crf0 := rf_1.cell (j := 0) rfl; have crf1 := rf_1.cell (j := 1) rfl; have crf2 := rf_1.cell (j := 2) rfl)
      refine (HSA _).mono ?_
      rintro e w2 ⟨rfl, h2⟩
      have B2 := B1.trans (h2.mono B1.size)
      have ro_2 := ro_1.on h2
      have rw_2 := rw_1.on h2
      have rf_2 := rf_1.on h2
      clear ro_1 rw_1 rf_1
      have crf0 := rf_2.cell (j := 0) rfl
      have crf1 := rf_2.cell (j := 1) rfl
      have crf2 := rf_2.cell (j := 2) rfl
      go_wp2_with fail
      try simp only [Act.put, List.setIfInBounds_toArray, List.set_cons_zero, List.set_cons_succ]
      go_cut [10] (fun s1 wc => s1 = .string S1 ∧ Below w2.heap.size w2 wc)
      case first =>
        have b0 : Below w2.heap.size w2 w2.drew := (Below.refl _ _).drew
        have rdd : Reads w2.drew w2.heap.size 1 A n (bvs l) := ro_2
        refine wp_region_plan (fun w' => Reads w' w2.heap.size 1 A n (bvs l)) (.take 0 <| .take 1 <| .take 3 <| .take 4 <| .one 2 <| .take 5 <| .take 6 <| .take 7 <| .done) (by kernel_rfl) (by kernel_rfl) (by kernel_rfl) (fun _ _ _ _ _ h => h) rdd ?_
        repeat (refine plan_take _ rfl ?_; (first | ((with_reducible refine wpQuiet_at ⟨some 31, _, _, _, _, _⟩ ?_); refine wpQuiet_valueG rfl _ (by intro _ hS; exact exec_string_of _ _ _ 5 _ rfl Try.underlying56 Try.underlying5 Try.underlying9 rfl hS) (wpQuiet_nil ?_); simp only [Act.put, List.setIfInBounds_toArray, List.set_cons_zero, List.set_cons_succ]) | (go_big_quiet_step ((intros; rfl)); refine wpQuiet_nil ?_)))
        refine plan_one _ rfl fun K hK => ?_
        go_simp
        refine (HFZ _).out.mono ?_
        rintro e wu3 ⟨rfl, hu3⟩
        have rdu3 := rdd.below hu3
        have bu3 := b0.trans (hu3.mono b0.size)
        refine hK _ _ rdu3 ?_
        clear hK K
        repeat (refine plan_take _ rfl ?_; (first | ((with_reducible refine wpQuiet_at ⟨some 31, _, _, _, _, _⟩ ?_); refine wpQuiet_valueG rfl _ (by intro _ hS; exact exec_string_of _ _ _ 5 _ rfl Try.underlying56 Try.underlying5 Try.underlying9 rfl hS) (wpQuiet_nil ?_); simp only [Act.put, List.setIfInBounds_toArray, List.set_cons_zero, List.set_cons_succ]) | (go_big_quiet_step ((intros; rfl)); refine wpQuiet_nil ?_)))
        refine plan_done ?_
        go_wp2_with fail
        go_meet
        exact ⟨by first | rfl | exact congrArg Value.string HS1.out, bu3⟩
      case rest =>
        revert wc
        intro wcS1 hcut
        obtain ⟨rfl, hbS1⟩ := hcut
        have BS1 := B2.trans (hbS1.mono B2.size)
        have ro_S1 := ro_2.on hbS1
        have rw_S1 := rw_2.on hbS1
        have rf_S1 := rf_2.on hbS1
        clear ro_2 rw_2 rf_2
        have crf0 := rf_S1.cell (j := 0) rfl
        have crf1 := rf_S1.cell (j := 1) rfl
        have crf2 := rf_S1.cell (j := 2) rfl
        go_wp2_with fail
        try simp only [Act.put, List.setIfInBounds_toArray, List.set_cons_zero, List.set_cons_succ]
        go_cut [11] (fun s1 wc => s1 = .string S2 ∧ Below wcS1.heap.size wcS1 wc)
        case first =>
          have b0 : Below wcS1.heap.size wcS1 wcS1.drew := (Below.refl _ _).drew
          have rdd : Reads wcS1.drew wcS1.heap.size 1 B m (bvs k) := rw_S1
          refine wp_region_plan (fun w' => Reads w' wcS1.heap.size 1 B m (bvs k)) (.take 0 <| .take 1 <| .take 3 <| .take 4 <| .one 2 <| .take 5 <| .take 6 <| .take 7 <| .done) (by kernel_rfl) (by kernel_rfl) (by kernel_rfl) (fun _ _ _ _ _ h => h) rdd ?_
          repeat (refine plan_take _ rfl ?_; (first | ((with_reducible refine wpQuiet_at ⟨some 38, _, _, _, _, _⟩ ?_); refine wpQuiet_valueG rfl _ (by intro _ hS; exact exec_string_of _ _ _ 5 _ rfl Try.underlying56 Try.underlying5 Try.underlying9 rfl hS) (wpQuiet_nil ?_); simp only [Act.put, List.setIfInBounds_toArray, List.set_cons_zero, List.set_cons_succ]) | (go_big_quiet_step ((intros; rfl)); refine wpQuiet_nil ?_)))
          refine plan_one _ rfl fun K hK => ?_
          go_simp
          refine (HFZ _).out.mono ?_
          rintro e wu4 ⟨rfl, hu4⟩
          have rdu4 := rdd.below hu4
          have bu4 := b0.trans (hu4.mono b0.size)
          refine hK _ _ rdu4 ?_
          clear hK K
          repeat (refine plan_take _ rfl ?_; (first | ((with_reducible refine wpQuiet_at ⟨some 38, _, _, _, _, _⟩ ?_); refine wpQuiet_valueG rfl _ (by intro _ hS; exact exec_string_of _ _ _ 5 _ rfl Try.underlying56 Try.underlying5 Try.underlying9 rfl hS) (wpQuiet_nil ?_); simp only [Act.put, List.setIfInBounds_toArray, List.set_cons_zero, List.set_cons_succ]) | (go_big_quiet_step ((intros; rfl)); refine wpQuiet_nil ?_)))
          refine plan_done ?_
          go_wp2_with fail
          go_meet
          exact ⟨by first | rfl | exact congrArg Value.string HS2.out, bu4⟩
        case rest =>
          revert wc
          intro wcS2 hcut
          obtain ⟨rfl, hbS2⟩ := hcut
          have BS2 := BS1.trans (hbS2.mono BS1.size)
          have ro_S2 := ro_S1.on hbS2
          have rw_S2 := rw_S1.on hbS2
          have rf_S2 := rf_S1.on hbS2
          clear ro_S1 rw_S1 rf_S1
          have crf0 := rf_S2.cell (j := 0) rfl
          have crf1 := rf_S2.cell (j := 1) rfl
          have crf2 := rf_S2.cell (j := 2) rfl
          go_wp2_with fail
          try simp only [hj]
          have k3 : Below wcS2.heap.size wcS2 (wcS2.alloc (.cells [.int .i64 1].toArray 3)) := (Below.refl _ _).alloc (Nat.le_refl _) _
          have B3 := BS2.trans (k3.mono BS2.size)
          have ro_3 := ro_S2.on k3
          have rw_3 := rw_S2.on k3
          have rf_3 := rf_S2.on k3
          clear ro_S2 rw_S2 rf_S2
          have crf0 := rf_3.cell (j := 0) rfl
          have crf1 := rf_3.cell (j := 1) rfl
          have crf2 := rf_3.cell (j := 2) rfl
          refine (torn_new (wcS2.alloc (.cells [.int .i64 1].toArray 3)) (some ⟨wcS2.heap.size, 0, none⟩) 1 ((row_alloc wcS2 3 [.int .i64 1]).reads rfl)).mono ?_
          rintro e w4 ⟨hh, rfl, kh, _, sh, h4⟩
          have B4 := B3.trans (h4.mono B3.size)
          have ro_4 := ro_3.on h4
          have rw_4 := rw_3.on h4
          have rf_4 := rf_3.on h4
          clear ro_3 rw_3 rf_3
          have crf0 := rf_4.cell (j := 0) rfl
          have crf1 := rf_4.cell (j := 1) rfl
          have crf2 := rf_4.cell (j := 2) rfl
          have HSh := Lib.hid sh
          have H16h := Lib.hid kh.h16
          clear sh
          go_wp2_with (first
            | (with_reducible refine wpList_alloc_row (o := ⟨some 13, _, _, _, _, _⟩) rfl _ rfl zeroH zero_hw ?_; intro w5 r5 s5 g5)
            | ((with_reducible refine wpList_at ⟨none, .store _ (.tmp 13) _, _, _, _, _⟩ ?_); refine wpList_store_all rfl _ _ _ rfl w4.heap.size rfl _ _ r5 (hh.cs) rfl (hh.cs_one) (hw_zl H16h.out) (hw_size H16h.out) ?_; intro w6 rh_6 g6; have k6 : Below w4.heap.size w4 w6 := below_kept (grown_below g5 (Nat.le_refl _) (by simp)) g6 (Nat.le_of_lt s5) (by rintro q hq; cases hq; exact Nat.le_refl _); have B6 := B4.trans (k6.mono B4.size); have ro_6 := ro_4.on k6; have rw_6 := rw_4.on k6; have rf_6 := rf_4.on k6; have kh_6 := kh.on k6; clear ro_4 rw_4 rf_4; have crf0 := rf_6.cell (j := 0) rfl; have crf1 := rf_6.cell (j := 1) rfl; have crf2 := rf_6.cell (j := 2) rfl; clear r5 g5 g6; have s6 := rh_6.lt)
            | ((with_reducible refine wpList_at ⟨some 54, _, _, _, _, _⟩ ?_); refine wpList_valueG rfl _ (by exact exec_loadH _ _ rfl (w4.heap.size) rfl hh H16h.out rh_6) ?_)
            | ((with_reducible refine wpList_at ⟨some 61, _, _, _, _, _⟩ ?_); refine wpList_valueW rfl _ (exec_slice2 _ 48 33 _ _ rfl Try.underlying48 i0 _ hi0 hz0 (tornA j S1).cs (tornA j S2).cs 4 hz1 (by decide) (by decide) rfl rfl rfl rfl) ?_; have bA : Below w6.heap.size w6 (w6.alloc (.cells ((tornA j S1).cs ++ (tornA j S2).cs).toArray 33)) := (Below.refl _ _).alloc (Nat.le_refl _) _; have rfA := rf_6.on bA)
            | ((with_reducible refine wpList_at ⟨some 63, _, _, _, _, _⟩ ?_); refine wpList_valueG rfl _ (by exact exec_loadT _ _ rfl (w.heap.size) rfl (⟨true, n0, nz⟩ : DvF) rfA) ?_)
            | ((with_reducible refine wpList_at ⟨some 64, _, _, _, _, _⟩ ?_); refine wpList_valueW rfl _ (exec_slice2 _ 49 35 _ _ rfl Try.underlying49 i1 _ hi1 hy0 noF.cs (⟨true, n0, nz⟩ : DvF).cs 3 hy1 (by decide) (by decide) rfl rfl rfl rfl) ?_; have bF : Below (w6.alloc (.cells ((tornA j S1).cs ++ (tornA j S2).cs).toArray 33)).heap.size (w6.alloc (.cells ((tornA j S1).cs ++ (tornA j S2).cs).toArray 33)) ((w6.alloc (.cells ((tornA j S1).cs ++ (tornA j S2).cs).toArray 33)).alloc (.cells (noF.cs ++ (⟨true, n0, nz⟩ : DvF).cs).toArray 35)) := (Below.refl _ _).alloc (Nat.le_refl _) _))
          have bAF : Below w6.heap.size w6 ((w6.alloc (.cells ((tornA j S1).cs ++ (tornA j S2).cs).toArray 33)).alloc (.cells (noF.cs ++ (⟨true, n0, nz⟩ : DvF).cs).toArray 35)) := bA.trans (bF.mono bA.size)
          have BAF := B6.trans (bAF.mono B6.size)
          have ro_AF := ro_6.on bAF
          have rw_AF := rw_6.on bAF
          have rf_AF := rf_6.on bAF
          have kh_AF := kh_6.on bAF
          have rh_AF := rh_6.on bAF
          clear ro_6 rw_6 rf_6 kh_6 rh_6
          have crf0 := rf_AF.cell (j := 0) rfl
          have crf1 := rf_AF.cell (j := 1) rfl
          have crf2 := rf_AF.cell (j := 2) rfl
          have rdA : Reads ((w6.alloc (.cells ((tornA j S1).cs ++ (tornA j S2).cs).toArray 33)).alloc (.cells (noF.cs ++ (⟨true, n0, nz⟩ : DvF).cs).toArray 35)) ((w6.alloc (.cells ((tornA j S1).cs ++ (tornA j S2).cs).toArray 33)).alloc (.cells (noF.cs ++ (⟨true, n0, nz⟩ : DvF).cs).toArray 35)).heap.size 4 (some ⟨w6.heap.size, 0, none⟩) 2 ([tornA j S1, tornA j S2].flatMap DvA.cs) := by have h0 := ((row_alloc w6 33 ((tornA j S1).cs ++ (tornA j S2).cs)).reads (size := 4) (n := 2) rfl).on bF; simpa using h0
          have rdF : Reads ((w6.alloc (.cells ((tornA j S1).cs ++ (tornA j S2).cs).toArray 33)).alloc (.cells (noF.cs ++ (⟨true, n0, nz⟩ : DvF).cs).toArray 35)) ((w6.alloc (.cells ((tornA j S1).cs ++ (tornA j S2).cs).toArray 33)).alloc (.cells (noF.cs ++ (⟨true, n0, nz⟩ : DvF).cs).toArray 35)).heap.size 3 (some ⟨w6.heap.size + 1, 0, none⟩) 2 ([noF, (⟨true, n0, nz⟩ : DvF)].flatMap DvF.cs) := by have h0 := (row_alloc (w6.alloc (.cells ((tornA j S1).cs ++ (tornA j S2).cs).toArray 33)) 35 (noF.cs ++ (⟨true, n0, nz⟩ : DvF).cs)).reads (size := 3) (n := 2) rfl; rw [show (w6.alloc (.cells ((tornA j S1).cs ++ (tornA j S2).cs).toArray 33)).heap.size = w6.heap.size + 1 by simp] at h0; simpa using h0
          have HDA := dall_any9 hh _ _ 2 2 2 2 [tornA j S1, tornA j S2] [noF, (⟨true, n0, nz⟩ : DvF)] _ kh_AF (by rw [HSh.out]; exact tornS_sm) rdA rdF (by decide)
          rw [HSh.out, HALL.out] at HDA
          clear rdA rdF
          refine (HDA).mono ?_
          rintro e w7 ⟨hx, Ax, nx, cx, rfl, kx, sx, rdx, lnx, h7⟩
          have B7 := BAF.trans (h7.mono BAF.size)
          have ro_7 := ro_AF.on h7
          have rw_7 := rw_AF.on h7
          have rf_7 := rf_AF.on h7
          have kh_7 := kh_AF.on h7
          have rh_7 := rh_AF.on h7
          clear ro_AF rw_AF rf_AF kh_AF rh_AF
          have crf0 := rf_7.cell (j := 0) rfl
          have crf1 := rf_7.cell (j := 1) rfl
          have crf2 := rf_7.cell (j := 2) rfl
          have HFX : Hid (hx.fs = s9F.set j (S2.extract 0 0 ++ S1.extract 0 256)) := Lib.hid (congrArg DvS.fs sx)
          have H16x := Lib.hid kx.h16
          clear sx rdx
          have hm128 : hx.m = 128 := by rw [← kx.2.1.len, HFX.out, List.length_set, s9_len]
          have hzm : ((hx.m : Int) != 128) = false := by rw [hm128]; rfl
          obtain ⟨xd, sx2, hxB, hltx, hsx, hcx⟩ := kx.2.1.1.str_at (show j < hx.m by omega)
          obtain rfl : sx2 = S2.extract 0 0 ++ S1.extract 0 256 := by rw [HFX.out, List.getElem?_set, if_pos rfl, if_pos (by rw [s9_len]; exact hj128)] at hsx; exact (Option.some.inj hsx).symm
          clear hsx
          have hnx : nx = 1 := lnx.trans HLEN.out
          clear lnx
          subst hnx
          go_wp2_with (first
            | (with_reducible refine wpList_alloc_row (o := ⟨some 15, _, _, _, _, _⟩) rfl _ rfl zeroH zero_hw ?_; intro w8 r8 s8 g8)
            | ((with_reducible refine wpList_at ⟨none, .store _ (.tmp 15) _, _, _, _, _⟩ ?_); refine wpList_store_all rfl _ _ _ rfl w7.heap.size rfl _ _ r8 (hx.cs) rfl (hx.cs_one) (hw_zl H16x.out) (hw_size H16x.out) ?_; intro w9 rx_9 g9; have k9 : Below w7.heap.size w7 w9 := below_kept (grown_below g8 (Nat.le_refl _) (by simp)) g9 (Nat.le_of_lt s8) (by rintro q hq; cases hq; exact Nat.le_refl _); have B9 := B7.trans (k9.mono B7.size); have ro_9 := ro_7.on k9; have rw_9 := rw_7.on k9; have rf_9 := rf_7.on k9; have kh_9 := kh_7.on k9; have rh_9 := rh_7.on k9; have kx_9 := kx.on k9; clear ro_7 rw_7 rf_7 kh_7 rh_7; have crf0 := rf_9.cell (j := 0) rfl; have crf1 := rf_9.cell (j := 1) rfl; have crf2 := rf_9.cell (j := 2) rfl; clear r8 g8 g9; have s9 := rx_9.lt; have crx0 := rx_9.cell (j := 0) rfl; have crx1 := rx_9.cell (j := 1) rfl))
          have hcW : w9.drew.cell? (xd.add j) = _ := (k9.cell (by rw [block_of_add]; exact hltx)).trans hcx
          have hx1 : w9.drew.cell? ⟨w7.heap.size, 1, none⟩ = some (.slice (some xd) hx.m hx.d) := by have h0 := rx_9.cell (j := 1) (u := .slice hx.B hx.m hx.d) rfl; rwa [hxB] at h0
          refine wp_region_plan (fun w' => w'.cell? ⟨w7.heap.size, 1, none⟩ = some (.slice (some xd) hx.m hx.d) ∧ w'.cell? (xd.add j) = some (.string (S2.extract 0 0 ++ S1.extract 0 256))) (.take 0 <| .take 1 <| .take 2 <| .take 3 <| .take 4 <| .take 5 <| .take 6 <| .take 7 <| .take 8 <| .take 9 <| .take 10 <| .take 11 <| .take 12 <| .take 13 <| .take 14 <| .take 15 <| .take 16 <| .take 17 <| .take 18 <| .take 19 <| .take 20 <| .take 21 <| .take 22 <| .take 23 <| .done) (by kernel_rfl) (by kernel_rfl) (by kernel_rfl) (fun _ _ _ _ _ h => h) ⟨hx1, hcW⟩ ?_
          repeat (refine plan_take _ rfl ?_; (first | ((with_reducible refine wpQuiet_at ⟨some 92, _, _, _, _, _⟩ ?_); refine wpQuiet_valueG rfl _ (by intro _ hS; exact exec_load1 _ 25 _ rfl ⟨w7.heap.size, 1, none⟩ rfl (.slice (some xd) hx.m hx.d) hS.1 _ Try.underlying25 rfl) (wpQuiet_nil ?_); simp only [Act.put, List.setIfInBounds_toArray, List.set_cons_zero, List.set_cons_succ]) | ((with_reducible refine wpQuiet_at ⟨some 95, _, _, _, _, _⟩ ?_); refine wpQuiet_valueG rfl _ (by intro _ hS; exact exec_load1 _ 9 _ rfl (xd.add j) rfl (.string (S2.extract 0 0 ++ S1.extract 0 256)) hS.2 _ Try.underlying9 rfl) (wpQuiet_nil ?_); simp only [Act.put, List.setIfInBounds_toArray, List.set_cons_zero, List.set_cons_succ]) | (go_big_quiet_step ((intros; rfl)); refine wpQuiet_nil ?_)))
          refine plan_done ?_
          go_wp2_with fail
          go_ret
          exact ⟨rfl, B9.drew⟩
    by_cases h2 : 256 < n0
    · have HN : Hid (tornN ⟨true, n0, nz⟩ = 256) := Lib.hid (by unfold tornN; rw [if_pos rfl]; show (min 256 (max n0 0)).toNat = 256; omega)
      obtain ⟨RS', hall, hlen⟩ := torn_all (f := ⟨true, n0, nz⟩) hj128 hS1 hS2
      rw [show tornN ⟨true, n0, nz⟩ = 256 from HN.out] at hall
      have HALL := Lib.hid hall
      have HLEN : Hid (RS'.length = 1) := Lib.hid hlen
      clear hall hlen HN
      have hmm : min (max n0 0) 256 = 256 := by omega
      go_enter Try.func7, Try.ntmps7
      go_wp2_with ((with_reducible refine wpList_at ⟨some 7, _, _, _, _, _⟩ ?_); refine wpList_box_row rfl _ _ rfl ((⟨true, n0, nz⟩ : DvF).cs) rfl ?_; intro w1 rf_1 s1 g1; have k1 : Below w.heap.size w w1 := grown_below g1 (Nat.le_refl _) (by simp); have B1 : Below w.heap.size w w1 := k1; have ro_1 := hr.on k1; have rw_1 := hq.on k1; have crf0 := rf_1.cell (j := 0) rfl; have crf1 := rf_1.cell (j := 1) rfl; have crf2 := rf_1.cell (j := 2) rfl)
      refine (HSA _).mono ?_
      rintro e w2 ⟨rfl, h2⟩
      have B2 := B1.trans (h2.mono B1.size)
      have ro_2 := ro_1.on h2
      have rw_2 := rw_1.on h2
      have rf_2 := rf_1.on h2
      clear ro_1 rw_1 rf_1
      have crf0 := rf_2.cell (j := 0) rfl
      have crf1 := rf_2.cell (j := 1) rfl
      have crf2 := rf_2.cell (j := 2) rfl
      go_wp2_with fail
      try simp only [Act.put, List.setIfInBounds_toArray, List.set_cons_zero, List.set_cons_succ]
      go_cut [10] (fun s1 wc => s1 = .string S1 ∧ Below w2.heap.size w2 wc)
      case first =>
        have b0 : Below w2.heap.size w2 w2.drew := (Below.refl _ _).drew
        have rdd : Reads w2.drew w2.heap.size 1 A n (bvs l) := ro_2
        refine wp_region_plan (fun w' => Reads w' w2.heap.size 1 A n (bvs l)) (.take 0 <| .take 1 <| .take 3 <| .take 4 <| .one 2 <| .take 5 <| .take 6 <| .take 7 <| .done) (by kernel_rfl) (by kernel_rfl) (by kernel_rfl) (fun _ _ _ _ _ h => h) rdd ?_
        repeat (refine plan_take _ rfl ?_; (first | ((with_reducible refine wpQuiet_at ⟨some 31, _, _, _, _, _⟩ ?_); refine wpQuiet_valueG rfl _ (by intro _ hS; exact exec_string_of _ _ _ 5 _ rfl Try.underlying56 Try.underlying5 Try.underlying9 rfl hS) (wpQuiet_nil ?_); simp only [Act.put, List.setIfInBounds_toArray, List.set_cons_zero, List.set_cons_succ]) | (go_big_quiet_step ((intros; rfl)); refine wpQuiet_nil ?_)))
        refine plan_one _ rfl fun K hK => ?_
        go_simp
        refine (HFZ _).out.mono ?_
        rintro e wu5 ⟨rfl, hu5⟩
        have rdu5 := rdd.below hu5
        have bu5 := b0.trans (hu5.mono b0.size)
        refine hK _ _ rdu5 ?_
        clear hK K
        repeat (refine plan_take _ rfl ?_; (first | ((with_reducible refine wpQuiet_at ⟨some 31, _, _, _, _, _⟩ ?_); refine wpQuiet_valueG rfl _ (by intro _ hS; exact exec_string_of _ _ _ 5 _ rfl Try.underlying56 Try.underlying5 Try.underlying9 rfl hS) (wpQuiet_nil ?_); simp only [Act.put, List.setIfInBounds_toArray, List.set_cons_zero, List.set_cons_succ]) | (go_big_quiet_step ((intros; rfl)); refine wpQuiet_nil ?_)))
        refine plan_done ?_
        go_wp2_with fail
        go_meet
        exact ⟨by first | rfl | exact congrArg Value.string HS1.out, bu5⟩
      case rest =>
        revert wc
        intro wcS1 hcut
        obtain ⟨rfl, hbS1⟩ := hcut
        have BS1 := B2.trans (hbS1.mono B2.size)
        have ro_S1 := ro_2.on hbS1
        have rw_S1 := rw_2.on hbS1
        have rf_S1 := rf_2.on hbS1
        clear ro_2 rw_2 rf_2
        have crf0 := rf_S1.cell (j := 0) rfl
        have crf1 := rf_S1.cell (j := 1) rfl
        have crf2 := rf_S1.cell (j := 2) rfl
        go_wp2_with fail
        try simp only [Act.put, List.setIfInBounds_toArray, List.set_cons_zero, List.set_cons_succ]
        go_cut [11] (fun s1 wc => s1 = .string S2 ∧ Below wcS1.heap.size wcS1 wc)
        case first =>
          have b0 : Below wcS1.heap.size wcS1 wcS1.drew := (Below.refl _ _).drew
          have rdd : Reads wcS1.drew wcS1.heap.size 1 B m (bvs k) := rw_S1
          refine wp_region_plan (fun w' => Reads w' wcS1.heap.size 1 B m (bvs k)) (.take 0 <| .take 1 <| .take 3 <| .take 4 <| .one 2 <| .take 5 <| .take 6 <| .take 7 <| .done) (by kernel_rfl) (by kernel_rfl) (by kernel_rfl) (fun _ _ _ _ _ h => h) rdd ?_
          repeat (refine plan_take _ rfl ?_; (first | ((with_reducible refine wpQuiet_at ⟨some 38, _, _, _, _, _⟩ ?_); refine wpQuiet_valueG rfl _ (by intro _ hS; exact exec_string_of _ _ _ 5 _ rfl Try.underlying56 Try.underlying5 Try.underlying9 rfl hS) (wpQuiet_nil ?_); simp only [Act.put, List.setIfInBounds_toArray, List.set_cons_zero, List.set_cons_succ]) | (go_big_quiet_step ((intros; rfl)); refine wpQuiet_nil ?_)))
          refine plan_one _ rfl fun K hK => ?_
          go_simp
          refine (HFZ _).out.mono ?_
          rintro e wu6 ⟨rfl, hu6⟩
          have rdu6 := rdd.below hu6
          have bu6 := b0.trans (hu6.mono b0.size)
          refine hK _ _ rdu6 ?_
          clear hK K
          repeat (refine plan_take _ rfl ?_; (first | ((with_reducible refine wpQuiet_at ⟨some 38, _, _, _, _, _⟩ ?_); refine wpQuiet_valueG rfl _ (by intro _ hS; exact exec_string_of _ _ _ 5 _ rfl Try.underlying56 Try.underlying5 Try.underlying9 rfl hS) (wpQuiet_nil ?_); simp only [Act.put, List.setIfInBounds_toArray, List.set_cons_zero, List.set_cons_succ]) | (go_big_quiet_step ((intros; rfl)); refine wpQuiet_nil ?_)))
          refine plan_done ?_
          go_wp2_with fail
          go_meet
          exact ⟨by first | rfl | exact congrArg Value.string HS2.out, bu6⟩
        case rest =>
          revert wc
          intro wcS2 hcut
          obtain ⟨rfl, hbS2⟩ := hcut
          have BS2 := BS1.trans (hbS2.mono BS1.size)
          have ro_S2 := ro_S1.on hbS2
          have rw_S2 := rw_S1.on hbS2
          have rf_S2 := rf_S1.on hbS2
          clear ro_S1 rw_S1 rf_S1
          have crf0 := rf_S2.cell (j := 0) rfl
          have crf1 := rf_S2.cell (j := 1) rfl
          have crf2 := rf_S2.cell (j := 2) rfl
          go_wp2_with fail
          try simp only [hj]
          have k3 : Below wcS2.heap.size wcS2 (wcS2.alloc (.cells [.int .i64 1].toArray 3)) := (Below.refl _ _).alloc (Nat.le_refl _) _
          have B3 := BS2.trans (k3.mono BS2.size)
          have ro_3 := ro_S2.on k3
          have rw_3 := rw_S2.on k3
          have rf_3 := rf_S2.on k3
          clear ro_S2 rw_S2 rf_S2
          have crf0 := rf_3.cell (j := 0) rfl
          have crf1 := rf_3.cell (j := 1) rfl
          have crf2 := rf_3.cell (j := 2) rfl
          refine (torn_new (wcS2.alloc (.cells [.int .i64 1].toArray 3)) (some ⟨wcS2.heap.size, 0, none⟩) 1 ((row_alloc wcS2 3 [.int .i64 1]).reads rfl)).mono ?_
          rintro e w4 ⟨hh, rfl, kh, _, sh, h4⟩
          have B4 := B3.trans (h4.mono B3.size)
          have ro_4 := ro_3.on h4
          have rw_4 := rw_3.on h4
          have rf_4 := rf_3.on h4
          clear ro_3 rw_3 rf_3
          have crf0 := rf_4.cell (j := 0) rfl
          have crf1 := rf_4.cell (j := 1) rfl
          have crf2 := rf_4.cell (j := 2) rfl
          have HSh := Lib.hid sh
          have H16h := Lib.hid kh.h16
          clear sh
          go_wp2_with (first
            | (with_reducible refine wpList_alloc_row (o := ⟨some 13, _, _, _, _, _⟩) rfl _ rfl zeroH zero_hw ?_; intro w5 r5 s5 g5)
            | ((with_reducible refine wpList_at ⟨none, .store _ (.tmp 13) _, _, _, _, _⟩ ?_); refine wpList_store_all rfl _ _ _ rfl w4.heap.size rfl _ _ r5 (hh.cs) rfl (hh.cs_one) (hw_zl H16h.out) (hw_size H16h.out) ?_; intro w6 rh_6 g6; have k6 : Below w4.heap.size w4 w6 := below_kept (grown_below g5 (Nat.le_refl _) (by simp)) g6 (Nat.le_of_lt s5) (by rintro q hq; cases hq; exact Nat.le_refl _); have B6 := B4.trans (k6.mono B4.size); have ro_6 := ro_4.on k6; have rw_6 := rw_4.on k6; have rf_6 := rf_4.on k6; have kh_6 := kh.on k6; clear ro_4 rw_4 rf_4; have crf0 := rf_6.cell (j := 0) rfl; have crf1 := rf_6.cell (j := 1) rfl; have crf2 := rf_6.cell (j := 2) rfl; clear r5 g5 g6; have s6 := rh_6.lt)
            | ((with_reducible refine wpList_at ⟨some 54, _, _, _, _, _⟩ ?_); refine wpList_valueG rfl _ (by exact exec_loadH _ _ rfl (w4.heap.size) rfl hh H16h.out rh_6) ?_)
            | ((with_reducible refine wpList_at ⟨some 61, _, _, _, _, _⟩ ?_); refine wpList_valueW rfl _ (exec_slice2 _ 48 33 _ _ rfl Try.underlying48 i0 _ hi0 hz0 (tornA j S1).cs (tornA j S2).cs 4 hz1 (by decide) (by decide) rfl rfl rfl rfl) ?_; have bA : Below w6.heap.size w6 (w6.alloc (.cells ((tornA j S1).cs ++ (tornA j S2).cs).toArray 33)) := (Below.refl _ _).alloc (Nat.le_refl _) _; have rfA := rf_6.on bA)
            | ((with_reducible refine wpList_at ⟨some 63, _, _, _, _, _⟩ ?_); refine wpList_valueG rfl _ (by exact exec_loadT _ _ rfl (w.heap.size) rfl (⟨true, n0, nz⟩ : DvF) rfA) ?_)
            | ((with_reducible refine wpList_at ⟨some 64, _, _, _, _, _⟩ ?_); refine wpList_valueW rfl _ (exec_slice2 _ 49 35 _ _ rfl Try.underlying49 i1 _ hi1 hy0 noF.cs (⟨true, n0, nz⟩ : DvF).cs 3 hy1 (by decide) (by decide) rfl rfl rfl rfl) ?_; have bF : Below (w6.alloc (.cells ((tornA j S1).cs ++ (tornA j S2).cs).toArray 33)).heap.size (w6.alloc (.cells ((tornA j S1).cs ++ (tornA j S2).cs).toArray 33)) ((w6.alloc (.cells ((tornA j S1).cs ++ (tornA j S2).cs).toArray 33)).alloc (.cells (noF.cs ++ (⟨true, n0, nz⟩ : DvF).cs).toArray 35)) := (Below.refl _ _).alloc (Nat.le_refl _) _))
          have bAF : Below w6.heap.size w6 ((w6.alloc (.cells ((tornA j S1).cs ++ (tornA j S2).cs).toArray 33)).alloc (.cells (noF.cs ++ (⟨true, n0, nz⟩ : DvF).cs).toArray 35)) := bA.trans (bF.mono bA.size)
          have BAF := B6.trans (bAF.mono B6.size)
          have ro_AF := ro_6.on bAF
          have rw_AF := rw_6.on bAF
          have rf_AF := rf_6.on bAF
          have kh_AF := kh_6.on bAF
          have rh_AF := rh_6.on bAF
          clear ro_6 rw_6 rf_6 kh_6 rh_6
          have crf0 := rf_AF.cell (j := 0) rfl
          have crf1 := rf_AF.cell (j := 1) rfl
          have crf2 := rf_AF.cell (j := 2) rfl
          have rdA : Reads ((w6.alloc (.cells ((tornA j S1).cs ++ (tornA j S2).cs).toArray 33)).alloc (.cells (noF.cs ++ (⟨true, n0, nz⟩ : DvF).cs).toArray 35)) ((w6.alloc (.cells ((tornA j S1).cs ++ (tornA j S2).cs).toArray 33)).alloc (.cells (noF.cs ++ (⟨true, n0, nz⟩ : DvF).cs).toArray 35)).heap.size 4 (some ⟨w6.heap.size, 0, none⟩) 2 ([tornA j S1, tornA j S2].flatMap DvA.cs) := by have h0 := ((row_alloc w6 33 ((tornA j S1).cs ++ (tornA j S2).cs)).reads (size := 4) (n := 2) rfl).on bF; simpa using h0
          have rdF : Reads ((w6.alloc (.cells ((tornA j S1).cs ++ (tornA j S2).cs).toArray 33)).alloc (.cells (noF.cs ++ (⟨true, n0, nz⟩ : DvF).cs).toArray 35)) ((w6.alloc (.cells ((tornA j S1).cs ++ (tornA j S2).cs).toArray 33)).alloc (.cells (noF.cs ++ (⟨true, n0, nz⟩ : DvF).cs).toArray 35)).heap.size 3 (some ⟨w6.heap.size + 1, 0, none⟩) 2 ([noF, (⟨true, n0, nz⟩ : DvF)].flatMap DvF.cs) := by have h0 := (row_alloc (w6.alloc (.cells ((tornA j S1).cs ++ (tornA j S2).cs).toArray 33)) 35 (noF.cs ++ (⟨true, n0, nz⟩ : DvF).cs)).reads (size := 3) (n := 2) rfl; rw [show (w6.alloc (.cells ((tornA j S1).cs ++ (tornA j S2).cs).toArray 33)).heap.size = w6.heap.size + 1 by simp] at h0; simpa using h0
          have HDA := dall_any9 hh _ _ 2 2 2 2 [tornA j S1, tornA j S2] [noF, (⟨true, n0, nz⟩ : DvF)] _ kh_AF (by rw [HSh.out]; exact tornS_sm) rdA rdF (by decide)
          rw [HSh.out, HALL.out] at HDA
          clear rdA rdF
          refine (HDA).mono ?_
          rintro e w7 ⟨hx, Ax, nx, cx, rfl, kx, sx, rdx, lnx, h7⟩
          have B7 := BAF.trans (h7.mono BAF.size)
          have ro_7 := ro_AF.on h7
          have rw_7 := rw_AF.on h7
          have rf_7 := rf_AF.on h7
          have kh_7 := kh_AF.on h7
          have rh_7 := rh_AF.on h7
          clear ro_AF rw_AF rf_AF kh_AF rh_AF
          have crf0 := rf_7.cell (j := 0) rfl
          have crf1 := rf_7.cell (j := 1) rfl
          have crf2 := rf_7.cell (j := 2) rfl
          have HFX : Hid (hx.fs = s9F.set j (S2.extract 0 256 ++ S1.extract 256 256)) := Lib.hid (congrArg DvS.fs sx)
          have H16x := Lib.hid kx.h16
          clear sx rdx
          have hm128 : hx.m = 128 := by rw [← kx.2.1.len, HFX.out, List.length_set, s9_len]
          have hzm : ((hx.m : Int) != 128) = false := by rw [hm128]; rfl
          obtain ⟨xd, sx2, hxB, hltx, hsx, hcx⟩ := kx.2.1.1.str_at (show j < hx.m by omega)
          obtain rfl : sx2 = S2.extract 0 256 ++ S1.extract 256 256 := by rw [HFX.out, List.getElem?_set, if_pos rfl, if_pos (by rw [s9_len]; exact hj128)] at hsx; exact (Option.some.inj hsx).symm
          clear hsx
          have hnx : nx = 1 := lnx.trans HLEN.out
          clear lnx
          subst hnx
          go_wp2_with (first
            | (with_reducible refine wpList_alloc_row (o := ⟨some 15, _, _, _, _, _⟩) rfl _ rfl zeroH zero_hw ?_; intro w8 r8 s8 g8)
            | ((with_reducible refine wpList_at ⟨none, .store _ (.tmp 15) _, _, _, _, _⟩ ?_); refine wpList_store_all rfl _ _ _ rfl w7.heap.size rfl _ _ r8 (hx.cs) rfl (hx.cs_one) (hw_zl H16x.out) (hw_size H16x.out) ?_; intro w9 rx_9 g9; have k9 : Below w7.heap.size w7 w9 := below_kept (grown_below g8 (Nat.le_refl _) (by simp)) g9 (Nat.le_of_lt s8) (by rintro q hq; cases hq; exact Nat.le_refl _); have B9 := B7.trans (k9.mono B7.size); have ro_9 := ro_7.on k9; have rw_9 := rw_7.on k9; have rf_9 := rf_7.on k9; have kh_9 := kh_7.on k9; have rh_9 := rh_7.on k9; have kx_9 := kx.on k9; clear ro_7 rw_7 rf_7 kh_7 rh_7; have crf0 := rf_9.cell (j := 0) rfl; have crf1 := rf_9.cell (j := 1) rfl; have crf2 := rf_9.cell (j := 2) rfl; clear r8 g8 g9; have s9 := rx_9.lt; have crx0 := rx_9.cell (j := 0) rfl; have crx1 := rx_9.cell (j := 1) rfl))
          have hcW : w9.drew.cell? (xd.add j) = _ := (k9.cell (by rw [block_of_add]; exact hltx)).trans hcx
          have hx1 : w9.drew.cell? ⟨w7.heap.size, 1, none⟩ = some (.slice (some xd) hx.m hx.d) := by have h0 := rx_9.cell (j := 1) (u := .slice hx.B hx.m hx.d) rfl; rwa [hxB] at h0
          refine wp_region_plan (fun w' => w'.cell? ⟨w7.heap.size, 1, none⟩ = some (.slice (some xd) hx.m hx.d) ∧ w'.cell? (xd.add j) = some (.string (S2.extract 0 256 ++ S1.extract 256 256))) (.take 0 <| .take 1 <| .take 2 <| .take 3 <| .take 4 <| .take 5 <| .take 6 <| .take 7 <| .take 8 <| .take 9 <| .take 10 <| .take 11 <| .take 12 <| .take 13 <| .take 14 <| .take 15 <| .take 16 <| .take 17 <| .take 18 <| .take 19 <| .take 20 <| .take 21 <| .take 22 <| .take 23 <| .done) (by kernel_rfl) (by kernel_rfl) (by kernel_rfl) (fun _ _ _ _ _ h => h) ⟨hx1, hcW⟩ ?_
          repeat (refine plan_take _ rfl ?_; (first | ((with_reducible refine wpQuiet_at ⟨some 92, _, _, _, _, _⟩ ?_); refine wpQuiet_valueG rfl _ (by intro _ hS; exact exec_load1 _ 25 _ rfl ⟨w7.heap.size, 1, none⟩ rfl (.slice (some xd) hx.m hx.d) hS.1 _ Try.underlying25 rfl) (wpQuiet_nil ?_); simp only [Act.put, List.setIfInBounds_toArray, List.set_cons_zero, List.set_cons_succ]) | ((with_reducible refine wpQuiet_at ⟨some 95, _, _, _, _, _⟩ ?_); refine wpQuiet_valueG rfl _ (by intro _ hS; exact exec_load1 _ 9 _ rfl (xd.add j) rfl (.string (S2.extract 0 256 ++ S1.extract 256 256)) hS.2 _ Try.underlying9 rfl) (wpQuiet_nil ?_); simp only [Act.put, List.setIfInBounds_toArray, List.set_cons_zero, List.set_cons_succ]) | (go_big_quiet_step ((intros; rfl)); refine wpQuiet_nil ?_)))
          refine plan_done ?_
          go_wp2_with fail
          go_ret
          exact ⟨rfl, B9.drew⟩
    · obtain ⟨N, rfl⟩ : ∃ N : Nat, n0 = (N : Int) := ⟨n0.toNat, by omega⟩
      have HN : Hid (tornN ⟨true, (N : Int), nz⟩ = N) := Lib.hid (by unfold tornN; rw [if_pos rfl]; show (min 256 (max (N : Int) 0)).toNat = N; omega)
      obtain ⟨RS', hall, hlen⟩ := torn_all (f := ⟨true, (N : Int), nz⟩) hj128 hS1 hS2
      rw [show tornN ⟨true, (N : Int), nz⟩ = N from HN.out] at hall
      have HALL := Lib.hid hall
      have HLEN : Hid (RS'.length = 1) := Lib.hid hlen
      clear hall hlen HN
      have hmm : min (N : Int) 256 = (N : Int) := by omega
      have hN256 : N ≤ 256 := by omega
      go_enter Try.func7, Try.ntmps7
      go_wp2_with ((with_reducible refine wpList_at ⟨some 7, _, _, _, _, _⟩ ?_); refine wpList_box_row rfl _ _ rfl ((⟨true, (N : Int), nz⟩ : DvF).cs) rfl ?_; intro w1 rf_1 s1 g1; have k1 : Below w.heap.size w w1 := grown_below g1 (Nat.le_refl _) (by simp); have B1 : Below w.heap.size w w1 := k1; have ro_1 := hr.on k1; have rw_1 := hq.on k1; have crf0 := rf_1.cell (j := 0) rfl; have crf1 := rf_1.cell (j := 1) rfl; have crf2 := rf_1.cell (j := 2) rfl)
      refine (HSA _).mono ?_
      rintro e w2 ⟨rfl, h2⟩
      have B2 := B1.trans (h2.mono B1.size)
      have ro_2 := ro_1.on h2
      have rw_2 := rw_1.on h2
      have rf_2 := rf_1.on h2
      clear ro_1 rw_1 rf_1
      have crf0 := rf_2.cell (j := 0) rfl
      have crf1 := rf_2.cell (j := 1) rfl
      have crf2 := rf_2.cell (j := 2) rfl
      go_wp2_with fail
      try simp only [Act.put, List.setIfInBounds_toArray, List.set_cons_zero, List.set_cons_succ]
      go_cut [10] (fun s1 wc => s1 = .string S1 ∧ Below w2.heap.size w2 wc)
      case first =>
        have b0 : Below w2.heap.size w2 w2.drew := (Below.refl _ _).drew
        have rdd : Reads w2.drew w2.heap.size 1 A n (bvs l) := ro_2
        refine wp_region_plan (fun w' => Reads w' w2.heap.size 1 A n (bvs l)) (.take 0 <| .take 1 <| .take 3 <| .take 4 <| .one 2 <| .take 5 <| .take 6 <| .take 7 <| .done) (by kernel_rfl) (by kernel_rfl) (by kernel_rfl) (fun _ _ _ _ _ h => h) rdd ?_
        repeat (refine plan_take _ rfl ?_; (first | ((with_reducible refine wpQuiet_at ⟨some 31, _, _, _, _, _⟩ ?_); refine wpQuiet_valueG rfl _ (by intro _ hS; exact exec_string_of _ _ _ 5 _ rfl Try.underlying56 Try.underlying5 Try.underlying9 rfl hS) (wpQuiet_nil ?_); simp only [Act.put, List.setIfInBounds_toArray, List.set_cons_zero, List.set_cons_succ]) | (go_big_quiet_step ((intros; rfl)); refine wpQuiet_nil ?_)))
        refine plan_one _ rfl fun K hK => ?_
        go_simp
        refine (HFZ _).out.mono ?_
        rintro e wu7 ⟨rfl, hu7⟩
        have rdu7 := rdd.below hu7
        have bu7 := b0.trans (hu7.mono b0.size)
        refine hK _ _ rdu7 ?_
        clear hK K
        repeat (refine plan_take _ rfl ?_; (first | ((with_reducible refine wpQuiet_at ⟨some 31, _, _, _, _, _⟩ ?_); refine wpQuiet_valueG rfl _ (by intro _ hS; exact exec_string_of _ _ _ 5 _ rfl Try.underlying56 Try.underlying5 Try.underlying9 rfl hS) (wpQuiet_nil ?_); simp only [Act.put, List.setIfInBounds_toArray, List.set_cons_zero, List.set_cons_succ]) | (go_big_quiet_step ((intros; rfl)); refine wpQuiet_nil ?_)))
        refine plan_done ?_
        go_wp2_with fail
        go_meet
        exact ⟨by first | rfl | exact congrArg Value.string HS1.out, bu7⟩
      case rest =>
        revert wc
        intro wcS1 hcut
        obtain ⟨rfl, hbS1⟩ := hcut
        have BS1 := B2.trans (hbS1.mono B2.size)
        have ro_S1 := ro_2.on hbS1
        have rw_S1 := rw_2.on hbS1
        have rf_S1 := rf_2.on hbS1
        clear ro_2 rw_2 rf_2
        have crf0 := rf_S1.cell (j := 0) rfl
        have crf1 := rf_S1.cell (j := 1) rfl
        have crf2 := rf_S1.cell (j := 2) rfl
        go_wp2_with fail
        try simp only [Act.put, List.setIfInBounds_toArray, List.set_cons_zero, List.set_cons_succ]
        go_cut [11] (fun s1 wc => s1 = .string S2 ∧ Below wcS1.heap.size wcS1 wc)
        case first =>
          have b0 : Below wcS1.heap.size wcS1 wcS1.drew := (Below.refl _ _).drew
          have rdd : Reads wcS1.drew wcS1.heap.size 1 B m (bvs k) := rw_S1
          refine wp_region_plan (fun w' => Reads w' wcS1.heap.size 1 B m (bvs k)) (.take 0 <| .take 1 <| .take 3 <| .take 4 <| .one 2 <| .take 5 <| .take 6 <| .take 7 <| .done) (by kernel_rfl) (by kernel_rfl) (by kernel_rfl) (fun _ _ _ _ _ h => h) rdd ?_
          repeat (refine plan_take _ rfl ?_; (first | ((with_reducible refine wpQuiet_at ⟨some 38, _, _, _, _, _⟩ ?_); refine wpQuiet_valueG rfl _ (by intro _ hS; exact exec_string_of _ _ _ 5 _ rfl Try.underlying56 Try.underlying5 Try.underlying9 rfl hS) (wpQuiet_nil ?_); simp only [Act.put, List.setIfInBounds_toArray, List.set_cons_zero, List.set_cons_succ]) | (go_big_quiet_step ((intros; rfl)); refine wpQuiet_nil ?_)))
          refine plan_one _ rfl fun K hK => ?_
          go_simp
          refine (HFZ _).out.mono ?_
          rintro e wu8 ⟨rfl, hu8⟩
          have rdu8 := rdd.below hu8
          have bu8 := b0.trans (hu8.mono b0.size)
          refine hK _ _ rdu8 ?_
          clear hK K
          repeat (refine plan_take _ rfl ?_; (first | ((with_reducible refine wpQuiet_at ⟨some 38, _, _, _, _, _⟩ ?_); refine wpQuiet_valueG rfl _ (by intro _ hS; exact exec_string_of _ _ _ 5 _ rfl Try.underlying56 Try.underlying5 Try.underlying9 rfl hS) (wpQuiet_nil ?_); simp only [Act.put, List.setIfInBounds_toArray, List.set_cons_zero, List.set_cons_succ]) | (go_big_quiet_step ((intros; rfl)); refine wpQuiet_nil ?_)))
          refine plan_done ?_
          go_wp2_with fail
          go_meet
          exact ⟨by first | rfl | exact congrArg Value.string HS2.out, bu8⟩
        case rest =>
          revert wc
          intro wcS2 hcut
          obtain ⟨rfl, hbS2⟩ := hcut
          have BS2 := BS1.trans (hbS2.mono BS1.size)
          have ro_S2 := ro_S1.on hbS2
          have rw_S2 := rw_S1.on hbS2
          have rf_S2 := rf_S1.on hbS2
          clear ro_S1 rw_S1 rf_S1
          have crf0 := rf_S2.cell (j := 0) rfl
          have crf1 := rf_S2.cell (j := 1) rfl
          have crf2 := rf_S2.cell (j := 2) rfl
          go_wp2_with fail
          try simp only [hj]
          have k3 : Below wcS2.heap.size wcS2 (wcS2.alloc (.cells [.int .i64 1].toArray 3)) := (Below.refl _ _).alloc (Nat.le_refl _) _
          have B3 := BS2.trans (k3.mono BS2.size)
          have ro_3 := ro_S2.on k3
          have rw_3 := rw_S2.on k3
          have rf_3 := rf_S2.on k3
          clear ro_S2 rw_S2 rf_S2
          have crf0 := rf_3.cell (j := 0) rfl
          have crf1 := rf_3.cell (j := 1) rfl
          have crf2 := rf_3.cell (j := 2) rfl
          refine (torn_new (wcS2.alloc (.cells [.int .i64 1].toArray 3)) (some ⟨wcS2.heap.size, 0, none⟩) 1 ((row_alloc wcS2 3 [.int .i64 1]).reads rfl)).mono ?_
          rintro e w4 ⟨hh, rfl, kh, _, sh, h4⟩
          have B4 := B3.trans (h4.mono B3.size)
          have ro_4 := ro_3.on h4
          have rw_4 := rw_3.on h4
          have rf_4 := rf_3.on h4
          clear ro_3 rw_3 rf_3
          have crf0 := rf_4.cell (j := 0) rfl
          have crf1 := rf_4.cell (j := 1) rfl
          have crf2 := rf_4.cell (j := 2) rfl
          have HSh := Lib.hid sh
          have H16h := Lib.hid kh.h16
          clear sh
          go_wp2_with (first
            | (with_reducible refine wpList_alloc_row (o := ⟨some 13, _, _, _, _, _⟩) rfl _ rfl zeroH zero_hw ?_; intro w5 r5 s5 g5)
            | ((with_reducible refine wpList_at ⟨none, .store _ (.tmp 13) _, _, _, _, _⟩ ?_); refine wpList_store_all rfl _ _ _ rfl w4.heap.size rfl _ _ r5 (hh.cs) rfl (hh.cs_one) (hw_zl H16h.out) (hw_size H16h.out) ?_; intro w6 rh_6 g6; have k6 : Below w4.heap.size w4 w6 := below_kept (grown_below g5 (Nat.le_refl _) (by simp)) g6 (Nat.le_of_lt s5) (by rintro q hq; cases hq; exact Nat.le_refl _); have B6 := B4.trans (k6.mono B4.size); have ro_6 := ro_4.on k6; have rw_6 := rw_4.on k6; have rf_6 := rf_4.on k6; have kh_6 := kh.on k6; clear ro_4 rw_4 rf_4; have crf0 := rf_6.cell (j := 0) rfl; have crf1 := rf_6.cell (j := 1) rfl; have crf2 := rf_6.cell (j := 2) rfl; clear r5 g5 g6; have s6 := rh_6.lt)
            | ((with_reducible refine wpList_at ⟨some 54, _, _, _, _, _⟩ ?_); refine wpList_valueG rfl _ (by exact exec_loadH _ _ rfl (w4.heap.size) rfl hh H16h.out rh_6) ?_)
            | ((with_reducible refine wpList_at ⟨some 61, _, _, _, _, _⟩ ?_); refine wpList_valueW rfl _ (exec_slice2 _ 48 33 _ _ rfl Try.underlying48 i0 _ hi0 hz0 (tornA j S1).cs (tornA j S2).cs 4 hz1 (by decide) (by decide) rfl rfl rfl rfl) ?_; have bA : Below w6.heap.size w6 (w6.alloc (.cells ((tornA j S1).cs ++ (tornA j S2).cs).toArray 33)) := (Below.refl _ _).alloc (Nat.le_refl _) _; have rfA := rf_6.on bA)
            | ((with_reducible refine wpList_at ⟨some 63, _, _, _, _, _⟩ ?_); refine wpList_valueG rfl _ (by exact exec_loadT _ _ rfl (w.heap.size) rfl (⟨true, (N : Int), nz⟩ : DvF) rfA) ?_)
            | ((with_reducible refine wpList_at ⟨some 64, _, _, _, _, _⟩ ?_); refine wpList_valueW rfl _ (exec_slice2 _ 49 35 _ _ rfl Try.underlying49 i1 _ hi1 hy0 noF.cs (⟨true, (N : Int), nz⟩ : DvF).cs 3 hy1 (by decide) (by decide) rfl rfl rfl rfl) ?_; have bF : Below (w6.alloc (.cells ((tornA j S1).cs ++ (tornA j S2).cs).toArray 33)).heap.size (w6.alloc (.cells ((tornA j S1).cs ++ (tornA j S2).cs).toArray 33)) ((w6.alloc (.cells ((tornA j S1).cs ++ (tornA j S2).cs).toArray 33)).alloc (.cells (noF.cs ++ (⟨true, (N : Int), nz⟩ : DvF).cs).toArray 35)) := (Below.refl _ _).alloc (Nat.le_refl _) _))
          have bAF : Below w6.heap.size w6 ((w6.alloc (.cells ((tornA j S1).cs ++ (tornA j S2).cs).toArray 33)).alloc (.cells (noF.cs ++ (⟨true, (N : Int), nz⟩ : DvF).cs).toArray 35)) := bA.trans (bF.mono bA.size)
          have BAF := B6.trans (bAF.mono B6.size)
          have ro_AF := ro_6.on bAF
          have rw_AF := rw_6.on bAF
          have rf_AF := rf_6.on bAF
          have kh_AF := kh_6.on bAF
          have rh_AF := rh_6.on bAF
          clear ro_6 rw_6 rf_6 kh_6 rh_6
          have crf0 := rf_AF.cell (j := 0) rfl
          have crf1 := rf_AF.cell (j := 1) rfl
          have crf2 := rf_AF.cell (j := 2) rfl
          have rdA : Reads ((w6.alloc (.cells ((tornA j S1).cs ++ (tornA j S2).cs).toArray 33)).alloc (.cells (noF.cs ++ (⟨true, (N : Int), nz⟩ : DvF).cs).toArray 35)) ((w6.alloc (.cells ((tornA j S1).cs ++ (tornA j S2).cs).toArray 33)).alloc (.cells (noF.cs ++ (⟨true, (N : Int), nz⟩ : DvF).cs).toArray 35)).heap.size 4 (some ⟨w6.heap.size, 0, none⟩) 2 ([tornA j S1, tornA j S2].flatMap DvA.cs) := by have h0 := ((row_alloc w6 33 ((tornA j S1).cs ++ (tornA j S2).cs)).reads (size := 4) (n := 2) rfl).on bF; simpa using h0
          have rdF : Reads ((w6.alloc (.cells ((tornA j S1).cs ++ (tornA j S2).cs).toArray 33)).alloc (.cells (noF.cs ++ (⟨true, (N : Int), nz⟩ : DvF).cs).toArray 35)) ((w6.alloc (.cells ((tornA j S1).cs ++ (tornA j S2).cs).toArray 33)).alloc (.cells (noF.cs ++ (⟨true, (N : Int), nz⟩ : DvF).cs).toArray 35)).heap.size 3 (some ⟨w6.heap.size + 1, 0, none⟩) 2 ([noF, (⟨true, (N : Int), nz⟩ : DvF)].flatMap DvF.cs) := by have h0 := (row_alloc (w6.alloc (.cells ((tornA j S1).cs ++ (tornA j S2).cs).toArray 33)) 35 (noF.cs ++ (⟨true, (N : Int), nz⟩ : DvF).cs)).reads (size := 3) (n := 2) rfl; rw [show (w6.alloc (.cells ((tornA j S1).cs ++ (tornA j S2).cs).toArray 33)).heap.size = w6.heap.size + 1 by simp] at h0; simpa using h0
          have HDA := dall_any9 hh _ _ 2 2 2 2 [tornA j S1, tornA j S2] [noF, (⟨true, (N : Int), nz⟩ : DvF)] _ kh_AF (by rw [HSh.out]; exact tornS_sm) rdA rdF (by decide)
          rw [HSh.out, HALL.out] at HDA
          clear rdA rdF
          refine (HDA).mono ?_
          rintro e w7 ⟨hx, Ax, nx, cx, rfl, kx, sx, rdx, lnx, h7⟩
          have B7 := BAF.trans (h7.mono BAF.size)
          have ro_7 := ro_AF.on h7
          have rw_7 := rw_AF.on h7
          have rf_7 := rf_AF.on h7
          have kh_7 := kh_AF.on h7
          have rh_7 := rh_AF.on h7
          clear ro_AF rw_AF rf_AF kh_AF rh_AF
          have crf0 := rf_7.cell (j := 0) rfl
          have crf1 := rf_7.cell (j := 1) rfl
          have crf2 := rf_7.cell (j := 2) rfl
          have HFX : Hid (hx.fs = s9F.set j (S2.extract 0 N ++ S1.extract N 256)) := Lib.hid (congrArg DvS.fs sx)
          have H16x := Lib.hid kx.h16
          clear sx rdx
          have hm128 : hx.m = 128 := by rw [← kx.2.1.len, HFX.out, List.length_set, s9_len]
          have hzm : ((hx.m : Int) != 128) = false := by rw [hm128]; rfl
          obtain ⟨xd, sx2, hxB, hltx, hsx, hcx⟩ := kx.2.1.1.str_at (show j < hx.m by omega)
          obtain rfl : sx2 = S2.extract 0 N ++ S1.extract N 256 := by rw [HFX.out, List.getElem?_set, if_pos rfl, if_pos (by rw [s9_len]; exact hj128)] at hsx; exact (Option.some.inj hsx).symm
          clear hsx
          have hnx : nx = 1 := lnx.trans HLEN.out
          clear lnx
          subst hnx
          go_wp2_with (first
            | (with_reducible refine wpList_alloc_row (o := ⟨some 15, _, _, _, _, _⟩) rfl _ rfl zeroH zero_hw ?_; intro w8 r8 s8 g8)
            | ((with_reducible refine wpList_at ⟨none, .store _ (.tmp 15) _, _, _, _, _⟩ ?_); refine wpList_store_all rfl _ _ _ rfl w7.heap.size rfl _ _ r8 (hx.cs) rfl (hx.cs_one) (hw_zl H16x.out) (hw_size H16x.out) ?_; intro w9 rx_9 g9; have k9 : Below w7.heap.size w7 w9 := below_kept (grown_below g8 (Nat.le_refl _) (by simp)) g9 (Nat.le_of_lt s8) (by rintro q hq; cases hq; exact Nat.le_refl _); have B9 := B7.trans (k9.mono B7.size); have ro_9 := ro_7.on k9; have rw_9 := rw_7.on k9; have rf_9 := rf_7.on k9; have kh_9 := kh_7.on k9; have rh_9 := rh_7.on k9; have kx_9 := kx.on k9; clear ro_7 rw_7 rf_7 kh_7 rh_7; have crf0 := rf_9.cell (j := 0) rfl; have crf1 := rf_9.cell (j := 1) rfl; have crf2 := rf_9.cell (j := 2) rfl; clear r8 g8 g9; have s9 := rx_9.lt; have crx0 := rx_9.cell (j := 0) rfl; have crx1 := rx_9.cell (j := 1) rfl))
          have hcW : w9.drew.cell? (xd.add j) = _ := (k9.cell (by rw [block_of_add]; exact hltx)).trans hcx
          have hx1 : w9.drew.cell? ⟨w7.heap.size, 1, none⟩ = some (.slice (some xd) hx.m hx.d) := by have h0 := rx_9.cell (j := 1) (u := .slice hx.B hx.m hx.d) rfl; rwa [hxB] at h0
          refine wp_region_plan (fun w' => w'.cell? ⟨w7.heap.size, 1, none⟩ = some (.slice (some xd) hx.m hx.d) ∧ w'.cell? (xd.add j) = some (.string (S2.extract 0 N ++ S1.extract N 256))) (.take 0 <| .take 1 <| .take 2 <| .take 3 <| .take 4 <| .take 5 <| .take 6 <| .take 7 <| .take 8 <| .take 9 <| .take 10 <| .take 11 <| .take 12 <| .take 13 <| .take 14 <| .take 15 <| .take 16 <| .take 17 <| .take 18 <| .take 19 <| .take 20 <| .take 21 <| .take 22 <| .take 23 <| .done) (by kernel_rfl) (by kernel_rfl) (by kernel_rfl) (fun _ _ _ _ _ h => h) ⟨hx1, hcW⟩ ?_
          repeat (refine plan_take _ rfl ?_; (first | ((with_reducible refine wpQuiet_at ⟨some 92, _, _, _, _, _⟩ ?_); refine wpQuiet_valueG rfl _ (by intro _ hS; exact exec_load1 _ 25 _ rfl ⟨w7.heap.size, 1, none⟩ rfl (.slice (some xd) hx.m hx.d) hS.1 _ Try.underlying25 rfl) (wpQuiet_nil ?_); simp only [Act.put, List.setIfInBounds_toArray, List.set_cons_zero, List.set_cons_succ]) | ((with_reducible refine wpQuiet_at ⟨some 95, _, _, _, _, _⟩ ?_); refine wpQuiet_valueG rfl _ (by intro _ hS; exact exec_load1 _ 9 _ rfl (xd.add j) rfl (.string (S2.extract 0 N ++ S1.extract N 256)) hS.2 _ Try.underlying9 rfl) (wpQuiet_nil ?_); simp only [Act.put, List.setIfInBounds_toArray, List.set_cons_zero, List.set_cons_succ]) | (go_big_quiet_step ((intros; rfl)); refine wpQuiet_nil ?_)))
          refine plan_done ?_
          go_wp2_with fail
          go_ret
          exact ⟨rfl, B9.drew⟩
end Go.Proofs.Ytkepmhkakkkliaa
