/-
  FlashWritesOneSector's walk. No condition.
-/
import Derived.Test.YtlllllcmbnmmkaaW85
namespace Go.Proofs.Ytlllllcmbnmmkaa
open Go.RowKit

set_option maxRecDepth 100000 in
set_option maxHeartbeats 8000000 in
theorem walk82 (A : Option Addr) (n c : Nat) (fs : List ByteArray) (k : Int) (b : UInt8) (cut : Int) (w : World) (hok : FlOK w A n c fs) :
    Calls Try.prog 4 #[.agg #[.slice A n c, .int .i64 k, bv b, .int .i64 cut]] w (TellsB true w) := by
  obtain ⟨i0, hi0, hz0, hz1, hz2⟩ := info_parts info_st
  have HOC := Lib.hid (svs_one fs)
  have HSA := fun W => sanity8_any W
  have HLN := Lib.hid hok.len
  have HOK := Lib.hid hok
  cases hv : flValid fs with
  | false =>
    have HV := fun W h => Lib.hid (valid_eq hv A n c W h)
    clear hv
    go_enter Try.func4, Try.ntmps4
    go_wp2_with (first
      | (with_reducible refine wpList_box_row (o := ⟨some 1, _, _, _, _, _⟩) rfl _ _ rfl [.slice A n c, .int .i64 k, bv b, .int .i64 cut] rfl ?_; intro w1 rin_1 s1 g1; have k1 : Below w.heap.size w w1 := grown_below g1 (Nat.le_refl _) (by simp); have B1 : Below w.heap.size w w1 := k1; have okf_1 := hok.on k1; have crin0 := rin_1.cell (j := 0) rfl; have crin1 := rin_1.cell (j := 1) rfl; have crin2 := rin_1.cell (j := 2) rfl; have crin3 := rin_1.cell (j := 3) rfl)
      | (with_reducible refine wpList_alloc_row (o := ⟨some 3, _, _, _, _, _⟩) rfl _ rfl [.slice none 0 0] (by kernel_rfl) ?_; intro w2 r2 s2 g2)
      | ((with_reducible refine wpList_at ⟨none, .store _ (.tmp 3) _, _, _, _, _⟩ ?_); refine wpList_store_all rfl _ _ _ rfl w1.heap.size rfl _ _ r2 [.slice A n c] rfl (slice_one _ _ _) rfl (by kernel_rfl) ?_; intro w3 f_3 g3; have k3 : Below w1.heap.size w1 w3 := below_kept (grown_below g2 (Nat.le_refl _) (by simp)) g3 (Nat.le_of_lt s2) (by rintro q hq; cases hq; exact Nat.le_refl _); have B3 := B1.trans (k3.mono B1.size); have okf_3 := okf_1.on k3; have rin_3 := rin_1.on k3; clear okf_1 rin_1; have crin0 := rin_3.cell (j := 0) rfl; have crin1 := rin_3.cell (j := 1) rfl; have crin2 := rin_3.cell (j := 2) rfl; have crin3 := rin_3.cell (j := 3) rfl; have cf := f_3.cell (j := 0) rfl; clear r2 g2 g3))
    go_wp2_with fail
    refine (HSA _).mono ?_
    rintro e w4 ⟨rfl, h4⟩
    have B4 := B3.trans (h4.mono B3.size)
    have okf_4 := okf_3.on h4
    have f_4 := f_3.on h4
    clear okf_3 f_3
    have cf := f_4.cell (j := 0) rfl
    go_wp2_with fail
    refine ((HV _ okf_4).out).mono ?_
    rintro e w5 ⟨rfl, h5⟩
    have B5 := B4.trans (h5.mono B4.size)
    have okf_5 := okf_4.on h5
    have f_5 := f_4.on h5
    clear okf_4 f_4
    have cf := f_5.cell (j := 0) rfl
    go_wp2_with fail
    go_ret
    exact ⟨rfl, B5⟩
  | true =>
    have hn128 := flvalid_len hv
    rw [HLN.out] at hn128
    have HV := fun W h => Lib.hid (valid_eq hv A n c W h)
    have HL : Hid (fs.length ≤ 1000000) := Lib.hid (by rw [HLN.out]; omega)
    have HSM := Lib.hid hok.2.2.2
    obtain ⟨G1, hG1⟩ : ∃ G, flWrite fs k (fullS b) cut = G := ⟨_, rfl⟩
    have HG1 := Lib.hid hG1
    have HGL : Hid (G1.length = n) := Lib.hid (by rw [← hG1, flWrite_length, HLN.out])
    have HGV : Hid (flValid G1 = true) := Lib.hid (by rw [← hG1]; exact flvalid_write hv (fullS_size b) cut)
    cases hx : flIn fs k with
    | true =>
      obtain ⟨j, rfl, hj⟩ := flIn_iff.1 hx
      rw [HLN.out] at hj
      have HE1 : Hid (flWErr fs (j : Int) (fullS b) = 0) := Lib.hid (flWErr_yes hx (fullS_size b))
      have HOT : Hid (∀ i : Nat, i ≠ j → G1[i]? = fs[i]?) := Lib.hid fun i hi => by rw [← hG1]; exact write_other cut (.inl (by omega))
      clear hv hG1 hx
      go_enter Try.func4, Try.ntmps4
      go_wp2_with (first
        | (with_reducible refine wpList_box_row (o := ⟨some 1, _, _, _, _, _⟩) rfl _ _ rfl [.slice A n c, .int .i64 (j : Int), bv b, .int .i64 cut] rfl ?_; intro w1 rin_1 s1 g1; have k1 : Below w.heap.size w w1 := grown_below g1 (Nat.le_refl _) (by simp); have B1 : Below w.heap.size w w1 := k1; have okf_1 := hok.on k1; have crin0 := rin_1.cell (j := 0) rfl; have crin1 := rin_1.cell (j := 1) rfl; have crin2 := rin_1.cell (j := 2) rfl; have crin3 := rin_1.cell (j := 3) rfl)
        | (with_reducible refine wpList_alloc_row (o := ⟨some 3, _, _, _, _, _⟩) rfl _ rfl [.slice none 0 0] (by kernel_rfl) ?_; intro w2 r2 s2 g2)
        | ((with_reducible refine wpList_at ⟨none, .store _ (.tmp 3) _, _, _, _, _⟩ ?_); refine wpList_store_all rfl _ _ _ rfl w1.heap.size rfl _ _ r2 [.slice A n c] rfl (slice_one _ _ _) rfl (by kernel_rfl) ?_; intro w3 f_3 g3; have k3 : Below w1.heap.size w1 w3 := below_kept (grown_below g2 (Nat.le_refl _) (by simp)) g3 (Nat.le_of_lt s2) (by rintro q hq; cases hq; exact Nat.le_refl _); have B3 := B1.trans (k3.mono B1.size); have okf_3 := okf_1.on k3; have rin_3 := rin_1.on k3; clear okf_1 rin_1; have crin0 := rin_3.cell (j := 0) rfl; have crin1 := rin_3.cell (j := 1) rfl; have crin2 := rin_3.cell (j := 2) rfl; have crin3 := rin_3.cell (j := 3) rfl; have cf := f_3.cell (j := 0) rfl; clear r2 g2 g3))
      go_wp2_with fail
      refine (HSA _).mono ?_
      rintro e w4 ⟨rfl, h4⟩
      have B4 := B3.trans (h4.mono B3.size)
      have okf_4 := okf_3.on h4
      have f_4 := f_3.on h4
      clear okf_3 f_3
      have cf := f_4.cell (j := 0) rfl
      go_wp2_with fail
      refine ((HV _ okf_4).out).mono ?_
      rintro e w5 ⟨rfl, h5⟩
      have B5 := B4.trans (h5.mono B4.size)
      have okf_5 := okf_4.on h5
      have f_5 := f_4.on h5
      clear okf_4 f_4
      have cf := f_5.cell (j := 0) rfl
      have cf0 := (f_5.on ((Below.refl w5.heap.size w5).alloc (Nat.le_refl _) (.cells #[] 9))).cell (j := 0) rfl
      go_wp2_with (at_builtin; refine wpList_append_src _ rfl (.tmp 25) (.tmp 27) _ _ rfl w5.heap.size 9 i0 _ 1 16 Try.underlying22 hi0 hz0 hz1 hz2 rfl _ _ _ rfl (own_empty w5 9 1 w5.heap.size (Nat.le_refl _)) n _ (Src.ofReads _ Try.underlying22 ((HOK.out.1.below B5).more B5.size |>.alloc (Nat.le_refl _) _) HOC.out) (by unfold maxLen; omega) (by omega) (by simp) ?_; intro v4 w4b hown4 hb4; rw [Nat.zero_add, List.nil_append] at hown4; obtain ⟨A4, c4, rfl, hnc4, hcm4, _⟩ := own_form hown4; have okold := own_flok hown4 HSM.out; have k6 := ((Below.refl w5.heap.size w5).alloc (Nat.le_refl _) _).trans hb4; have B6 := B5.trans (k6.mono B5.size); have okf_6 := okf_5.on k6; have f_6 := f_5.on k6; clear okf_5 f_5; have cf := f_6.cell (j := 0) rfl)
      try simp only [Act.put, List.setIfInBounds_toArray, List.set_cons_zero, List.set_cons_succ]
      go_cut [9, 10] (fun s1 s2 wc7 => ∃ g A n c, s1 = .pointer (some ⟨g, 0, none⟩) ∧ s2 = .int .i64 (0) ∧ Row wc7 g 24 [.slice A n c] ∧ wc7.ownsRow w4b.heap.size 9 1 (.slice A n c) n (svs G1) ∧ (∀ s ∈ G1, s.size ≤ 9223372036854775807) ∧ w4b.heap.size ≤ g ∧ Below w4b.heap.size w4b wc7)
      case first =>
        have zd : w4b.drew.heap.size = w4b.heap.size := rfl
        have zl := f_6.lt
        have e0 := f_6.drew
        have o0 : FlOK w4b.drew A n c fs := okf_6
        have b0 : Below w4b.heap.size w4b w4b.drew := (Below.refl _ _).drew
        refine wp_region_plan (fun w' => Row w' (w1.heap.size) 24 ([.slice A n c])) (.take 0 <| .take 1 <| .take 2 <| .take 4 <| .two 3 (.two 5 (.take 6 <| .take 7 <| .take 8 <| .one 9 <| .one 10 <| .take 11 <| .done) 9 (.one 5 <| .take 6 <| .take 7 <| .take 8 <| .one 10 <| .take 11 <| .done)) 9 (.one 3 <| .one 5 <| .take 6 <| .take 7 <| .take 8 <| .one 10 <| .take 11 <| .done)) (by kernel_rfl) (by kernel_rfl) (by kernel_rfl) (fun _ _ _ _ _ h => h) e0 ?_
        repeat (refine plan_take _ rfl ?_; (first | (refine wpQuiet_valueG (o := ⟨some 30, _, _, _, _, _⟩) rfl _ (by intro _ h; exact exec_load _ 24 _ rfl ⟨w1.heap.size, 0, none⟩ rfl [.slice A n c] h.cells _ Try.underlying24 rfl (by kernel_rfl)) (wpQuiet_nil ?_); simp only [Act.put, List.setIfInBounds_toArray, List.set_cons_zero, List.set_cons_succ]) | (go_big_quiet_step ((intros; rfl)); refine wpQuiet_nil ?_)))
        refine plan_two ?_ ?_
        · refine step_at _ rfl fun K hK => ?_
          go_simp
          refine (full_any b _).mono ?_
          rintro e wu1 ⟨rfl, hu1⟩
          have eu1 := e0.on hu1
          have ou1 := o0.on hu1
          have bu1 := b0.trans (hu1.mono b0.size)
          have zu1 := hu1.size
          refine hK _ _ eu1 ?_
          clear hK K
          refine plan_two ?_ ?_
          · refine step_at _ rfl fun K hK => ?_
            go_simp
            refine ((lw_eq HL.out HG1.out HE1.out A n c _ ou1)).mono ?_
            rintro e wu2 ⟨Au2, nu2, cu2, rfl, ownu2, szu2, hu2⟩
            unfold flv
            have eu2 := eu1.on hu2
            have ou2 := ou1.on hu2
            have bu2 := bu1.trans (hu2.mono bu1.size)
            have zu2 := hu2.size
            refine hK _ _ eu2 ?_
            clear hK K
            repeat (refine plan_take _ rfl ?_; (first | (refine wpQuiet_valueG (o := ⟨some 30, _, _, _, _, _⟩) rfl _ (by intro _ h; exact exec_load _ 24 _ rfl ⟨w1.heap.size, 0, none⟩ rfl [.slice A n c] h.cells _ Try.underlying24 rfl (by kernel_rfl)) (wpQuiet_nil ?_); simp only [Act.put, List.setIfInBounds_toArray, List.set_cons_zero, List.set_cons_succ]) | (go_big_quiet_step ((intros; rfl)); refine wpQuiet_nil ?_)))
            refine plan_one _ rfl fun K hK => ?_
            refine step_alloc rfl _ rfl [.slice none 0 0] (by kernel_rfl) ?_
            intro wu3 ru3 su3 gu3
            have hu3 := grown_below gu3 (Nat.le_refl _) (by simp)
            have zau3 := bu2.size
            have eu3 := eu2.on hu3
            have ou3 := ou2.on hu3
            have ownu3 := own_below ownu2 hu3
            have bu3 := bu2.trans (hu3.mono bu2.size)
            have zu3 := hu3.size
            refine hK _ _ eu3 ?_
            clear hK K
            simp only [Act.put, List.setIfInBounds_toArray, List.set_cons_zero, List.set_cons_succ]
            refine plan_one _ rfl fun K hK => ?_
            refine step_store_all rfl _ _ _ rfl wu2.heap.size rfl _ _ ru3 [(.slice Au2 nu2 cu2)] rfl (slice_one _ _ _) rfl (by kernel_rfl) ?_
            intro wu4 ru4 gu4
            have eu4 := eu3.kept gu4 (by simp; omega)
            have ownu4 := own_below ownu2 (below_kept (grown_below gu3 (Nat.le_refl _) (by simp)) gu4 (Nat.le_of_lt su3) (by rintro q hq; cases hq; exact Nat.le_refl _))
            have bu4 := below_kept bu3 gu4 bu3.size (by rintro q hq; cases hq; omega)
            refine hK _ _ eu4 ?_
            clear hK K
            simp only [Act.put]
            repeat (refine plan_take _ rfl ?_; (first | (refine wpQuiet_valueG (o := ⟨some 30, _, _, _, _, _⟩) rfl _ (by intro _ h; exact exec_load _ 24 _ rfl ⟨w1.heap.size, 0, none⟩ rfl [.slice A n c] h.cells _ Try.underlying24 rfl (by kernel_rfl)) (wpQuiet_nil ?_); simp only [Act.put, List.setIfInBounds_toArray, List.set_cons_zero, List.set_cons_succ]) | (go_big_quiet_step ((intros; rfl)); refine wpQuiet_nil ?_)))
            refine plan_done ?_
            go_wp2_with fail
            go_meet
            exact ⟨_, _, _, _, rfl, rfl, ru4, own_base ownu4 (by omega), szu2, by omega, bu4⟩
          · refine step_at _ rfl fun K hK => ?_
            refine step_alloc rfl _ rfl [.slice none 0 0] (by kernel_rfl) ?_
            intro wu5 ru5 su5 gu5
            have hu5 := grown_below gu5 (Nat.le_refl _) (by simp)
            have zau5 := bu1.size
            have eu5 := eu1.on hu5
            have ou5 := ou1.on hu5
            have bu5 := bu1.trans (hu5.mono bu1.size)
            have zu5 := hu5.size
            refine hK _ _ eu5 ?_
            clear hK K
            simp only [Act.put, List.setIfInBounds_toArray, List.set_cons_zero, List.set_cons_succ]
            refine plan_one _ rfl fun K hK => ?_
            go_simp
            refine ((lw_eq HL.out HG1.out HE1.out A n c _ ou5)).mono ?_
            rintro e wu6 ⟨Au6, nu6, cu6, rfl, ownu6, szu6, hu6⟩
            unfold flv
            have eu6 := eu5.on hu6
            have ou6 := ou5.on hu6
            have rzu6 := ru5.on hu6
            have bu6 := bu5.trans (hu6.mono bu5.size)
            have zu6 := hu6.size
            refine hK _ _ eu6 ?_
            clear hK K
            repeat (refine plan_take _ rfl ?_; (first | (refine wpQuiet_valueG (o := ⟨some 30, _, _, _, _, _⟩) rfl _ (by intro _ h; exact exec_load _ 24 _ rfl ⟨w1.heap.size, 0, none⟩ rfl [.slice A n c] h.cells _ Try.underlying24 rfl (by kernel_rfl)) (wpQuiet_nil ?_); simp only [Act.put, List.setIfInBounds_toArray, List.set_cons_zero, List.set_cons_succ]) | (go_big_quiet_step ((intros; rfl)); refine wpQuiet_nil ?_)))
            refine plan_one _ rfl fun K hK => ?_
            refine step_store_all rfl _ _ _ rfl wu1.heap.size rfl _ _ rzu6 [(.slice Au6 nu6 cu6)] rfl (slice_one _ _ _) rfl (by kernel_rfl) ?_
            intro wu7 ru7 gu7
            have eu7 := eu6.kept gu7 (by simp; omega)
            have ownu7 := own_kept_lt ownu6 gu7 (by omega)
            have bu7 := below_kept bu6 gu7 bu6.size (by rintro q hq; cases hq; omega)
            refine hK _ _ eu7 ?_
            clear hK K
            simp only [Act.put]
            repeat (refine plan_take _ rfl ?_; (first | (refine wpQuiet_valueG (o := ⟨some 30, _, _, _, _, _⟩) rfl _ (by intro _ h; exact exec_load _ 24 _ rfl ⟨w1.heap.size, 0, none⟩ rfl [.slice A n c] h.cells _ Try.underlying24 rfl (by kernel_rfl)) (wpQuiet_nil ?_); simp only [Act.put, List.setIfInBounds_toArray, List.set_cons_zero, List.set_cons_succ]) | (go_big_quiet_step ((intros; rfl)); refine wpQuiet_nil ?_)))
            refine plan_done ?_
            go_wp2_with fail
            go_meet
            exact ⟨_, _, _, _, rfl, rfl, ru7, own_base ownu7 (by omega), szu6, by omega, bu7⟩
        · refine step_at _ rfl fun K hK => ?_
          refine step_alloc rfl _ rfl [.slice none 0 0] (by kernel_rfl) ?_
          intro wu8 ru8 su8 gu8
          have hu8 := grown_below gu8 (Nat.le_refl _) (by simp)
          have zau8 := b0.size
          have eu8 := e0.on hu8
          have ou8 := o0.on hu8
          have bu8 := b0.trans (hu8.mono b0.size)
          have zu8 := hu8.size
          refine hK _ _ eu8 ?_
          clear hK K
          simp only [Act.put, List.setIfInBounds_toArray, List.set_cons_zero, List.set_cons_succ]
          refine plan_one _ rfl fun K hK => ?_
          go_simp
          refine (full_any b _).mono ?_
          rintro e wu9 ⟨rfl, hu9⟩
          have eu9 := eu8.on hu9
          have ou9 := ou8.on hu9
          have rzu9 := ru8.on hu9
          have bu9 := bu8.trans (hu9.mono bu8.size)
          have zu9 := hu9.size
          refine hK _ _ eu9 ?_
          clear hK K
          refine plan_one _ rfl fun K hK => ?_
          go_simp
          refine ((lw_eq HL.out HG1.out HE1.out A n c _ ou9)).mono ?_
          rintro e wu10 ⟨Au10, nu10, cu10, rfl, ownu10, szu10, hu10⟩
          unfold flv
          have eu10 := eu9.on hu10
          have ou10 := ou9.on hu10
          have rzu10 := rzu9.on hu10
          have bu10 := bu9.trans (hu10.mono bu9.size)
          have zu10 := hu10.size
          refine hK _ _ eu10 ?_
          clear hK K
          repeat (refine plan_take _ rfl ?_; (first | (refine wpQuiet_valueG (o := ⟨some 30, _, _, _, _, _⟩) rfl _ (by intro _ h; exact exec_load _ 24 _ rfl ⟨w1.heap.size, 0, none⟩ rfl [.slice A n c] h.cells _ Try.underlying24 rfl (by kernel_rfl)) (wpQuiet_nil ?_); simp only [Act.put, List.setIfInBounds_toArray, List.set_cons_zero, List.set_cons_succ]) | (go_big_quiet_step ((intros; rfl)); refine wpQuiet_nil ?_)))
          refine plan_one _ rfl fun K hK => ?_
          refine step_store_all rfl _ _ _ rfl w4b.drew.heap.size rfl _ _ rzu10 [(.slice Au10 nu10 cu10)] rfl (slice_one _ _ _) rfl (by kernel_rfl) ?_
          intro wu11 ru11 gu11
          have eu11 := eu10.kept gu11 (by simp; omega)
          have ownu11 := own_kept_lt ownu10 gu11 (by omega)
          have bu11 := below_kept bu10 gu11 bu10.size (by rintro q hq; cases hq; omega)
          refine hK _ _ eu11 ?_
          clear hK K
          simp only [Act.put]
          repeat (refine plan_take _ rfl ?_; (first | (refine wpQuiet_valueG (o := ⟨some 30, _, _, _, _, _⟩) rfl _ (by intro _ h; exact exec_load _ 24 _ rfl ⟨w1.heap.size, 0, none⟩ rfl [.slice A n c] h.cells _ Try.underlying24 rfl (by kernel_rfl)) (wpQuiet_nil ?_); simp only [Act.put, List.setIfInBounds_toArray, List.set_cons_zero, List.set_cons_succ]) | (go_big_quiet_step ((intros; rfl)); refine wpQuiet_nil ?_)))
          refine plan_done ?_
          go_wp2_with fail
          go_meet
          exact ⟨_, _, _, _, rfl, rfl, ru11, own_base ownu11 (by omega), szu10, by omega, bu11⟩
      case rest =>
        revert wc
        intro wc7 hcut
        obtain ⟨g_g, Ag, ng, mg, rfl, rfl, g_7, owng7, szg7, ggeg, h7⟩ := hcut
        have okg7 := own_flok owng7 szg7
        have B7 := B6.trans (h7.mono B6.size)
        have okf_7 := okf_6.on h7
        have f_7 := f_6.on h7
        have okold_7 := okold.on h7
        clear okf_6 f_6
        have cf := f_7.cell (j := 0) rfl
        have cg := g_7.cell (j := 0) rfl
        have hng : n = ng := by rw [← okg7.len, HGL.out]
        subst hng
        go_wp2_with fail
        refine (lvalid_eq HGV.out _ _ _ _ okg7).mono ?_
        rintro e w8 ⟨rfl, h8⟩
        have B8 := B7.trans (h8.mono B7.size)
        have okf_8 := okf_7.on h8
        have f_8 := f_7.on h8
        have okold_8 := okold_7.on h8
        have g_8 := g_7.on h8
        have okg_8 := okg7.on h8
        clear okf_7 f_7 okold_7 g_7
        have cf := f_8.cell (j := 0) rfl
        have cg := g_8.cell (j := 0) rfl
        go_wp2_with fail
        have OF := okf_8
        have OO := okold_8
        have OG := okg_8
        have EF := f_8
        have EG := g_8
        have BW := B8
        clear cf cg cf0
        go_loopg [11] n (fun g s11 wr => ∃ i : Nat, Hid (i + g = n) ∧ i ≤ n ∧ s11 = .int .i64 (i : Int) ∧ Below w8.heap.size w8 wr)
        case atStart => exact ⟨0, by show _ = _; omega, by omega, rfl, Below.refl _ _⟩
        case round =>
          obtain ⟨i, HI2, hi, rfl, hB⟩ := hrel
          have cf := (EF.on hB).cell (j := 0) rfl
          have cg := (EG.on hB).cell (j := 0) rfl
          by_cases hlt : i < n
          · obtain ⟨ad, s, rfl, l1, hs, p1⟩ := OF.1.str_at hlt
            obtain ⟨bd, s', rfl, l2, hs', p2⟩ := OO.1.str_at hlt
            obtain ⟨gd, t, rfl, l3, ht, p3⟩ := OG.1.str_at hlt
            rw [hs] at hs'
            cases hs'
            have q1 := (hB.cell (by rw [block_of_add]; exact l1)).trans p1
            have q2 := (hB.cell (by rw [block_of_add]; exact l2)).trans p2
            have q3 := (hB.cell (by rw [block_of_add]; exact l3)).trans p3
            clear p1 p2 p3
            by_cases hij : i = j
            · have hz1 : ((i : Int) != (j : Int)) = false := by simp; omega
              clear hij
              go_wp2_with fail
              go_quiet (fail)
              go_wp2_with fail
              go_roundg (gk - 1)
              case measure => have := HI2.out; omega
              case rel => exact ⟨i + 1, by have := HI2.out; show _ = _; omega, by omega, by go_num, below_drewN hB nq⟩
            · have hz1 : ((i : Int) != (j : Int)) = true := by simp; omega
              have hst : t = s := by
                have h1 := HOT.out i (by omega)
                rw [ht, hs] at h1
                exact Option.some.inj h1
              subst hst
              go_wp2_with fail
              go_quiet (fail)
              go_wp2_with fail
              go_roundg (gk - 1)
              case measure => have := HI2.out; omega
              case rel => exact ⟨i + 1, by have := HI2.out; show _ = _; omega, by omega, by go_num, below_drewN hB nq⟩
          · obtain rfl : i = n := by omega
            go_wp2_with fail
            go_ret
            exact ⟨rfl, BW.trans (hB.mono BW.size)⟩
    | false =>
      have HE1 : Hid (flWErr fs k (fullS b) = 13) := Lib.hid (flWErr_no hx)
      have HOT : Hid (∀ i : Nat, G1[i]? = fs[i]?) := Lib.hid fun i => by rw [← hG1]; exact write_other cut (.inr (by rw [flWErr_no hx]; omega))
      have hk : k < 0 ∨ (n : Int) ≤ k := by
        rcases Int.lt_or_le k 0 with h | h
        · exact .inl h
        · refine .inr (Int.not_lt.1 fun h2 => ?_)
          obtain ⟨j, rfl⟩ : ∃ j : Nat, k = (j : Int) := ⟨k.toNat, by omega⟩
          rw [flIn_nat (by rw [HLN.out]; omega)] at hx
          cases hx
      clear hv hG1 hx
      go_enter Try.func4, Try.ntmps4
      go_wp2_with (first
        | (with_reducible refine wpList_box_row (o := ⟨some 1, _, _, _, _, _⟩) rfl _ _ rfl [.slice A n c, .int .i64 k, bv b, .int .i64 cut] rfl ?_; intro w1 rin_1 s1 g1; have k1 : Below w.heap.size w w1 := grown_below g1 (Nat.le_refl _) (by simp); have B1 : Below w.heap.size w w1 := k1; have okf_1 := hok.on k1; have crin0 := rin_1.cell (j := 0) rfl; have crin1 := rin_1.cell (j := 1) rfl; have crin2 := rin_1.cell (j := 2) rfl; have crin3 := rin_1.cell (j := 3) rfl)
        | (with_reducible refine wpList_alloc_row (o := ⟨some 3, _, _, _, _, _⟩) rfl _ rfl [.slice none 0 0] (by kernel_rfl) ?_; intro w2 r2 s2 g2)
        | ((with_reducible refine wpList_at ⟨none, .store _ (.tmp 3) _, _, _, _, _⟩ ?_); refine wpList_store_all rfl _ _ _ rfl w1.heap.size rfl _ _ r2 [.slice A n c] rfl (slice_one _ _ _) rfl (by kernel_rfl) ?_; intro w3 f_3 g3; have k3 : Below w1.heap.size w1 w3 := below_kept (grown_below g2 (Nat.le_refl _) (by simp)) g3 (Nat.le_of_lt s2) (by rintro q hq; cases hq; exact Nat.le_refl _); have B3 := B1.trans (k3.mono B1.size); have okf_3 := okf_1.on k3; have rin_3 := rin_1.on k3; clear okf_1 rin_1; have crin0 := rin_3.cell (j := 0) rfl; have crin1 := rin_3.cell (j := 1) rfl; have crin2 := rin_3.cell (j := 2) rfl; have crin3 := rin_3.cell (j := 3) rfl; have cf := f_3.cell (j := 0) rfl; clear r2 g2 g3))
      go_wp2_with fail
      refine (HSA _).mono ?_
      rintro e w4 ⟨rfl, h4⟩
      have B4 := B3.trans (h4.mono B3.size)
      have okf_4 := okf_3.on h4
      have f_4 := f_3.on h4
      clear okf_3 f_3
      have cf := f_4.cell (j := 0) rfl
      go_wp2_with fail
      refine ((HV _ okf_4).out).mono ?_
      rintro e w5 ⟨rfl, h5⟩
      have B5 := B4.trans (h5.mono B4.size)
      have okf_5 := okf_4.on h5
      have f_5 := f_4.on h5
      clear okf_4 f_4
      have cf := f_5.cell (j := 0) rfl
      have cf0 := (f_5.on ((Below.refl w5.heap.size w5).alloc (Nat.le_refl _) (.cells #[] 9))).cell (j := 0) rfl
      go_wp2_with (at_builtin; refine wpList_append_src _ rfl (.tmp 25) (.tmp 27) _ _ rfl w5.heap.size 9 i0 _ 1 16 Try.underlying22 hi0 hz0 hz1 hz2 rfl _ _ _ rfl (own_empty w5 9 1 w5.heap.size (Nat.le_refl _)) n _ (Src.ofReads _ Try.underlying22 ((HOK.out.1.below B5).more B5.size |>.alloc (Nat.le_refl _) _) HOC.out) (by unfold maxLen; omega) (by omega) (by simp) ?_; intro v4 w4b hown4 hb4; rw [Nat.zero_add, List.nil_append] at hown4; obtain ⟨A4, c4, rfl, hnc4, hcm4, _⟩ := own_form hown4; have okold := own_flok hown4 HSM.out; have k6 := ((Below.refl w5.heap.size w5).alloc (Nat.le_refl _) _).trans hb4; have B6 := B5.trans (k6.mono B5.size); have okf_6 := okf_5.on k6; have f_6 := f_5.on k6; clear okf_5 f_5; have cf := f_6.cell (j := 0) rfl)
      try simp only [Act.put, List.setIfInBounds_toArray, List.set_cons_zero, List.set_cons_succ]
      go_cut [9, 10] (fun s1 s2 wc7 => ∃ g A n c, s1 = .pointer (some ⟨g, 0, none⟩) ∧ s2 = .int .i64 (13) ∧ Row wc7 g 24 [.slice A n c] ∧ wc7.ownsRow w4b.heap.size 9 1 (.slice A n c) n (svs G1) ∧ (∀ s ∈ G1, s.size ≤ 9223372036854775807) ∧ w4b.heap.size ≤ g ∧ Below w4b.heap.size w4b wc7)
      case first =>
        have zd : w4b.drew.heap.size = w4b.heap.size := rfl
        have zl := f_6.lt
        have e0 := f_6.drew
        have o0 : FlOK w4b.drew A n c fs := okf_6
        have b0 : Below w4b.heap.size w4b w4b.drew := (Below.refl _ _).drew
        refine wp_region_plan (fun w' => Row w' (w1.heap.size) 24 ([.slice A n c])) (.take 0 <| .take 1 <| .take 2 <| .take 4 <| .two 3 (.two 5 (.take 6 <| .take 7 <| .take 8 <| .one 9 <| .one 10 <| .take 11 <| .done) 9 (.one 5 <| .take 6 <| .take 7 <| .take 8 <| .one 10 <| .take 11 <| .done)) 9 (.one 3 <| .one 5 <| .take 6 <| .take 7 <| .take 8 <| .one 10 <| .take 11 <| .done)) (by kernel_rfl) (by kernel_rfl) (by kernel_rfl) (fun _ _ _ _ _ h => h) e0 ?_
        repeat (refine plan_take _ rfl ?_; (first | (refine wpQuiet_valueG (o := ⟨some 30, _, _, _, _, _⟩) rfl _ (by intro _ h; exact exec_load _ 24 _ rfl ⟨w1.heap.size, 0, none⟩ rfl [.slice A n c] h.cells _ Try.underlying24 rfl (by kernel_rfl)) (wpQuiet_nil ?_); simp only [Act.put, List.setIfInBounds_toArray, List.set_cons_zero, List.set_cons_succ]) | (go_big_quiet_step ((intros; rfl)); refine wpQuiet_nil ?_)))
        refine plan_two ?_ ?_
        · refine step_at _ rfl fun K hK => ?_
          go_simp
          refine (full_any b _).mono ?_
          rintro e wu12 ⟨rfl, hu12⟩
          have eu12 := e0.on hu12
          have ou12 := o0.on hu12
          have bu12 := b0.trans (hu12.mono b0.size)
          have zu12 := hu12.size
          refine hK _ _ eu12 ?_
          clear hK K
          refine plan_two ?_ ?_
          · refine step_at _ rfl fun K hK => ?_
            go_simp
            refine ((lw_eq HL.out HG1.out HE1.out A n c _ ou12)).mono ?_
            rintro e wu13 ⟨Au13, nu13, cu13, rfl, ownu13, szu13, hu13⟩
            unfold flv
            have eu13 := eu12.on hu13
            have ou13 := ou12.on hu13
            have bu13 := bu12.trans (hu13.mono bu12.size)
            have zu13 := hu13.size
            refine hK _ _ eu13 ?_
            clear hK K
            repeat (refine plan_take _ rfl ?_; (first | (refine wpQuiet_valueG (o := ⟨some 30, _, _, _, _, _⟩) rfl _ (by intro _ h; exact exec_load _ 24 _ rfl ⟨w1.heap.size, 0, none⟩ rfl [.slice A n c] h.cells _ Try.underlying24 rfl (by kernel_rfl)) (wpQuiet_nil ?_); simp only [Act.put, List.setIfInBounds_toArray, List.set_cons_zero, List.set_cons_succ]) | (go_big_quiet_step ((intros; rfl)); refine wpQuiet_nil ?_)))
            refine plan_one _ rfl fun K hK => ?_
            refine step_alloc rfl _ rfl [.slice none 0 0] (by kernel_rfl) ?_
            intro wu14 ru14 su14 gu14
            have hu14 := grown_below gu14 (Nat.le_refl _) (by simp)
            have zau14 := bu13.size
            have eu14 := eu13.on hu14
            have ou14 := ou13.on hu14
            have ownu14 := own_below ownu13 hu14
            have bu14 := bu13.trans (hu14.mono bu13.size)
            have zu14 := hu14.size
            refine hK _ _ eu14 ?_
            clear hK K
            simp only [Act.put, List.setIfInBounds_toArray, List.set_cons_zero, List.set_cons_succ]
            refine plan_one _ rfl fun K hK => ?_
            refine step_store_all rfl _ _ _ rfl wu13.heap.size rfl _ _ ru14 [(.slice Au13 nu13 cu13)] rfl (slice_one _ _ _) rfl (by kernel_rfl) ?_
            intro wu15 ru15 gu15
            have eu15 := eu14.kept gu15 (by simp; omega)
            have ownu15 := own_below ownu13 (below_kept (grown_below gu14 (Nat.le_refl _) (by simp)) gu15 (Nat.le_of_lt su14) (by rintro q hq; cases hq; exact Nat.le_refl _))
            have bu15 := below_kept bu14 gu15 bu14.size (by rintro q hq; cases hq; omega)
            refine hK _ _ eu15 ?_
            clear hK K
            simp only [Act.put]
            repeat (refine plan_take _ rfl ?_; (first | (refine wpQuiet_valueG (o := ⟨some 30, _, _, _, _, _⟩) rfl _ (by intro _ h; exact exec_load _ 24 _ rfl ⟨w1.heap.size, 0, none⟩ rfl [.slice A n c] h.cells _ Try.underlying24 rfl (by kernel_rfl)) (wpQuiet_nil ?_); simp only [Act.put, List.setIfInBounds_toArray, List.set_cons_zero, List.set_cons_succ]) | (go_big_quiet_step ((intros; rfl)); refine wpQuiet_nil ?_)))
            refine plan_done ?_
            go_wp2_with fail
            go_meet
            exact ⟨_, _, _, _, rfl, rfl, ru15, own_base ownu15 (by omega), szu13, by omega, bu15⟩
          · refine step_at _ rfl fun K hK => ?_
            refine step_alloc rfl _ rfl [.slice none 0 0] (by kernel_rfl) ?_
            intro wu16 ru16 su16 gu16
            have hu16 := grown_below gu16 (Nat.le_refl _) (by simp)
            have zau16 := bu12.size
            have eu16 := eu12.on hu16
            have ou16 := ou12.on hu16
            have bu16 := bu12.trans (hu16.mono bu12.size)
            have zu16 := hu16.size
            refine hK _ _ eu16 ?_
            clear hK K
            simp only [Act.put, List.setIfInBounds_toArray, List.set_cons_zero, List.set_cons_succ]
            refine plan_one _ rfl fun K hK => ?_
            go_simp
            refine ((lw_eq HL.out HG1.out HE1.out A n c _ ou16)).mono ?_
            rintro e wu17 ⟨Au17, nu17, cu17, rfl, ownu17, szu17, hu17⟩
            unfold flv
            have eu17 := eu16.on hu17
            have ou17 := ou16.on hu17
            have rzu17 := ru16.on hu17
            have bu17 := bu16.trans (hu17.mono bu16.size)
            have zu17 := hu17.size
            refine hK _ _ eu17 ?_
            clear hK K
            repeat (refine plan_take _ rfl ?_; (first | (refine wpQuiet_valueG (o := ⟨some 30, _, _, _, _, _⟩) rfl _ (by intro _ h; exact exec_load _ 24 _ rfl ⟨w1.heap.size, 0, none⟩ rfl [.slice A n c] h.cells _ Try.underlying24 rfl (by kernel_rfl)) (wpQuiet_nil ?_); simp only [Act.put, List.setIfInBounds_toArray, List.set_cons_zero, List.set_cons_succ]) | (go_big_quiet_step ((intros; rfl)); refine wpQuiet_nil ?_)))
            refine plan_one _ rfl fun K hK => ?_
            refine step_store_all rfl _ _ _ rfl wu12.heap.size rfl _ _ rzu17 [(.slice Au17 nu17 cu17)] rfl (slice_one _ _ _) rfl (by kernel_rfl) ?_
            intro wu18 ru18 gu18
            have eu18 := eu17.kept gu18 (by simp; omega)
            have ownu18 := own_kept_lt ownu17 gu18 (by omega)
            have bu18 := below_kept bu17 gu18 bu17.size (by rintro q hq; cases hq; omega)
            refine hK _ _ eu18 ?_
            clear hK K
            simp only [Act.put]
            repeat (refine plan_take _ rfl ?_; (first | (refine wpQuiet_valueG (o := ⟨some 30, _, _, _, _, _⟩) rfl _ (by intro _ h; exact exec_load _ 24 _ rfl ⟨w1.heap.size, 0, none⟩ rfl [.slice A n c] h.cells _ Try.underlying24 rfl (by kernel_rfl)) (wpQuiet_nil ?_); simp only [Act.put, List.setIfInBounds_toArray, List.set_cons_zero, List.set_cons_succ]) | (go_big_quiet_step ((intros; rfl)); refine wpQuiet_nil ?_)))
            refine plan_done ?_
            go_wp2_with fail
            go_meet
            exact ⟨_, _, _, _, rfl, rfl, ru18, own_base ownu18 (by omega), szu17, by omega, bu18⟩
        · refine step_at _ rfl fun K hK => ?_
          refine step_alloc rfl _ rfl [.slice none 0 0] (by kernel_rfl) ?_
          intro wu19 ru19 su19 gu19
          have hu19 := grown_below gu19 (Nat.le_refl _) (by simp)
          have zau19 := b0.size
          have eu19 := e0.on hu19
          have ou19 := o0.on hu19
          have bu19 := b0.trans (hu19.mono b0.size)
          have zu19 := hu19.size
          refine hK _ _ eu19 ?_
          clear hK K
          simp only [Act.put, List.setIfInBounds_toArray, List.set_cons_zero, List.set_cons_succ]
          refine plan_one _ rfl fun K hK => ?_
          go_simp
          refine (full_any b _).mono ?_
          rintro e wu20 ⟨rfl, hu20⟩
          have eu20 := eu19.on hu20
          have ou20 := ou19.on hu20
          have rzu20 := ru19.on hu20
          have bu20 := bu19.trans (hu20.mono bu19.size)
          have zu20 := hu20.size
          refine hK _ _ eu20 ?_
          clear hK K
          refine plan_one _ rfl fun K hK => ?_
          go_simp
          refine ((lw_eq HL.out HG1.out HE1.out A n c _ ou20)).mono ?_
          rintro e wu21 ⟨Au21, nu21, cu21, rfl, ownu21, szu21, hu21⟩
          unfold flv
          have eu21 := eu20.on hu21
          have ou21 := ou20.on hu21
          have rzu21 := rzu20.on hu21
          have bu21 := bu20.trans (hu21.mono bu20.size)
          have zu21 := hu21.size
          refine hK _ _ eu21 ?_
          clear hK K
          repeat (refine plan_take _ rfl ?_; (first | (refine wpQuiet_valueG (o := ⟨some 30, _, _, _, _, _⟩) rfl _ (by intro _ h; exact exec_load _ 24 _ rfl ⟨w1.heap.size, 0, none⟩ rfl [.slice A n c] h.cells _ Try.underlying24 rfl (by kernel_rfl)) (wpQuiet_nil ?_); simp only [Act.put, List.setIfInBounds_toArray, List.set_cons_zero, List.set_cons_succ]) | (go_big_quiet_step ((intros; rfl)); refine wpQuiet_nil ?_)))
          refine plan_one _ rfl fun K hK => ?_
          refine step_store_all rfl _ _ _ rfl w4b.drew.heap.size rfl _ _ rzu21 [(.slice Au21 nu21 cu21)] rfl (slice_one _ _ _) rfl (by kernel_rfl) ?_
          intro wu22 ru22 gu22
          have eu22 := eu21.kept gu22 (by simp; omega)
          have ownu22 := own_kept_lt ownu21 gu22 (by omega)
          have bu22 := below_kept bu21 gu22 bu21.size (by rintro q hq; cases hq; omega)
          refine hK _ _ eu22 ?_
          clear hK K
          simp only [Act.put]
          repeat (refine plan_take _ rfl ?_; (first | (refine wpQuiet_valueG (o := ⟨some 30, _, _, _, _, _⟩) rfl _ (by intro _ h; exact exec_load _ 24 _ rfl ⟨w1.heap.size, 0, none⟩ rfl [.slice A n c] h.cells _ Try.underlying24 rfl (by kernel_rfl)) (wpQuiet_nil ?_); simp only [Act.put, List.setIfInBounds_toArray, List.set_cons_zero, List.set_cons_succ]) | (go_big_quiet_step ((intros; rfl)); refine wpQuiet_nil ?_)))
          refine plan_done ?_
          go_wp2_with fail
          go_meet
          exact ⟨_, _, _, _, rfl, rfl, ru22, own_base ownu22 (by omega), szu21, by omega, bu22⟩
      case rest =>
        revert wc
        intro wc7 hcut
        obtain ⟨g_g, Ag, ng, mg, rfl, rfl, g_7, owng7, szg7, ggeg, h7⟩ := hcut
        have okg7 := own_flok owng7 szg7
        have B7 := B6.trans (h7.mono B6.size)
        have okf_7 := okf_6.on h7
        have f_7 := f_6.on h7
        have okold_7 := okold.on h7
        clear okf_6 f_6
        have cf := f_7.cell (j := 0) rfl
        have cg := g_7.cell (j := 0) rfl
        have hng : n = ng := by rw [← okg7.len, HGL.out]
        subst hng
        go_wp2_with fail
        refine (lvalid_eq HGV.out _ _ _ _ okg7).mono ?_
        rintro e w8 ⟨rfl, h8⟩
        have B8 := B7.trans (h8.mono B7.size)
        have okf_8 := okf_7.on h8
        have f_8 := f_7.on h8
        have okold_8 := okold_7.on h8
        have g_8 := g_7.on h8
        have okg_8 := okg7.on h8
        clear okf_7 f_7 okold_7 g_7
        have cf := f_8.cell (j := 0) rfl
        have cg := g_8.cell (j := 0) rfl
        go_wp2_with fail
        have OF := okf_8
        have OO := okold_8
        have OG := okg_8
        have EF := f_8
        have EG := g_8
        have BW := B8
        clear cf cg cf0
        go_loopg [11] n (fun g s11 wr => ∃ i : Nat, Hid (i + g = n) ∧ i ≤ n ∧ s11 = .int .i64 (i : Int) ∧ Below w8.heap.size w8 wr)
        case atStart => exact ⟨0, by show _ = _; omega, by omega, rfl, Below.refl _ _⟩
        case round =>
          obtain ⟨i, HI2, hi, rfl, hB⟩ := hrel
          have cf := (EF.on hB).cell (j := 0) rfl
          have cg := (EG.on hB).cell (j := 0) rfl
          by_cases hlt : i < n
          · obtain ⟨ad, s, rfl, l1, hs, p1⟩ := OF.1.str_at hlt
            obtain ⟨bd, s', rfl, l2, hs', p2⟩ := OO.1.str_at hlt
            obtain ⟨gd, t, rfl, l3, ht, p3⟩ := OG.1.str_at hlt
            rw [hs] at hs'
            cases hs'
            have q1 := (hB.cell (by rw [block_of_add]; exact l1)).trans p1
            have q2 := (hB.cell (by rw [block_of_add]; exact l2)).trans p2
            have q3 := (hB.cell (by rw [block_of_add]; exact l3)).trans p3
            clear p1 p2 p3
            have hz1 : ((i : Int) != k) = true := by simp; omega
            have hst : t = s := by
              have h1 := HOT.out i
              rw [ht, hs] at h1
              exact Option.some.inj h1
            subst hst
            go_wp2_with fail
            go_quiet (fail)
            go_wp2_with fail
            go_roundg (gk - 1)
            case measure => have := HI2.out; omega
            case rel => exact ⟨i + 1, by have := HI2.out; show _ = _; omega, by omega, by go_num, below_drewN hB nq⟩
          · obtain rfl : i = n := by omega
            by_cases hk0 : k < 0
            · go_wp2_with fail
              go_ret
              exact ⟨rfl, BW.trans (hB.mono BW.size)⟩
            · have hk1 : ¬ k < (i : Int) := by omega
              go_wp2_with fail
              go_ret
              exact ⟨rfl, BW.trans (hB.mono BW.size)⟩
end Go.Proofs.Ytlllllcmbnmmkaa
