/-
  FlashCutCompletes's walk. No condition.
-/
import Derived.Test.YtlllllcmbnmmkaaSan8
namespace Go.Proofs.Ytlllllcmbnmmkaa
open Go.RowKit

theorem lw_eq {fs : List ByteArray} {k : Int} {b : ByteArray} {cut : Int} {G : List ByteArray} {E : Int} (hl : fs.length ≤ 1000000) (hG : flWrite fs k b cut = G) (hE : flWErr fs k b = E) (A : Option Addr) (n c : Nat) (W : World) (h : FlOK W A n c fs) :
    Calls Try.prog 15 #[.agg #[.slice A n c], .int .i64 k, .string b, .int .i64 cut] W (GivesLO G E W) := by
  have h0 := lwrite_own A n c fs k b cut W h (by rw [← h.len]; exact hl)
  rw [hG, hE] at h0
  exact h0
theorem same8_true {fs : List ByteArray} (A B : Option Addr) (n c m d : Nat) (W : World) (h : FlOK W A n c fs) (g : FlOK W B m d fs) : Calls Try.prog 17 #[.agg #[.slice A n c], .agg #[.slice B m d]] W (TellsB true W) := by
  have h0 := rsame8_any A B n c m d fs fs W h g
  rw [decide_eq_true rfl] at h0
  exact h0
theorem read_eq {fs : List ByteArray} {k : Int} {s : ByteArray} {E : Int} (hs : flRead fs k = s) (hE : flErr fs k = E) (A : Option Addr) (n c : Nat) (W : World) (h : FlOK W A n c fs) :
    Calls Try.prog 13 #[.agg #[.slice A n c], .int .i64 k] W (TellsSI s E W) := by
  have h0 := lread_any A n c fs k W h
  rw [hs, hE] at h0
  exact h0
theorem valid_eq {fs : List ByteArray} {v : Bool} (hv : flValid fs = v) (A : Option Addr) (n c : Nat) (W : World) (h : FlOK W A n c fs) : Calls Try.prog 19 #[.agg #[.slice A n c]] W (TellsB v W) := by
  have h0 := rvalid8_any A n c fs W h
  rw [hv] at h0
  exact h0
theorem lvalid_eq {fs : List ByteArray} {v : Bool} (hv : flValid fs = v) (A : Option Addr) (n c : Nat) (W : World) (h : FlOK W A n c fs) : Calls Try.prog 18 #[.agg #[.slice A n c]] W (TellsB v W) := by
  have h0 := lvalid_any A n c fs W h
  rw [hv] at h0
  exact h0

set_option maxRecDepth 100000 in
set_option maxHeartbeats 8000000 in
theorem walk85 (A : Option Addr) (n c : Nat) (fs : List ByteArray) (x : Nat) (b : UInt8) (cut : Int) (w : World) (hx : x ≤ 255) (hok : FlOK w A n c fs) :
    Calls Try.prog 7 #[.agg #[.slice A n c, .int .u8 (x : Int), bv b, .int .i64 cut]] w (TellsB true w) := by
  have HSA := fun W => sanity8_any W
  have HLN := Lib.hid hok.len
  cases hv : flValid fs with
  | false =>
    have HV := fun W h => Lib.hid (valid_eq hv A n c W h)
    clear hv
    go_enter Try.func7, Try.ntmps7
    go_wp2_with (first
      | (with_reducible refine wpList_box_row (o := ⟨some 1, _, _, _, _, _⟩) rfl _ _ rfl [.slice A n c, .int .u8 (x : Int), bv b, .int .i64 cut] rfl ?_; intro w1 rin_1 s1 g1; have k1 : Below w.heap.size w w1 := grown_below g1 (Nat.le_refl _) (by simp); have B1 : Below w.heap.size w w1 := k1; have okf_1 := hok.on k1; have crin0 := rin_1.cell (j := 0) rfl; have crin1 := rin_1.cell (j := 1) rfl; have crin2 := rin_1.cell (j := 2) rfl; have crin3 := rin_1.cell (j := 3) rfl)
      | (with_reducible refine wpList_alloc_row (o := ⟨some 3, _, _, _, _, _⟩) rfl _ rfl [.slice none 0 0] (by kernel_rfl) ?_; intro w2 r2 s2 g2)
      | ((with_reducible refine wpList_at ⟨none, .store _ (.tmp 3) _, _, _, _, _⟩ ?_); refine wpList_store_all rfl _ _ _ rfl w1.heap.size rfl _ _ r2 [.slice A n c] rfl (slice_one _ _ _) rfl (by kernel_rfl) ?_; intro w3 f_3 g3; have k3 : Below w1.heap.size w1 w3 := below_kept (grown_below g2 (Nat.le_refl _) (by simp)) g3 (Nat.le_of_lt s2) (by rintro q hq; cases hq; exact Nat.le_refl _); have B3 := B1.trans (k3.mono B1.size); have okf_3 := okf_1.on k3; have rin_3 := rin_1.on k3; clear okf_1 rin_1; have crin0 := rin_3.cell (j := 0) rfl; have crin1 := rin_3.cell (j := 1) rfl; have crin2 := rin_3.cell (j := 2) rfl; have crin3 := rin_3.cell (j := 3) rfl; have cf := f_3.cell (j := 0) rfl; clear r2 g2 g3))
    go_wp2_with fail
    refine (HSA _).mono ?_
    rintro e w4 ⟨rfl, h4⟩
    have B4 := B3.trans (h4.mono B3.size)
    have okf_4 := okf_3.on h4
    have f_4 := f_3.on h4
    clear okf_3 f_3
    have cf := f_4.cell (j := 0) rfl
    go_wp2_with fail
    refine ((HV _ okf_4).out).mono ?_
    rintro e w5 ⟨rfl, h5⟩
    have B5 := B4.trans (h5.mono B4.size)
    have okf_5 := okf_4.on h5
    have f_5 := f_4.on h5
    clear okf_4 f_4
    have cf := f_5.cell (j := 0) rfl
    go_wp2_with fail
    go_ret
    exact ⟨rfl, B5⟩
  | true =>
    have hn128 := flvalid_len hv
    rw [HLN.out] at hn128
    have HV := fun c W h => Lib.hid (valid_eq hv A n c W h)
    by_cases h0 : n = 0
    · subst h0
      replace HV := HV c
      clear hv
      go_enter Try.func7, Try.ntmps7
      go_wp2_with (first
        | (with_reducible refine wpList_box_row (o := ⟨some 1, _, _, _, _, _⟩) rfl _ _ rfl [.slice A 0 c, .int .u8 (x : Int), bv b, .int .i64 cut] rfl ?_; intro w1 rin_1 s1 g1; have k1 : Below w.heap.size w w1 := grown_below g1 (Nat.le_refl _) (by simp); have B1 : Below w.heap.size w w1 := k1; have okf_1 := hok.on k1; have crin0 := rin_1.cell (j := 0) rfl; have crin1 := rin_1.cell (j := 1) rfl; have crin2 := rin_1.cell (j := 2) rfl; have crin3 := rin_1.cell (j := 3) rfl)
        | (with_reducible refine wpList_alloc_row (o := ⟨some 3, _, _, _, _, _⟩) rfl _ rfl [.slice none 0 0] (by kernel_rfl) ?_; intro w2 r2 s2 g2)
        | ((with_reducible refine wpList_at ⟨none, .store _ (.tmp 3) _, _, _, _, _⟩ ?_); refine wpList_store_all rfl _ _ _ rfl w1.heap.size rfl _ _ r2 [.slice A 0 c] rfl (slice_one _ _ _) rfl (by kernel_rfl) ?_; intro w3 f_3 g3; have k3 : Below w1.heap.size w1 w3 := below_kept (grown_below g2 (Nat.le_refl _) (by simp)) g3 (Nat.le_of_lt s2) (by rintro q hq; cases hq; exact Nat.le_refl _); have B3 := B1.trans (k3.mono B1.size); have okf_3 := okf_1.on k3; have rin_3 := rin_1.on k3; clear okf_1 rin_1; have crin0 := rin_3.cell (j := 0) rfl; have crin1 := rin_3.cell (j := 1) rfl; have crin2 := rin_3.cell (j := 2) rfl; have crin3 := rin_3.cell (j := 3) rfl; have cf := f_3.cell (j := 0) rfl; clear r2 g2 g3))
      go_wp2_with fail
      refine (HSA _).mono ?_
      rintro e w4 ⟨rfl, h4⟩
      have B4 := B3.trans (h4.mono B3.size)
      have okf_4 := okf_3.on h4
      have f_4 := f_3.on h4
      clear okf_3 f_3
      have cf := f_4.cell (j := 0) rfl
      go_wp2_with fail
      refine ((HV _ okf_4).out).mono ?_
      rintro e w5 ⟨rfl, h5⟩
      have B5 := B4.trans (h5.mono B4.size)
      have okf_5 := okf_4.on h5
      have f_5 := f_4.on h5
      clear okf_4 f_4
      have cf := f_5.cell (j := 0) rfl
      go_wp2_with fail
      go_ret
      exact ⟨rfl, B5⟩
    · replace HV := HV c
      obtain ⟨j, hj, hjn⟩ : ∃ j : Nat, (x : Int) % (n : Int) = (j : Int) ∧ j < n := ⟨x % n, by omega, Nat.mod_lt _ (by omega)⟩
      have HI := flIn_nat (fs := fs) (j := j) (by rw [HLN.out]; exact hjn)
      have HL : Hid (fs.length ≤ 1000000) := Lib.hid (by rw [HLN.out]; omega)
      obtain ⟨G1, hG1⟩ : ∃ G, flWrite fs (j : Int) (fullS b) (-1) = G := ⟨_, rfl⟩
      obtain ⟨G2, hG2⟩ : ∃ G, flWrite fs (j : Int) (fullS b) cut = G := ⟨_, rfl⟩
      have HL2 : Hid (G2.length ≤ 1000000) := Lib.hid (by rw [← hG2, flWrite_length]; exact HL.out)
      have HG1 := Lib.hid hG1
      have HG2 := Lib.hid hG2
      have HG3 : Hid (flWrite G2 (j : Int) (fullS b) (-1) = G1) := Lib.hid (by rw [← hG2, ← hG1]; exact write_again (by rw [HLN.out]; exact hjn) (fullS_size b) cut)
      have HG4 : Hid (flWrite G2 (j : Int) (fullS b) cut = G2) := Lib.hid (by rw [← hG2]; exact write_same (by rw [HLN.out]; exact hjn) (fullS_size b) cut)
      have HE1 : Hid (flWErr fs (j : Int) (fullS b) = 0) := Lib.hid (flWErr_yes HI (fullS_size b))
      have HE2 : Hid (flWErr G2 (j : Int) (fullS b) = 0) := Lib.hid (flWErr_yes (flIn_nat (by rw [← hG2, flWrite_length, HLN.out]; exact hjn)) (fullS_size b))
      clear hv hG1 hG2 HI
      go_enter Try.func7, Try.ntmps7
      go_wp2_with (first
        | (with_reducible refine wpList_box_row (o := ⟨some 1, _, _, _, _, _⟩) rfl _ _ rfl [.slice A n c, .int .u8 (x : Int), bv b, .int .i64 cut] rfl ?_; intro w1 rin_1 s1 g1; have k1 : Below w.heap.size w w1 := grown_below g1 (Nat.le_refl _) (by simp); have B1 : Below w.heap.size w w1 := k1; have okf_1 := hok.on k1; have crin0 := rin_1.cell (j := 0) rfl; have crin1 := rin_1.cell (j := 1) rfl; have crin2 := rin_1.cell (j := 2) rfl; have crin3 := rin_1.cell (j := 3) rfl)
        | (with_reducible refine wpList_alloc_row (o := ⟨some 3, _, _, _, _, _⟩) rfl _ rfl [.slice none 0 0] (by kernel_rfl) ?_; intro w2 r2 s2 g2)
        | ((with_reducible refine wpList_at ⟨none, .store _ (.tmp 3) _, _, _, _, _⟩ ?_); refine wpList_store_all rfl _ _ _ rfl w1.heap.size rfl _ _ r2 [.slice A n c] rfl (slice_one _ _ _) rfl (by kernel_rfl) ?_; intro w3 f_3 g3; have k3 : Below w1.heap.size w1 w3 := below_kept (grown_below g2 (Nat.le_refl _) (by simp)) g3 (Nat.le_of_lt s2) (by rintro q hq; cases hq; exact Nat.le_refl _); have B3 := B1.trans (k3.mono B1.size); have okf_3 := okf_1.on k3; have rin_3 := rin_1.on k3; clear okf_1 rin_1; have crin0 := rin_3.cell (j := 0) rfl; have crin1 := rin_3.cell (j := 1) rfl; have crin2 := rin_3.cell (j := 2) rfl; have crin3 := rin_3.cell (j := 3) rfl; have cf := f_3.cell (j := 0) rfl; clear r2 g2 g3))
      go_wp2_with fail
      refine (HSA _).mono ?_
      rintro e w4 ⟨rfl, h4⟩
      have B4 := B3.trans (h4.mono B3.size)
      have okf_4 := okf_3.on h4
      have f_4 := f_3.on h4
      clear okf_3 f_3
      have cf := f_4.cell (j := 0) rfl
      go_wp2_with fail
      refine ((HV _ okf_4).out).mono ?_
      rintro e w5 ⟨rfl, h5⟩
      have B5 := B4.trans (h5.mono B4.size)
      have okf_5 := okf_4.on h5
      have f_5 := f_4.on h5
      clear okf_4 f_4
      have cf := f_5.cell (j := 0) rfl
      go_wp2_with fail
      simp only [hj]
      try simp only [Act.put, List.setIfInBounds_toArray, List.set_cons_zero, List.set_cons_succ]
      go_cut [9, 10] (fun s1 s2 wc6 => ∃ g A n c, s1 = .pointer (some ⟨g, 0, none⟩) ∧ s2 = .int .i64 (0) ∧ Row wc6 g 24 [.slice A n c] ∧ wc6.ownsRow w5.heap.size 9 1 (.slice A n c) n (svs G1) ∧ (∀ s ∈ G1, s.size ≤ 9223372036854775807) ∧ w5.heap.size ≤ g ∧ Below w5.heap.size w5 wc6)
      case first =>
        have zd : w5.drew.heap.size = w5.heap.size := rfl
        have zl := f_5.lt
        have e0 := f_5.drew
        have o0 : FlOK w5.drew A n c fs := okf_5
        have b0 : Below w5.heap.size w5 w5.drew := (Below.refl _ _).drew
        refine wp_region_plan (fun w' => Row w' (w1.heap.size) 24 ([.slice A n c])) (.take 0 <| .take 1 <| .take 2 <| .two 3 (.two 4 (.take 5 <| .take 6 <| .take 7 <| .one 8 <| .one 9 <| .take 10 <| .done) 8 (.one 4 <| .take 5 <| .take 6 <| .take 7 <| .one 9 <| .take 10 <| .done)) 8 (.one 3 <| .one 4 <| .take 5 <| .take 6 <| .take 7 <| .one 9 <| .take 10 <| .done)) (by kernel_rfl) (by kernel_rfl) (by kernel_rfl) (fun _ _ _ _ _ h => h) e0 ?_
        repeat (refine plan_take _ rfl ?_; (first | (refine wpQuiet_valueG (o := ⟨some 43, _, _, _, _, _⟩) rfl _ (by intro _ h; exact exec_load _ 24 _ rfl ⟨w1.heap.size, 0, none⟩ rfl [.slice A n c] h.cells _ Try.underlying24 rfl (by kernel_rfl)) (wpQuiet_nil ?_); simp only [Act.put, List.setIfInBounds_toArray, List.set_cons_zero, List.set_cons_succ]) | (go_big_quiet_step ((intros; rfl)); refine wpQuiet_nil ?_)))
        refine plan_two ?_ ?_
        · refine step_at _ rfl fun K hK => ?_
          go_simp
          refine (full_any b _).mono ?_
          rintro e wu1 ⟨rfl, hu1⟩
          have eu1 := e0.on hu1
          have ou1 := o0.on hu1
          have bu1 := b0.trans (hu1.mono b0.size)
          have zu1 := hu1.size
          refine hK _ _ eu1 ?_
          clear hK K
          refine plan_two ?_ ?_
          · refine step_at _ rfl fun K hK => ?_
            go_simp
            refine ((lw_eq HL.out HG1.out HE1.out A n c _ ou1)).mono ?_
            rintro e wu2 ⟨Au2, nu2, cu2, rfl, ownu2, szu2, hu2⟩
            unfold flv
            have eu2 := eu1.on hu2
            have ou2 := ou1.on hu2
            have bu2 := bu1.trans (hu2.mono bu1.size)
            have zu2 := hu2.size
            refine hK _ _ eu2 ?_
            clear hK K
            repeat (refine plan_take _ rfl ?_; (first | (refine wpQuiet_valueG (o := ⟨some 43, _, _, _, _, _⟩) rfl _ (by intro _ h; exact exec_load _ 24 _ rfl ⟨w1.heap.size, 0, none⟩ rfl [.slice A n c] h.cells _ Try.underlying24 rfl (by kernel_rfl)) (wpQuiet_nil ?_); simp only [Act.put, List.setIfInBounds_toArray, List.set_cons_zero, List.set_cons_succ]) | (go_big_quiet_step ((intros; rfl)); refine wpQuiet_nil ?_)))
            refine plan_one _ rfl fun K hK => ?_
            refine step_alloc rfl _ rfl [.slice none 0 0] (by kernel_rfl) ?_
            intro wu3 ru3 su3 gu3
            have hu3 := grown_below gu3 (Nat.le_refl _) (by simp)
            have zau3 := bu2.size
            have eu3 := eu2.on hu3
            have ou3 := ou2.on hu3
            have ownu3 := own_below ownu2 hu3
            have bu3 := bu2.trans (hu3.mono bu2.size)
            have zu3 := hu3.size
            refine hK _ _ eu3 ?_
            clear hK K
            simp only [Act.put, List.setIfInBounds_toArray, List.set_cons_zero, List.set_cons_succ]
            refine plan_one _ rfl fun K hK => ?_
            refine step_store_all rfl _ _ _ rfl wu2.heap.size rfl _ _ ru3 [(.slice Au2 nu2 cu2)] rfl (slice_one _ _ _) rfl (by kernel_rfl) ?_
            intro wu4 ru4 gu4
            have eu4 := eu3.kept gu4 (by simp; omega)
            have ownu4 := own_below ownu2 (below_kept (grown_below gu3 (Nat.le_refl _) (by simp)) gu4 (Nat.le_of_lt su3) (by rintro q hq; cases hq; exact Nat.le_refl _))
            have bu4 := below_kept bu3 gu4 bu3.size (by rintro q hq; cases hq; omega)
            refine hK _ _ eu4 ?_
            clear hK K
            simp only [Act.put]
            repeat (refine plan_take _ rfl ?_; (first | (refine wpQuiet_valueG (o := ⟨some 43, _, _, _, _, _⟩) rfl _ (by intro _ h; exact exec_load _ 24 _ rfl ⟨w1.heap.size, 0, none⟩ rfl [.slice A n c] h.cells _ Try.underlying24 rfl (by kernel_rfl)) (wpQuiet_nil ?_); simp only [Act.put, List.setIfInBounds_toArray, List.set_cons_zero, List.set_cons_succ]) | (go_big_quiet_step ((intros; rfl)); refine wpQuiet_nil ?_)))
            refine plan_done ?_
            go_wp2_with fail
            go_meet
            exact ⟨_, _, _, _, rfl, rfl, ru4, own_base ownu4 (by omega), szu2, by omega, bu4⟩
          · refine step_at _ rfl fun K hK => ?_
            refine step_alloc rfl _ rfl [.slice none 0 0] (by kernel_rfl) ?_
            intro wu5 ru5 su5 gu5
            have hu5 := grown_below gu5 (Nat.le_refl _) (by simp)
            have zau5 := bu1.size
            have eu5 := eu1.on hu5
            have ou5 := ou1.on hu5
            have bu5 := bu1.trans (hu5.mono bu1.size)
            have zu5 := hu5.size
            refine hK _ _ eu5 ?_
            clear hK K
            simp only [Act.put, List.setIfInBounds_toArray, List.set_cons_zero, List.set_cons_succ]
            refine plan_one _ rfl fun K hK => ?_
            go_simp
            refine ((lw_eq HL.out HG1.out HE1.out A n c _ ou5)).mono ?_
            rintro e wu6 ⟨Au6, nu6, cu6, rfl, ownu6, szu6, hu6⟩
            unfold flv
            have eu6 := eu5.on hu6
            have ou6 := ou5.on hu6
            have rzu6 := ru5.on hu6
            have bu6 := bu5.trans (hu6.mono bu5.size)
            have zu6 := hu6.size
            refine hK _ _ eu6 ?_
            clear hK K
            repeat (refine plan_take _ rfl ?_; (first | (refine wpQuiet_valueG (o := ⟨some 43, _, _, _, _, _⟩) rfl _ (by intro _ h; exact exec_load _ 24 _ rfl ⟨w1.heap.size, 0, none⟩ rfl [.slice A n c] h.cells _ Try.underlying24 rfl (by kernel_rfl)) (wpQuiet_nil ?_); simp only [Act.put, List.setIfInBounds_toArray, List.set_cons_zero, List.set_cons_succ]) | (go_big_quiet_step ((intros; rfl)); refine wpQuiet_nil ?_)))
            refine plan_one _ rfl fun K hK => ?_
            refine step_store_all rfl _ _ _ rfl wu1.heap.size rfl _ _ rzu6 [(.slice Au6 nu6 cu6)] rfl (slice_one _ _ _) rfl (by kernel_rfl) ?_
            intro wu7 ru7 gu7
            have eu7 := eu6.kept gu7 (by simp; omega)
            have ownu7 := own_kept_lt ownu6 gu7 (by omega)
            have bu7 := below_kept bu6 gu7 bu6.size (by rintro q hq; cases hq; omega)
            refine hK _ _ eu7 ?_
            clear hK K
            simp only [Act.put]
            repeat (refine plan_take _ rfl ?_; (first | (refine wpQuiet_valueG (o := ⟨some 43, _, _, _, _, _⟩) rfl _ (by intro _ h; exact exec_load _ 24 _ rfl ⟨w1.heap.size, 0, none⟩ rfl [.slice A n c] h.cells _ Try.underlying24 rfl (by kernel_rfl)) (wpQuiet_nil ?_); simp only [Act.put, List.setIfInBounds_toArray, List.set_cons_zero, List.set_cons_succ]) | (go_big_quiet_step ((intros; rfl)); refine wpQuiet_nil ?_)))
            refine plan_done ?_
            go_wp2_with fail
            go_meet
            exact ⟨_, _, _, _, rfl, rfl, ru7, own_base ownu7 (by omega), szu6, by omega, bu7⟩
        · refine step_at _ rfl fun K hK => ?_
          refine step_alloc rfl _ rfl [.slice none 0 0] (by kernel_rfl) ?_
          intro wu8 ru8 su8 gu8
          have hu8 := grown_below gu8 (Nat.le_refl _) (by simp)
          have zau8 := b0.size
          have eu8 := e0.on hu8
          have ou8 := o0.on hu8
          have bu8 := b0.trans (hu8.mono b0.size)
          have zu8 := hu8.size
          refine hK _ _ eu8 ?_
          clear hK K
          simp only [Act.put, List.setIfInBounds_toArray, List.set_cons_zero, List.set_cons_succ]
          refine plan_one _ rfl fun K hK => ?_
          go_simp
          refine (full_any b _).mono ?_
          rintro e wu9 ⟨rfl, hu9⟩
          have eu9 := eu8.on hu9
          have ou9 := ou8.on hu9
          have rzu9 := ru8.on hu9
          have bu9 := bu8.trans (hu9.mono bu8.size)
          have zu9 := hu9.size
          refine hK _ _ eu9 ?_
          clear hK K
          refine plan_one _ rfl fun K hK => ?_
          go_simp
          refine ((lw_eq HL.out HG1.out HE1.out A n c _ ou9)).mono ?_
          rintro e wu10 ⟨Au10, nu10, cu10, rfl, ownu10, szu10, hu10⟩
          unfold flv
          have eu10 := eu9.on hu10
          have ou10 := ou9.on hu10
          have rzu10 := rzu9.on hu10
          have bu10 := bu9.trans (hu10.mono bu9.size)
          have zu10 := hu10.size
          refine hK _ _ eu10 ?_
          clear hK K
          repeat (refine plan_take _ rfl ?_; (first | (refine wpQuiet_valueG (o := ⟨some 43, _, _, _, _, _⟩) rfl _ (by intro _ h; exact exec_load _ 24 _ rfl ⟨w1.heap.size, 0, none⟩ rfl [.slice A n c] h.cells _ Try.underlying24 rfl (by kernel_rfl)) (wpQuiet_nil ?_); simp only [Act.put, List.setIfInBounds_toArray, List.set_cons_zero, List.set_cons_succ]) | (go_big_quiet_step ((intros; rfl)); refine wpQuiet_nil ?_)))
          refine plan_one _ rfl fun K hK => ?_
          refine step_store_all rfl _ _ _ rfl w5.drew.heap.size rfl _ _ rzu10 [(.slice Au10 nu10 cu10)] rfl (slice_one _ _ _) rfl (by kernel_rfl) ?_
          intro wu11 ru11 gu11
          have eu11 := eu10.kept gu11 (by simp; omega)
          have ownu11 := own_kept_lt ownu10 gu11 (by omega)
          have bu11 := below_kept bu10 gu11 bu10.size (by rintro q hq; cases hq; omega)
          refine hK _ _ eu11 ?_
          clear hK K
          simp only [Act.put]
          repeat (refine plan_take _ rfl ?_; (first | (refine wpQuiet_valueG (o := ⟨some 43, _, _, _, _, _⟩) rfl _ (by intro _ h; exact exec_load _ 24 _ rfl ⟨w1.heap.size, 0, none⟩ rfl [.slice A n c] h.cells _ Try.underlying24 rfl (by kernel_rfl)) (wpQuiet_nil ?_); simp only [Act.put, List.setIfInBounds_toArray, List.set_cons_zero, List.set_cons_succ]) | (go_big_quiet_step ((intros; rfl)); refine wpQuiet_nil ?_)))
          refine plan_done ?_
          go_wp2_with fail
          go_meet
          exact ⟨_, _, _, _, rfl, rfl, ru11, own_base ownu11 (by omega), szu10, by omega, bu11⟩
      case rest =>
        revert wc
        intro wc6 hcut
        obtain ⟨g_wh, Awh, nwh, mwh, rfl, rfl, wh_6, ownwh6, szwh6, ggewh, h6⟩ := hcut
        have okwh6 := own_flok ownwh6 szwh6
        have B6 := B5.trans (h6.mono B5.size)
        have okf_6 := okf_5.on h6
        have f_6 := f_5.on h6
        clear okf_5 f_5
        have cf := f_6.cell (j := 0) rfl
        have cwh := wh_6.cell (j := 0) rfl
        go_wp2_with fail
        try simp only [Act.put, List.setIfInBounds_toArray, List.set_cons_zero, List.set_cons_succ]
        go_cut [11, 12] (fun s1 s2 wc7 => ∃ g A n c, s1 = .pointer (some ⟨g, 0, none⟩) ∧ s2 = .int .i64 (0) ∧ Row wc7 g 24 [.slice A n c] ∧ wc7.ownsRow wc6.heap.size 9 1 (.slice A n c) n (svs G2) ∧ (∀ s ∈ G2, s.size ≤ 9223372036854775807) ∧ wc6.heap.size ≤ g ∧ Below wc6.heap.size wc6 wc7)
        case first =>
          have zd : wc6.drew.heap.size = wc6.heap.size := rfl
          have zl := f_6.lt
          have e0 := f_6.drew
          have o0 : FlOK wc6.drew A n c fs := okf_6
          have b0 : Below wc6.heap.size wc6 wc6.drew := (Below.refl _ _).drew
          refine wp_region_plan (fun w' => Row w' (w1.heap.size) 24 ([.slice A n c])) (.take 0 <| .take 1 <| .take 2 <| .take 4 <| .two 3 (.two 5 (.take 6 <| .take 7 <| .take 8 <| .one 9 <| .one 10 <| .take 11 <| .done) 9 (.one 5 <| .take 6 <| .take 7 <| .take 8 <| .one 10 <| .take 11 <| .done)) 9 (.one 3 <| .one 5 <| .take 6 <| .take 7 <| .take 8 <| .one 10 <| .take 11 <| .done)) (by kernel_rfl) (by kernel_rfl) (by kernel_rfl) (fun _ _ _ _ _ h => h) e0 ?_
          repeat (refine plan_take _ rfl ?_; (first | (refine wpQuiet_valueG (o := ⟨some 51, _, _, _, _, _⟩) rfl _ (by intro _ h; exact exec_load _ 24 _ rfl ⟨w1.heap.size, 0, none⟩ rfl [.slice A n c] h.cells _ Try.underlying24 rfl (by kernel_rfl)) (wpQuiet_nil ?_); simp only [Act.put, List.setIfInBounds_toArray, List.set_cons_zero, List.set_cons_succ]) | (go_big_quiet_step ((intros; rfl)); refine wpQuiet_nil ?_)))
          refine plan_two ?_ ?_
          · refine step_at _ rfl fun K hK => ?_
            go_simp
            refine (full_any b _).mono ?_
            rintro e wu12 ⟨rfl, hu12⟩
            have eu12 := e0.on hu12
            have ou12 := o0.on hu12
            have bu12 := b0.trans (hu12.mono b0.size)
            have zu12 := hu12.size
            refine hK _ _ eu12 ?_
            clear hK K
            refine plan_two ?_ ?_
            · refine step_at _ rfl fun K hK => ?_
              go_simp
              refine ((lw_eq HL.out HG2.out HE1.out A n c _ ou12)).mono ?_
              rintro e wu13 ⟨Au13, nu13, cu13, rfl, ownu13, szu13, hu13⟩
              unfold flv
              have eu13 := eu12.on hu13
              have ou13 := ou12.on hu13
              have bu13 := bu12.trans (hu13.mono bu12.size)
              have zu13 := hu13.size
              refine hK _ _ eu13 ?_
              clear hK K
              repeat (refine plan_take _ rfl ?_; (first | (refine wpQuiet_valueG (o := ⟨some 51, _, _, _, _, _⟩) rfl _ (by intro _ h; exact exec_load _ 24 _ rfl ⟨w1.heap.size, 0, none⟩ rfl [.slice A n c] h.cells _ Try.underlying24 rfl (by kernel_rfl)) (wpQuiet_nil ?_); simp only [Act.put, List.setIfInBounds_toArray, List.set_cons_zero, List.set_cons_succ]) | (go_big_quiet_step ((intros; rfl)); refine wpQuiet_nil ?_)))
              refine plan_one _ rfl fun K hK => ?_
              refine step_alloc rfl _ rfl [.slice none 0 0] (by kernel_rfl) ?_
              intro wu14 ru14 su14 gu14
              have hu14 := grown_below gu14 (Nat.le_refl _) (by simp)
              have zau14 := bu13.size
              have eu14 := eu13.on hu14
              have ou14 := ou13.on hu14
              have ownu14 := own_below ownu13 hu14
              have bu14 := bu13.trans (hu14.mono bu13.size)
              have zu14 := hu14.size
              refine hK _ _ eu14 ?_
              clear hK K
              simp only [Act.put, List.setIfInBounds_toArray, List.set_cons_zero, List.set_cons_succ]
              refine plan_one _ rfl fun K hK => ?_
              refine step_store_all rfl _ _ _ rfl wu13.heap.size rfl _ _ ru14 [(.slice Au13 nu13 cu13)] rfl (slice_one _ _ _) rfl (by kernel_rfl) ?_
              intro wu15 ru15 gu15
              have eu15 := eu14.kept gu15 (by simp; omega)
              have ownu15 := own_below ownu13 (below_kept (grown_below gu14 (Nat.le_refl _) (by simp)) gu15 (Nat.le_of_lt su14) (by rintro q hq; cases hq; exact Nat.le_refl _))
              have bu15 := below_kept bu14 gu15 bu14.size (by rintro q hq; cases hq; omega)
              refine hK _ _ eu15 ?_
              clear hK K
              simp only [Act.put]
              repeat (refine plan_take _ rfl ?_; (first | (refine wpQuiet_valueG (o := ⟨some 51, _, _, _, _, _⟩) rfl _ (by intro _ h; exact exec_load _ 24 _ rfl ⟨w1.heap.size, 0, none⟩ rfl [.slice A n c] h.cells _ Try.underlying24 rfl (by kernel_rfl)) (wpQuiet_nil ?_); simp only [Act.put, List.setIfInBounds_toArray, List.set_cons_zero, List.set_cons_succ]) | (go_big_quiet_step ((intros; rfl)); refine wpQuiet_nil ?_)))
              refine plan_done ?_
              go_wp2_with fail
              go_meet
              exact ⟨_, _, _, _, rfl, rfl, ru15, own_base ownu15 (by omega), szu13, by omega, bu15⟩
            · refine step_at _ rfl fun K hK => ?_
              refine step_alloc rfl _ rfl [.slice none 0 0] (by kernel_rfl) ?_
              intro wu16 ru16 su16 gu16
              have hu16 := grown_below gu16 (Nat.le_refl _) (by simp)
              have zau16 := bu12.size
              have eu16 := eu12.on hu16
              have ou16 := ou12.on hu16
              have bu16 := bu12.trans (hu16.mono bu12.size)
              have zu16 := hu16.size
              refine hK _ _ eu16 ?_
              clear hK K
              simp only [Act.put, List.setIfInBounds_toArray, List.set_cons_zero, List.set_cons_succ]
              refine plan_one _ rfl fun K hK => ?_
              go_simp
              refine ((lw_eq HL.out HG2.out HE1.out A n c _ ou16)).mono ?_
              rintro e wu17 ⟨Au17, nu17, cu17, rfl, ownu17, szu17, hu17⟩
              unfold flv
              have eu17 := eu16.on hu17
              have ou17 := ou16.on hu17
              have rzu17 := ru16.on hu17
              have bu17 := bu16.trans (hu17.mono bu16.size)
              have zu17 := hu17.size
              refine hK _ _ eu17 ?_
              clear hK K
              repeat (refine plan_take _ rfl ?_; (first | (refine wpQuiet_valueG (o := ⟨some 51, _, _, _, _, _⟩) rfl _ (by intro _ h; exact exec_load _ 24 _ rfl ⟨w1.heap.size, 0, none⟩ rfl [.slice A n c] h.cells _ Try.underlying24 rfl (by kernel_rfl)) (wpQuiet_nil ?_); simp only [Act.put, List.setIfInBounds_toArray, List.set_cons_zero, List.set_cons_succ]) | (go_big_quiet_step ((intros; rfl)); refine wpQuiet_nil ?_)))
              refine plan_one _ rfl fun K hK => ?_
              refine step_store_all rfl _ _ _ rfl wu12.heap.size rfl _ _ rzu17 [(.slice Au17 nu17 cu17)] rfl (slice_one _ _ _) rfl (by kernel_rfl) ?_
              intro wu18 ru18 gu18
              have eu18 := eu17.kept gu18 (by simp; omega)
              have ownu18 := own_kept_lt ownu17 gu18 (by omega)
              have bu18 := below_kept bu17 gu18 bu17.size (by rintro q hq; cases hq; omega)
              refine hK _ _ eu18 ?_
              clear hK K
              simp only [Act.put]
              repeat (refine plan_take _ rfl ?_; (first | (refine wpQuiet_valueG (o := ⟨some 51, _, _, _, _, _⟩) rfl _ (by intro _ h; exact exec_load _ 24 _ rfl ⟨w1.heap.size, 0, none⟩ rfl [.slice A n c] h.cells _ Try.underlying24 rfl (by kernel_rfl)) (wpQuiet_nil ?_); simp only [Act.put, List.setIfInBounds_toArray, List.set_cons_zero, List.set_cons_succ]) | (go_big_quiet_step ((intros; rfl)); refine wpQuiet_nil ?_)))
              refine plan_done ?_
              go_wp2_with fail
              go_meet
              exact ⟨_, _, _, _, rfl, rfl, ru18, own_base ownu18 (by omega), szu17, by omega, bu18⟩
          · refine step_at _ rfl fun K hK => ?_
            refine step_alloc rfl _ rfl [.slice none 0 0] (by kernel_rfl) ?_
            intro wu19 ru19 su19 gu19
            have hu19 := grown_below gu19 (Nat.le_refl _) (by simp)
            have zau19 := b0.size
            have eu19 := e0.on hu19
            have ou19 := o0.on hu19
            have bu19 := b0.trans (hu19.mono b0.size)
            have zu19 := hu19.size
            refine hK _ _ eu19 ?_
            clear hK K
            simp only [Act.put, List.setIfInBounds_toArray, List.set_cons_zero, List.set_cons_succ]
            refine plan_one _ rfl fun K hK => ?_
            go_simp
            refine (full_any b _).mono ?_
            rintro e wu20 ⟨rfl, hu20⟩
            have eu20 := eu19.on hu20
            have ou20 := ou19.on hu20
            have rzu20 := ru19.on hu20
            have bu20 := bu19.trans (hu20.mono bu19.size)
            have zu20 := hu20.size
            refine hK _ _ eu20 ?_
            clear hK K
            refine plan_one _ rfl fun K hK => ?_
            go_simp
            refine ((lw_eq HL.out HG2.out HE1.out A n c _ ou20)).mono ?_
            rintro e wu21 ⟨Au21, nu21, cu21, rfl, ownu21, szu21, hu21⟩
            unfold flv
            have eu21 := eu20.on hu21
            have ou21 := ou20.on hu21
            have rzu21 := rzu20.on hu21
            have bu21 := bu20.trans (hu21.mono bu20.size)
            have zu21 := hu21.size
            refine hK _ _ eu21 ?_
            clear hK K
            repeat (refine plan_take _ rfl ?_; (first | (refine wpQuiet_valueG (o := ⟨some 51, _, _, _, _, _⟩) rfl _ (by intro _ h; exact exec_load _ 24 _ rfl ⟨w1.heap.size, 0, none⟩ rfl [.slice A n c] h.cells _ Try.underlying24 rfl (by kernel_rfl)) (wpQuiet_nil ?_); simp only [Act.put, List.setIfInBounds_toArray, List.set_cons_zero, List.set_cons_succ]) | (go_big_quiet_step ((intros; rfl)); refine wpQuiet_nil ?_)))
            refine plan_one _ rfl fun K hK => ?_
            refine step_store_all rfl _ _ _ rfl wc6.drew.heap.size rfl _ _ rzu21 [(.slice Au21 nu21 cu21)] rfl (slice_one _ _ _) rfl (by kernel_rfl) ?_
            intro wu22 ru22 gu22
            have eu22 := eu21.kept gu22 (by simp; omega)
            have ownu22 := own_kept_lt ownu21 gu22 (by omega)
            have bu22 := below_kept bu21 gu22 bu21.size (by rintro q hq; cases hq; omega)
            refine hK _ _ eu22 ?_
            clear hK K
            simp only [Act.put]
            repeat (refine plan_take _ rfl ?_; (first | (refine wpQuiet_valueG (o := ⟨some 51, _, _, _, _, _⟩) rfl _ (by intro _ h; exact exec_load _ 24 _ rfl ⟨w1.heap.size, 0, none⟩ rfl [.slice A n c] h.cells _ Try.underlying24 rfl (by kernel_rfl)) (wpQuiet_nil ?_); simp only [Act.put, List.setIfInBounds_toArray, List.set_cons_zero, List.set_cons_succ]) | (go_big_quiet_step ((intros; rfl)); refine wpQuiet_nil ?_)))
            refine plan_done ?_
            go_wp2_with fail
            go_meet
            exact ⟨_, _, _, _, rfl, rfl, ru22, own_base ownu22 (by omega), szu21, by omega, bu22⟩
        case rest =>
          revert wc
          intro wc7 hcut
          obtain ⟨g_to, Ato, nto, mto, rfl, rfl, to_7, ownto7, szto7, ggeto, h7⟩ := hcut
          have okto7 := own_flok ownto7 szto7
          have B7 := B6.trans (h7.mono B6.size)
          have okf_7 := okf_6.on h7
          have f_7 := f_6.on h7
          have wh_7 := wh_6.on h7
          have okwh_7 := okwh6.on h7
          clear okf_6 f_6 wh_6
          have cf := f_7.cell (j := 0) rfl
          have cwh := wh_7.cell (j := 0) rfl
          have cto := to_7.cell (j := 0) rfl
          go_wp2_with fail
          try simp only [Act.put, List.setIfInBounds_toArray, List.set_cons_zero, List.set_cons_succ]
          go_cut [13, 14] (fun s1 s2 wc8 => ∃ g A n c, s1 = .pointer (some ⟨g, 0, none⟩) ∧ s2 = .int .i64 (0) ∧ Row wc8 g 24 [.slice A n c] ∧ wc8.ownsRow wc7.heap.size 9 1 (.slice A n c) n (svs G1) ∧ (∀ s ∈ G1, s.size ≤ 9223372036854775807) ∧ wc7.heap.size ≤ g ∧ Below wc7.heap.size wc7 wc8)
          case first =>
            have zd : wc7.drew.heap.size = wc7.heap.size := rfl
            have zl := to_7.lt
            have e0 := to_7.drew
            have o0 : FlOK wc7.drew Ato nto mto G2 := okto7
            have b0 : Below wc7.heap.size wc7 wc7.drew := (Below.refl _ _).drew
            refine wp_region_plan (fun w' => Row w' (g_to) 24 ([.slice Ato nto mto])) (.take 0 <| .take 1 <| .take 2 <| .two 3 (.two 4 (.take 5 <| .take 6 <| .take 7 <| .one 8 <| .one 9 <| .take 10 <| .done) 8 (.one 4 <| .take 5 <| .take 6 <| .take 7 <| .one 9 <| .take 10 <| .done)) 8 (.one 3 <| .one 4 <| .take 5 <| .take 6 <| .take 7 <| .one 9 <| .take 10 <| .done)) (by kernel_rfl) (by kernel_rfl) (by kernel_rfl) (fun _ _ _ _ _ h => h) e0 ?_
            repeat (refine plan_take _ rfl ?_; (first | (refine wpQuiet_valueG (o := ⟨some 60, _, _, _, _, _⟩) rfl _ (by intro _ h; exact exec_load _ 24 _ rfl ⟨g_to, 0, none⟩ rfl [.slice Ato nto mto] h.cells _ Try.underlying24 rfl (by kernel_rfl)) (wpQuiet_nil ?_); simp only [Act.put, List.setIfInBounds_toArray, List.set_cons_zero, List.set_cons_succ]) | (go_big_quiet_step ((intros; rfl)); refine wpQuiet_nil ?_)))
            refine plan_two ?_ ?_
            · refine step_at _ rfl fun K hK => ?_
              go_simp
              refine (full_any b _).mono ?_
              rintro e wu23 ⟨rfl, hu23⟩
              have eu23 := e0.on hu23
              have ou23 := o0.on hu23
              have bu23 := b0.trans (hu23.mono b0.size)
              have zu23 := hu23.size
              refine hK _ _ eu23 ?_
              clear hK K
              refine plan_two ?_ ?_
              · refine step_at _ rfl fun K hK => ?_
                go_simp
                refine ((lw_eq HL2.out HG3.out HE2.out Ato nto mto _ ou23)).mono ?_
                rintro e wu24 ⟨Au24, nu24, cu24, rfl, ownu24, szu24, hu24⟩
                unfold flv
                have eu24 := eu23.on hu24
                have ou24 := ou23.on hu24
                have bu24 := bu23.trans (hu24.mono bu23.size)
                have zu24 := hu24.size
                refine hK _ _ eu24 ?_
                clear hK K
                repeat (refine plan_take _ rfl ?_; (first | (refine wpQuiet_valueG (o := ⟨some 60, _, _, _, _, _⟩) rfl _ (by intro _ h; exact exec_load _ 24 _ rfl ⟨g_to, 0, none⟩ rfl [.slice Ato nto mto] h.cells _ Try.underlying24 rfl (by kernel_rfl)) (wpQuiet_nil ?_); simp only [Act.put, List.setIfInBounds_toArray, List.set_cons_zero, List.set_cons_succ]) | (go_big_quiet_step ((intros; rfl)); refine wpQuiet_nil ?_)))
                refine plan_one _ rfl fun K hK => ?_
                refine step_alloc rfl _ rfl [.slice none 0 0] (by kernel_rfl) ?_
                intro wu25 ru25 su25 gu25
                have hu25 := grown_below gu25 (Nat.le_refl _) (by simp)
                have zau25 := bu24.size
                have eu25 := eu24.on hu25
                have ou25 := ou24.on hu25
                have ownu25 := own_below ownu24 hu25
                have bu25 := bu24.trans (hu25.mono bu24.size)
                have zu25 := hu25.size
                refine hK _ _ eu25 ?_
                clear hK K
                simp only [Act.put, List.setIfInBounds_toArray, List.set_cons_zero, List.set_cons_succ]
                refine plan_one _ rfl fun K hK => ?_
                refine step_store_all rfl _ _ _ rfl wu24.heap.size rfl _ _ ru25 [(.slice Au24 nu24 cu24)] rfl (slice_one _ _ _) rfl (by kernel_rfl) ?_
                intro wu26 ru26 gu26
                have eu26 := eu25.kept gu26 (by simp; omega)
                have ownu26 := own_below ownu24 (below_kept (grown_below gu25 (Nat.le_refl _) (by simp)) gu26 (Nat.le_of_lt su25) (by rintro q hq; cases hq; exact Nat.le_refl _))
                have bu26 := below_kept bu25 gu26 bu25.size (by rintro q hq; cases hq; omega)
                refine hK _ _ eu26 ?_
                clear hK K
                simp only [Act.put]
                repeat (refine plan_take _ rfl ?_; (first | (refine wpQuiet_valueG (o := ⟨some 60, _, _, _, _, _⟩) rfl _ (by intro _ h; exact exec_load _ 24 _ rfl ⟨g_to, 0, none⟩ rfl [.slice Ato nto mto] h.cells _ Try.underlying24 rfl (by kernel_rfl)) (wpQuiet_nil ?_); simp only [Act.put, List.setIfInBounds_toArray, List.set_cons_zero, List.set_cons_succ]) | (go_big_quiet_step ((intros; rfl)); refine wpQuiet_nil ?_)))
                refine plan_done ?_
                go_wp2_with fail
                go_meet
                exact ⟨_, _, _, _, rfl, rfl, ru26, own_base ownu26 (by omega), szu24, by omega, bu26⟩
              · refine step_at _ rfl fun K hK => ?_
                refine step_alloc rfl _ rfl [.slice none 0 0] (by kernel_rfl) ?_
                intro wu27 ru27 su27 gu27
                have hu27 := grown_below gu27 (Nat.le_refl _) (by simp)
                have zau27 := bu23.size
                have eu27 := eu23.on hu27
                have ou27 := ou23.on hu27
                have bu27 := bu23.trans (hu27.mono bu23.size)
                have zu27 := hu27.size
                refine hK _ _ eu27 ?_
                clear hK K
                simp only [Act.put, List.setIfInBounds_toArray, List.set_cons_zero, List.set_cons_succ]
                refine plan_one _ rfl fun K hK => ?_
                go_simp
                refine ((lw_eq HL2.out HG3.out HE2.out Ato nto mto _ ou27)).mono ?_
                rintro e wu28 ⟨Au28, nu28, cu28, rfl, ownu28, szu28, hu28⟩
                unfold flv
                have eu28 := eu27.on hu28
                have ou28 := ou27.on hu28
                have rzu28 := ru27.on hu28
                have bu28 := bu27.trans (hu28.mono bu27.size)
                have zu28 := hu28.size
                refine hK _ _ eu28 ?_
                clear hK K
                repeat (refine plan_take _ rfl ?_; (first | (refine wpQuiet_valueG (o := ⟨some 60, _, _, _, _, _⟩) rfl _ (by intro _ h; exact exec_load _ 24 _ rfl ⟨g_to, 0, none⟩ rfl [.slice Ato nto mto] h.cells _ Try.underlying24 rfl (by kernel_rfl)) (wpQuiet_nil ?_); simp only [Act.put, List.setIfInBounds_toArray, List.set_cons_zero, List.set_cons_succ]) | (go_big_quiet_step ((intros; rfl)); refine wpQuiet_nil ?_)))
                refine plan_one _ rfl fun K hK => ?_
                refine step_store_all rfl _ _ _ rfl wu23.heap.size rfl _ _ rzu28 [(.slice Au28 nu28 cu28)] rfl (slice_one _ _ _) rfl (by kernel_rfl) ?_
                intro wu29 ru29 gu29
                have eu29 := eu28.kept gu29 (by simp; omega)
                have ownu29 := own_kept_lt ownu28 gu29 (by omega)
                have bu29 := below_kept bu28 gu29 bu28.size (by rintro q hq; cases hq; omega)
                refine hK _ _ eu29 ?_
                clear hK K
                simp only [Act.put]
                repeat (refine plan_take _ rfl ?_; (first | (refine wpQuiet_valueG (o := ⟨some 60, _, _, _, _, _⟩) rfl _ (by intro _ h; exact exec_load _ 24 _ rfl ⟨g_to, 0, none⟩ rfl [.slice Ato nto mto] h.cells _ Try.underlying24 rfl (by kernel_rfl)) (wpQuiet_nil ?_); simp only [Act.put, List.setIfInBounds_toArray, List.set_cons_zero, List.set_cons_succ]) | (go_big_quiet_step ((intros; rfl)); refine wpQuiet_nil ?_)))
                refine plan_done ?_
                go_wp2_with fail
                go_meet
                exact ⟨_, _, _, _, rfl, rfl, ru29, own_base ownu29 (by omega), szu28, by omega, bu29⟩
            · refine step_at _ rfl fun K hK => ?_
              refine step_alloc rfl _ rfl [.slice none 0 0] (by kernel_rfl) ?_
              intro wu30 ru30 su30 gu30
              have hu30 := grown_below gu30 (Nat.le_refl _) (by simp)
              have zau30 := b0.size
              have eu30 := e0.on hu30
              have ou30 := o0.on hu30
              have bu30 := b0.trans (hu30.mono b0.size)
              have zu30 := hu30.size
              refine hK _ _ eu30 ?_
              clear hK K
              simp only [Act.put, List.setIfInBounds_toArray, List.set_cons_zero, List.set_cons_succ]
              refine plan_one _ rfl fun K hK => ?_
              go_simp
              refine (full_any b _).mono ?_
              rintro e wu31 ⟨rfl, hu31⟩
              have eu31 := eu30.on hu31
              have ou31 := ou30.on hu31
              have rzu31 := ru30.on hu31
              have bu31 := bu30.trans (hu31.mono bu30.size)
              have zu31 := hu31.size
              refine hK _ _ eu31 ?_
              clear hK K
              refine plan_one _ rfl fun K hK => ?_
              go_simp
              refine ((lw_eq HL2.out HG3.out HE2.out Ato nto mto _ ou31)).mono ?_
              rintro e wu32 ⟨Au32, nu32, cu32, rfl, ownu32, szu32, hu32⟩
              unfold flv
              have eu32 := eu31.on hu32
              have ou32 := ou31.on hu32
              have rzu32 := rzu31.on hu32
              have bu32 := bu31.trans (hu32.mono bu31.size)
              have zu32 := hu32.size
              refine hK _ _ eu32 ?_
              clear hK K
              repeat (refine plan_take _ rfl ?_; (first | (refine wpQuiet_valueG (o := ⟨some 60, _, _, _, _, _⟩) rfl _ (by intro _ h; exact exec_load _ 24 _ rfl ⟨g_to, 0, none⟩ rfl [.slice Ato nto mto] h.cells _ Try.underlying24 rfl (by kernel_rfl)) (wpQuiet_nil ?_); simp only [Act.put, List.setIfInBounds_toArray, List.set_cons_zero, List.set_cons_succ]) | (go_big_quiet_step ((intros; rfl)); refine wpQuiet_nil ?_)))
              refine plan_one _ rfl fun K hK => ?_
              refine step_store_all rfl _ _ _ rfl wc7.drew.heap.size rfl _ _ rzu32 [(.slice Au32 nu32 cu32)] rfl (slice_one _ _ _) rfl (by kernel_rfl) ?_
              intro wu33 ru33 gu33
              have eu33 := eu32.kept gu33 (by simp; omega)
              have ownu33 := own_kept_lt ownu32 gu33 (by omega)
              have bu33 := below_kept bu32 gu33 bu32.size (by rintro q hq; cases hq; omega)
              refine hK _ _ eu33 ?_
              clear hK K
              simp only [Act.put]
              repeat (refine plan_take _ rfl ?_; (first | (refine wpQuiet_valueG (o := ⟨some 60, _, _, _, _, _⟩) rfl _ (by intro _ h; exact exec_load _ 24 _ rfl ⟨g_to, 0, none⟩ rfl [.slice Ato nto mto] h.cells _ Try.underlying24 rfl (by kernel_rfl)) (wpQuiet_nil ?_); simp only [Act.put, List.setIfInBounds_toArray, List.set_cons_zero, List.set_cons_succ]) | (go_big_quiet_step ((intros; rfl)); refine wpQuiet_nil ?_)))
              refine plan_done ?_
              go_wp2_with fail
              go_meet
              exact ⟨_, _, _, _, rfl, rfl, ru33, own_base ownu33 (by omega), szu32, by omega, bu33⟩
          case rest =>
            revert wc
            intro wc8 hcut
            obtain ⟨g_ag, Aag, nag, mag, rfl, rfl, ag_8, ownag8, szag8, ggeag, h8⟩ := hcut
            have okag8 := own_flok ownag8 szag8
            have B8 := B7.trans (h8.mono B7.size)
            have okf_8 := okf_7.on h8
            have f_8 := f_7.on h8
            have wh_8 := wh_7.on h8
            have okwh_8 := okwh_7.on h8
            have to_8 := to_7.on h8
            have okto_8 := okto7.on h8
            clear okf_7 f_7 wh_7 okwh_7 to_7
            have cf := f_8.cell (j := 0) rfl
            have cwh := wh_8.cell (j := 0) rfl
            have cto := to_8.cell (j := 0) rfl
            have cag := ag_8.cell (j := 0) rfl
            go_wp2_with fail
            try simp only [Act.put, List.setIfInBounds_toArray, List.set_cons_zero, List.set_cons_succ]
            go_cut [15, 16] (fun s1 s2 wc9 => ∃ g A n c, s1 = .pointer (some ⟨g, 0, none⟩) ∧ s2 = .int .i64 (0) ∧ Row wc9 g 24 [.slice A n c] ∧ wc9.ownsRow wc8.heap.size 9 1 (.slice A n c) n (svs G2) ∧ (∀ s ∈ G2, s.size ≤ 9223372036854775807) ∧ wc8.heap.size ≤ g ∧ Below wc8.heap.size wc8 wc9)
            case first =>
              have zd : wc8.drew.heap.size = wc8.heap.size := rfl
              have zl := to_8.lt
              have e0 := to_8.drew
              have o0 : FlOK wc8.drew Ato nto mto G2 := okto_8
              have b0 : Below wc8.heap.size wc8 wc8.drew := (Below.refl _ _).drew
              refine wp_region_plan (fun w' => Row w' (g_to) 24 ([.slice Ato nto mto])) (.take 0 <| .take 1 <| .take 2 <| .take 4 <| .two 3 (.two 5 (.take 6 <| .take 7 <| .take 8 <| .one 9 <| .one 10 <| .take 11 <| .done) 9 (.one 5 <| .take 6 <| .take 7 <| .take 8 <| .one 10 <| .take 11 <| .done)) 9 (.one 3 <| .one 5 <| .take 6 <| .take 7 <| .take 8 <| .one 10 <| .take 11 <| .done)) (by kernel_rfl) (by kernel_rfl) (by kernel_rfl) (fun _ _ _ _ _ h => h) e0 ?_
              repeat (refine plan_take _ rfl ?_; (first | (refine wpQuiet_valueG (o := ⟨some 68, _, _, _, _, _⟩) rfl _ (by intro _ h; exact exec_load _ 24 _ rfl ⟨g_to, 0, none⟩ rfl [.slice Ato nto mto] h.cells _ Try.underlying24 rfl (by kernel_rfl)) (wpQuiet_nil ?_); simp only [Act.put, List.setIfInBounds_toArray, List.set_cons_zero, List.set_cons_succ]) | (go_big_quiet_step ((intros; rfl)); refine wpQuiet_nil ?_)))
              refine plan_two ?_ ?_
              · refine step_at _ rfl fun K hK => ?_
                go_simp
                refine (full_any b _).mono ?_
                rintro e wu34 ⟨rfl, hu34⟩
                have eu34 := e0.on hu34
                have ou34 := o0.on hu34
                have bu34 := b0.trans (hu34.mono b0.size)
                have zu34 := hu34.size
                refine hK _ _ eu34 ?_
                clear hK K
                refine plan_two ?_ ?_
                · refine step_at _ rfl fun K hK => ?_
                  go_simp
                  refine ((lw_eq HL2.out HG4.out HE2.out Ato nto mto _ ou34)).mono ?_
                  rintro e wu35 ⟨Au35, nu35, cu35, rfl, ownu35, szu35, hu35⟩
                  unfold flv
                  have eu35 := eu34.on hu35
                  have ou35 := ou34.on hu35
                  have bu35 := bu34.trans (hu35.mono bu34.size)
                  have zu35 := hu35.size
                  refine hK _ _ eu35 ?_
                  clear hK K
                  repeat (refine plan_take _ rfl ?_; (first | (refine wpQuiet_valueG (o := ⟨some 68, _, _, _, _, _⟩) rfl _ (by intro _ h; exact exec_load _ 24 _ rfl ⟨g_to, 0, none⟩ rfl [.slice Ato nto mto] h.cells _ Try.underlying24 rfl (by kernel_rfl)) (wpQuiet_nil ?_); simp only [Act.put, List.setIfInBounds_toArray, List.set_cons_zero, List.set_cons_succ]) | (go_big_quiet_step ((intros; rfl)); refine wpQuiet_nil ?_)))
                  refine plan_one _ rfl fun K hK => ?_
                  refine step_alloc rfl _ rfl [.slice none 0 0] (by kernel_rfl) ?_
                  intro wu36 ru36 su36 gu36
                  have hu36 := grown_below gu36 (Nat.le_refl _) (by simp)
                  have zau36 := bu35.size
                  have eu36 := eu35.on hu36
                  have ou36 := ou35.on hu36
                  have ownu36 := own_below ownu35 hu36
                  have bu36 := bu35.trans (hu36.mono bu35.size)
                  have zu36 := hu36.size
                  refine hK _ _ eu36 ?_
                  clear hK K
                  simp only [Act.put, List.setIfInBounds_toArray, List.set_cons_zero, List.set_cons_succ]
                  refine plan_one _ rfl fun K hK => ?_
                  refine step_store_all rfl _ _ _ rfl wu35.heap.size rfl _ _ ru36 [(.slice Au35 nu35 cu35)] rfl (slice_one _ _ _) rfl (by kernel_rfl) ?_
                  intro wu37 ru37 gu37
                  have eu37 := eu36.kept gu37 (by simp; omega)
                  have ownu37 := own_below ownu35 (below_kept (grown_below gu36 (Nat.le_refl _) (by simp)) gu37 (Nat.le_of_lt su36) (by rintro q hq; cases hq; exact Nat.le_refl _))
                  have bu37 := below_kept bu36 gu37 bu36.size (by rintro q hq; cases hq; omega)
                  refine hK _ _ eu37 ?_
                  clear hK K
                  simp only [Act.put]
                  repeat (refine plan_take _ rfl ?_; (first | (refine wpQuiet_valueG (o := ⟨some 68, _, _, _, _, _⟩) rfl _ (by intro _ h; exact exec_load _ 24 _ rfl ⟨g_to, 0, none⟩ rfl [.slice Ato nto mto] h.cells _ Try.underlying24 rfl (by kernel_rfl)) (wpQuiet_nil ?_); simp only [Act.put, List.setIfInBounds_toArray, List.set_cons_zero, List.set_cons_succ]) | (go_big_quiet_step ((intros; rfl)); refine wpQuiet_nil ?_)))
                  refine plan_done ?_
                  go_wp2_with fail
                  go_meet
                  exact ⟨_, _, _, _, rfl, rfl, ru37, own_base ownu37 (by omega), szu35, by omega, bu37⟩
                · refine step_at _ rfl fun K hK => ?_
                  refine step_alloc rfl _ rfl [.slice none 0 0] (by kernel_rfl) ?_
                  intro wu38 ru38 su38 gu38
                  have hu38 := grown_below gu38 (Nat.le_refl _) (by simp)
                  have zau38 := bu34.size
                  have eu38 := eu34.on hu38
                  have ou38 := ou34.on hu38
                  have bu38 := bu34.trans (hu38.mono bu34.size)
                  have zu38 := hu38.size
                  refine hK _ _ eu38 ?_
                  clear hK K
                  simp only [Act.put, List.setIfInBounds_toArray, List.set_cons_zero, List.set_cons_succ]
                  refine plan_one _ rfl fun K hK => ?_
                  go_simp
                  refine ((lw_eq HL2.out HG4.out HE2.out Ato nto mto _ ou38)).mono ?_
                  rintro e wu39 ⟨Au39, nu39, cu39, rfl, ownu39, szu39, hu39⟩
                  unfold flv
                  have eu39 := eu38.on hu39
                  have ou39 := ou38.on hu39
                  have rzu39 := ru38.on hu39
                  have bu39 := bu38.trans (hu39.mono bu38.size)
                  have zu39 := hu39.size
                  refine hK _ _ eu39 ?_
                  clear hK K
                  repeat (refine plan_take _ rfl ?_; (first | (refine wpQuiet_valueG (o := ⟨some 68, _, _, _, _, _⟩) rfl _ (by intro _ h; exact exec_load _ 24 _ rfl ⟨g_to, 0, none⟩ rfl [.slice Ato nto mto] h.cells _ Try.underlying24 rfl (by kernel_rfl)) (wpQuiet_nil ?_); simp only [Act.put, List.setIfInBounds_toArray, List.set_cons_zero, List.set_cons_succ]) | (go_big_quiet_step ((intros; rfl)); refine wpQuiet_nil ?_)))
                  refine plan_one _ rfl fun K hK => ?_
                  refine step_store_all rfl _ _ _ rfl wu34.heap.size rfl _ _ rzu39 [(.slice Au39 nu39 cu39)] rfl (slice_one _ _ _) rfl (by kernel_rfl) ?_
                  intro wu40 ru40 gu40
                  have eu40 := eu39.kept gu40 (by simp; omega)
                  have ownu40 := own_kept_lt ownu39 gu40 (by omega)
                  have bu40 := below_kept bu39 gu40 bu39.size (by rintro q hq; cases hq; omega)
                  refine hK _ _ eu40 ?_
                  clear hK K
                  simp only [Act.put]
                  repeat (refine plan_take _ rfl ?_; (first | (refine wpQuiet_valueG (o := ⟨some 68, _, _, _, _, _⟩) rfl _ (by intro _ h; exact exec_load _ 24 _ rfl ⟨g_to, 0, none⟩ rfl [.slice Ato nto mto] h.cells _ Try.underlying24 rfl (by kernel_rfl)) (wpQuiet_nil ?_); simp only [Act.put, List.setIfInBounds_toArray, List.set_cons_zero, List.set_cons_succ]) | (go_big_quiet_step ((intros; rfl)); refine wpQuiet_nil ?_)))
                  refine plan_done ?_
                  go_wp2_with fail
                  go_meet
                  exact ⟨_, _, _, _, rfl, rfl, ru40, own_base ownu40 (by omega), szu39, by omega, bu40⟩
              · refine step_at _ rfl fun K hK => ?_
                refine step_alloc rfl _ rfl [.slice none 0 0] (by kernel_rfl) ?_
                intro wu41 ru41 su41 gu41
                have hu41 := grown_below gu41 (Nat.le_refl _) (by simp)
                have zau41 := b0.size
                have eu41 := e0.on hu41
                have ou41 := o0.on hu41
                have bu41 := b0.trans (hu41.mono b0.size)
                have zu41 := hu41.size
                refine hK _ _ eu41 ?_
                clear hK K
                simp only [Act.put, List.setIfInBounds_toArray, List.set_cons_zero, List.set_cons_succ]
                refine plan_one _ rfl fun K hK => ?_
                go_simp
                refine (full_any b _).mono ?_
                rintro e wu42 ⟨rfl, hu42⟩
                have eu42 := eu41.on hu42
                have ou42 := ou41.on hu42
                have rzu42 := ru41.on hu42
                have bu42 := bu41.trans (hu42.mono bu41.size)
                have zu42 := hu42.size
                refine hK _ _ eu42 ?_
                clear hK K
                refine plan_one _ rfl fun K hK => ?_
                go_simp
                refine ((lw_eq HL2.out HG4.out HE2.out Ato nto mto _ ou42)).mono ?_
                rintro e wu43 ⟨Au43, nu43, cu43, rfl, ownu43, szu43, hu43⟩
                unfold flv
                have eu43 := eu42.on hu43
                have ou43 := ou42.on hu43
                have rzu43 := rzu42.on hu43
                have bu43 := bu42.trans (hu43.mono bu42.size)
                have zu43 := hu43.size
                refine hK _ _ eu43 ?_
                clear hK K
                repeat (refine plan_take _ rfl ?_; (first | (refine wpQuiet_valueG (o := ⟨some 68, _, _, _, _, _⟩) rfl _ (by intro _ h; exact exec_load _ 24 _ rfl ⟨g_to, 0, none⟩ rfl [.slice Ato nto mto] h.cells _ Try.underlying24 rfl (by kernel_rfl)) (wpQuiet_nil ?_); simp only [Act.put, List.setIfInBounds_toArray, List.set_cons_zero, List.set_cons_succ]) | (go_big_quiet_step ((intros; rfl)); refine wpQuiet_nil ?_)))
                refine plan_one _ rfl fun K hK => ?_
                refine step_store_all rfl _ _ _ rfl wc8.drew.heap.size rfl _ _ rzu43 [(.slice Au43 nu43 cu43)] rfl (slice_one _ _ _) rfl (by kernel_rfl) ?_
                intro wu44 ru44 gu44
                have eu44 := eu43.kept gu44 (by simp; omega)
                have ownu44 := own_kept_lt ownu43 gu44 (by omega)
                have bu44 := below_kept bu43 gu44 bu43.size (by rintro q hq; cases hq; omega)
                refine hK _ _ eu44 ?_
                clear hK K
                simp only [Act.put]
                repeat (refine plan_take _ rfl ?_; (first | (refine wpQuiet_valueG (o := ⟨some 68, _, _, _, _, _⟩) rfl _ (by intro _ h; exact exec_load _ 24 _ rfl ⟨g_to, 0, none⟩ rfl [.slice Ato nto mto] h.cells _ Try.underlying24 rfl (by kernel_rfl)) (wpQuiet_nil ?_); simp only [Act.put, List.setIfInBounds_toArray, List.set_cons_zero, List.set_cons_succ]) | (go_big_quiet_step ((intros; rfl)); refine wpQuiet_nil ?_)))
                refine plan_done ?_
                go_wp2_with fail
                go_meet
                exact ⟨_, _, _, _, rfl, rfl, ru44, own_base ownu44 (by omega), szu43, by omega, bu44⟩
            case rest =>
              revert wc
              intro wc9 hcut
              obtain ⟨g_sa, Asa, nsa, msa, rfl, rfl, sa_9, ownsa9, szsa9, ggesa, h9⟩ := hcut
              have oksa9 := own_flok ownsa9 szsa9
              have B9 := B8.trans (h9.mono B8.size)
              have okf_9 := okf_8.on h9
              have f_9 := f_8.on h9
              have wh_9 := wh_8.on h9
              have okwh_9 := okwh_8.on h9
              have to_9 := to_8.on h9
              have okto_9 := okto_8.on h9
              have ag_9 := ag_8.on h9
              have okag_9 := okag8.on h9
              clear okf_8 f_8 wh_8 okwh_8 to_8 okto_8 ag_8
              have cf := f_9.cell (j := 0) rfl
              have cwh := wh_9.cell (j := 0) rfl
              have cto := to_9.cell (j := 0) rfl
              have cag := ag_9.cell (j := 0) rfl
              have csa := sa_9.cell (j := 0) rfl
              go_wp2_with fail
              refine (same8_true _ _ _ _ _ _ _ okag_9 okwh_9).mono ?_
              rintro e w10 ⟨rfl, h10⟩
              have B10 := B9.trans (h10.mono B9.size)
              have okf_10 := okf_9.on h10
              have f_10 := f_9.on h10
              have wh_10 := wh_9.on h10
              have okwh_10 := okwh_9.on h10
              have to_10 := to_9.on h10
              have okto_10 := okto_9.on h10
              have ag_10 := ag_9.on h10
              have okag_10 := okag_9.on h10
              have sa_10 := sa_9.on h10
              have oksa_10 := oksa9.on h10
              clear okf_9 f_9 wh_9 okwh_9 to_9 okto_9 ag_9 okag_9 sa_9
              have cf := f_10.cell (j := 0) rfl
              have cwh := wh_10.cell (j := 0) rfl
              have cto := to_10.cell (j := 0) rfl
              have cag := ag_10.cell (j := 0) rfl
              have csa := sa_10.cell (j := 0) rfl
              go_wp2_with fail
              refine (same8_true _ _ _ _ _ _ _ oksa_10 okto_10).mono ?_
              rintro e w11 ⟨rfl, h11⟩
              have B11 := B10.trans (h11.mono B10.size)
              have okf_11 := okf_10.on h11
              have f_11 := f_10.on h11
              have wh_11 := wh_10.on h11
              have okwh_11 := okwh_10.on h11
              have to_11 := to_10.on h11
              have okto_11 := okto_10.on h11
              have ag_11 := ag_10.on h11
              have okag_11 := okag_10.on h11
              have sa_11 := sa_10.on h11
              have oksa_11 := oksa_10.on h11
              clear okf_10 f_10 wh_10 okwh_10 to_10 okto_10 ag_10 okag_10 sa_10 oksa_10
              have cf := f_11.cell (j := 0) rfl
              have cwh := wh_11.cell (j := 0) rfl
              have cto := to_11.cell (j := 0) rfl
              have cag := ag_11.cell (j := 0) rfl
              have csa := sa_11.cell (j := 0) rfl
              go_wp2_with fail
              go_ret
              exact ⟨rfl, B11⟩
end Go.Proofs.Ytlllllcmbnmmkaa
