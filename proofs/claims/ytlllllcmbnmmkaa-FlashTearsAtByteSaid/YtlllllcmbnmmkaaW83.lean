/-
  FlashTearsAtByte's walk. No condition.
-/
import Derived.Test.YtlllllcmbnmmkaaW85
import Derived.Test.YtlllllcmbnmmkaaBxO
namespace Go.Proofs.Ytlllllcmbnmmkaa
open Go.RowKit

set_option maxRecDepth 100000 in
set_option maxHeartbeats 8000000 in
theorem walk83 (A : Option Addr) (n c : Nat) (fs : List ByteArray) (x : Nat) (b : UInt8) (cut : Int) (w : World) (hx : x ≤ 255) (hok : FlOK w A n c fs) :
    Calls Try.prog 5 #[.agg #[.slice A n c, .int .u8 (x : Int), .int .u8 (b.toNat : Int), .int .i64 cut]] w (TellsB true w) := by
  have HSA := fun W => sanity8_any W
  have HLN := Lib.hid hok.len
  have HOK := Lib.hid hok
  cases hv : flValid fs with
  | false =>
    have HV := fun W h => Lib.hid (valid_eq hv A n c W h)
    clear hv
    go_enter Try.func5, Try.ntmps5
    go_wp2_with (first
      | (with_reducible refine wpList_box_row (o := ⟨some 1, _, _, _, _, _⟩) rfl _ _ rfl [.slice A n c, .int .u8 (x : Int), .int .u8 (b.toNat : Int), .int .i64 cut] rfl ?_; intro w1 rin_1 s1 g1; have k1 : Below w.heap.size w w1 := grown_below g1 (Nat.le_refl _) (by simp); have B1 : Below w.heap.size w w1 := k1; have okf_1 := hok.on k1; have crin0 := rin_1.cell (j := 0) rfl; have crin1 := rin_1.cell (j := 1) rfl; have crin2 := rin_1.cell (j := 2) rfl; have crin3 := rin_1.cell (j := 3) rfl)
      | (with_reducible refine wpList_alloc_row (o := ⟨some 3, _, _, _, _, _⟩) rfl _ rfl [.slice none 0 0] (by kernel_rfl) ?_; intro w2 r2 s2 g2)
      | ((with_reducible refine wpList_at ⟨none, .store _ (.tmp 3) _, _, _, _, _⟩ ?_); refine wpList_store_all rfl _ _ _ rfl w1.heap.size rfl _ _ r2 [.slice A n c] rfl (slice_one _ _ _) rfl (by kernel_rfl) ?_; intro w3 f_3 g3; have k3 : Below w1.heap.size w1 w3 := below_kept (grown_below g2 (Nat.le_refl _) (by simp)) g3 (Nat.le_of_lt s2) (by rintro q hq; cases hq; exact Nat.le_refl _); have B3 := B1.trans (k3.mono B1.size); have okf_3 := okf_1.on k3; have rin_3 := rin_1.on k3; clear okf_1 rin_1; have crin0 := rin_3.cell (j := 0) rfl; have crin1 := rin_3.cell (j := 1) rfl; have crin2 := rin_3.cell (j := 2) rfl; have crin3 := rin_3.cell (j := 3) rfl; have cf := f_3.cell (j := 0) rfl; clear r2 g2 g3))
    go_wp2_with fail
    refine (HSA _).mono ?_
    rintro e w4 ⟨rfl, h4⟩
    have B4 := B3.trans (h4.mono B3.size)
    have okf_4 := okf_3.on h4
    have f_4 := f_3.on h4
    clear okf_3 f_3
    have cf := f_4.cell (j := 0) rfl
    go_wp2_with fail
    refine ((HV _ okf_4).out).mono ?_
    rintro e w5 ⟨rfl, h5⟩
    have B5 := B4.trans (h5.mono B4.size)
    have okf_5 := okf_4.on h5
    have f_5 := f_4.on h5
    clear okf_4 f_4
    have cf := f_5.cell (j := 0) rfl
    go_wp2_with fail
    go_ret
    exact ⟨rfl, B5⟩
  | true =>
    have hn128 := flvalid_len hv
    rw [HLN.out] at hn128
    have HV := fun c W h => Lib.hid (valid_eq hv A n c W h)
    by_cases h0 : n = 0
    · subst h0
      replace HV := HV c
      clear hv
      go_enter Try.func5, Try.ntmps5
      go_wp2_with (first
        | (with_reducible refine wpList_box_row (o := ⟨some 1, _, _, _, _, _⟩) rfl _ _ rfl [.slice A 0 c, .int .u8 (x : Int), .int .u8 (b.toNat : Int), .int .i64 cut] rfl ?_; intro w1 rin_1 s1 g1; have k1 : Below w.heap.size w w1 := grown_below g1 (Nat.le_refl _) (by simp); have B1 : Below w.heap.size w w1 := k1; have okf_1 := hok.on k1; have crin0 := rin_1.cell (j := 0) rfl; have crin1 := rin_1.cell (j := 1) rfl; have crin2 := rin_1.cell (j := 2) rfl; have crin3 := rin_1.cell (j := 3) rfl)
        | (with_reducible refine wpList_alloc_row (o := ⟨some 3, _, _, _, _, _⟩) rfl _ rfl [.slice none 0 0] (by kernel_rfl) ?_; intro w2 r2 s2 g2)
        | ((with_reducible refine wpList_at ⟨none, .store _ (.tmp 3) _, _, _, _, _⟩ ?_); refine wpList_store_all rfl _ _ _ rfl w1.heap.size rfl _ _ r2 [.slice A 0 c] rfl (slice_one _ _ _) rfl (by kernel_rfl) ?_; intro w3 f_3 g3; have k3 : Below w1.heap.size w1 w3 := below_kept (grown_below g2 (Nat.le_refl _) (by simp)) g3 (Nat.le_of_lt s2) (by rintro q hq; cases hq; exact Nat.le_refl _); have B3 := B1.trans (k3.mono B1.size); have okf_3 := okf_1.on k3; have rin_3 := rin_1.on k3; clear okf_1 rin_1; have crin0 := rin_3.cell (j := 0) rfl; have crin1 := rin_3.cell (j := 1) rfl; have crin2 := rin_3.cell (j := 2) rfl; have crin3 := rin_3.cell (j := 3) rfl; have cf := f_3.cell (j := 0) rfl; clear r2 g2 g3))
      go_wp2_with fail
      refine (HSA _).mono ?_
      rintro e w4 ⟨rfl, h4⟩
      have B4 := B3.trans (h4.mono B3.size)
      have okf_4 := okf_3.on h4
      have f_4 := f_3.on h4
      clear okf_3 f_3
      have cf := f_4.cell (j := 0) rfl
      go_wp2_with fail
      refine ((HV _ okf_4).out).mono ?_
      rintro e w5 ⟨rfl, h5⟩
      have B5 := B4.trans (h5.mono B4.size)
      have okf_5 := okf_4.on h5
      have f_5 := f_4.on h5
      clear okf_4 f_4
      have cf := f_5.cell (j := 0) rfl
      go_wp2_with fail
      go_ret
      exact ⟨rfl, B5⟩
    · replace HV := HV c
      obtain ⟨j, hj, hjn⟩ : ∃ j : Nat, (x : Int) % (n : Int) = (j : Int) ∧ j < n := ⟨x % n, by omega, Nat.mod_lt _ (by omega)⟩
      obtain ⟨s, hs⟩ : ∃ s, fs[j]? = some s := ⟨_, List.getElem?_eq_getElem (by rw [HLN.out]; exact hjn)⟩
      have HS := Lib.hid hs
      have HI := flIn_nat (fs := fs) (j := j) (by rw [HLN.out]; exact hjn)
      have HL : Hid (fs.length ≤ 1000000) := Lib.hid (by rw [HLN.out]; omega)
      have hsz := flvalid_size hv (List.mem_of_getElem? hs)
      obtain ⟨X, hX⟩ : ∃ X, flW (fullS b) cut s = X := ⟨_, rfl⟩
      have hXs : X.size = 256 := by rw [← hX]; exact flW_size (fullS_size b) hsz cut
      have HFA : Hid (∀ i : Nat, i < 256 → ∃ u : UInt8, (tl X)[i]? = some u ∧ (if cut < 0 ∨ (i : Int) < cut then some b else (tl s)[i]?) = some u) := Lib.hid fun i hi => by
        have h1 := flW_at b s cut hi
        rw [hX] at h1
        obtain ⟨u, h2⟩ : ∃ u, (tl X)[i]? = some u := ⟨_, List.getElem?_eq_getElem (by rw [tl_len, hXs]; exact hi)⟩
        exact ⟨_, h2, h1.symm.trans h2⟩
      have HFU := fun W => Lib.hid (show Calls Try.prog 21 #[.int .u8 (b.toNat : Int)] W (TellsS (fullS b) W) from full_any b W)
      have HSZ : Hid (s.size = 256) := Lib.hid hsz
      obtain ⟨G1, hG1⟩ : ∃ G, flWrite fs (j : Int) (fullS b) cut = G := ⟨_, rfl⟩
      have HG1 := Lib.hid hG1
      have hgx : G1[j]? = some X := by rw [← hG1, ← hX]; exact write_at hs (fullS_size b) cut
      have HR := Lib.hid (flRead_nat hgx)
      have HRE := Lib.hid (flErr_nat (fs := G1) (j := j) (List.getElem?_eq_some_iff.1 hgx).1)
      have HE1 : Hid (flWErr fs (j : Int) (fullS b) = 0) := Lib.hid (flWErr_yes HI (fullS_size b))
      clear hv hG1 HI hs hX hgx hsz
      go_enter Try.func5, Try.ntmps5
      go_wp2_with (first
        | (with_reducible refine wpList_box_row (o := ⟨some 1, _, _, _, _, _⟩) rfl _ _ rfl [.slice A n c, .int .u8 (x : Int), .int .u8 (b.toNat : Int), .int .i64 cut] rfl ?_; intro w1 rin_1 s1 g1; have k1 : Below w.heap.size w w1 := grown_below g1 (Nat.le_refl _) (by simp); have B1 : Below w.heap.size w w1 := k1; have okf_1 := hok.on k1; have crin0 := rin_1.cell (j := 0) rfl; have crin1 := rin_1.cell (j := 1) rfl; have crin2 := rin_1.cell (j := 2) rfl; have crin3 := rin_1.cell (j := 3) rfl)
        | (with_reducible refine wpList_alloc_row (o := ⟨some 3, _, _, _, _, _⟩) rfl _ rfl [.slice none 0 0] (by kernel_rfl) ?_; intro w2 r2 s2 g2)
        | ((with_reducible refine wpList_at ⟨none, .store _ (.tmp 3) _, _, _, _, _⟩ ?_); refine wpList_store_all rfl _ _ _ rfl w1.heap.size rfl _ _ r2 [.slice A n c] rfl (slice_one _ _ _) rfl (by kernel_rfl) ?_; intro w3 f_3 g3; have k3 : Below w1.heap.size w1 w3 := below_kept (grown_below g2 (Nat.le_refl _) (by simp)) g3 (Nat.le_of_lt s2) (by rintro q hq; cases hq; exact Nat.le_refl _); have B3 := B1.trans (k3.mono B1.size); have okf_3 := okf_1.on k3; have rin_3 := rin_1.on k3; clear okf_1 rin_1; have crin0 := rin_3.cell (j := 0) rfl; have crin1 := rin_3.cell (j := 1) rfl; have crin2 := rin_3.cell (j := 2) rfl; have crin3 := rin_3.cell (j := 3) rfl; have cf := f_3.cell (j := 0) rfl; clear r2 g2 g3))
      go_wp2_with fail
      refine (HSA _).mono ?_
      rintro e w4 ⟨rfl, h4⟩
      have B4 := B3.trans (h4.mono B3.size)
      have okf_4 := okf_3.on h4
      have f_4 := f_3.on h4
      clear okf_3 f_3
      have cf := f_4.cell (j := 0) rfl
      go_wp2_with fail
      refine ((HV _ okf_4).out).mono ?_
      rintro e w5 ⟨rfl, h5⟩
      have B5 := B4.trans (h5.mono B4.size)
      have okf_5 := okf_4.on h5
      have f_5 := f_4.on h5
      clear okf_4 f_4
      have cf := f_5.cell (j := 0) rfl
      go_wp2_with fail
      simp only [hj]
      try simp only [Act.put, List.setIfInBounds_toArray, List.set_cons_zero, List.set_cons_succ]
      go_cut [9, 10] (fun s1 s2 wc6 => ∃ g A n c, s1 = .pointer (some ⟨g, 0, none⟩) ∧ s2 = .int .i64 (0) ∧ Row wc6 g 24 [.slice A n c] ∧ wc6.ownsRow w5.heap.size 9 1 (.slice A n c) n (svs G1) ∧ (∀ s ∈ G1, s.size ≤ 9223372036854775807) ∧ w5.heap.size ≤ g ∧ Below w5.heap.size w5 wc6)
      case first =>
        have zd : w5.drew.heap.size = w5.heap.size := rfl
        have zl := f_5.lt
        have e0 := f_5.drew
        have o0 : FlOK w5.drew A n c fs := okf_5
        have b0 : Below w5.heap.size w5 w5.drew := (Below.refl _ _).drew
        refine wp_region_plan (fun w' => Row w' (w1.heap.size) 24 ([.slice A n c])) (.take 0 <| .take 1 <| .take 2 <| .take 4 <| .two 3 (.two 5 (.take 6 <| .take 7 <| .take 8 <| .one 9 <| .one 10 <| .take 11 <| .done) 9 (.one 5 <| .take 6 <| .take 7 <| .take 8 <| .one 10 <| .take 11 <| .done)) 9 (.one 3 <| .one 5 <| .take 6 <| .take 7 <| .take 8 <| .one 10 <| .take 11 <| .done)) (by kernel_rfl) (by kernel_rfl) (by kernel_rfl) (fun _ _ _ _ _ h => h) e0 ?_
        repeat (refine plan_take _ rfl ?_; (first | (refine wpQuiet_valueG (o := ⟨some 40, _, _, _, _, _⟩) rfl _ (by intro _ h; exact exec_load _ 24 _ rfl ⟨w1.heap.size, 0, none⟩ rfl [.slice A n c] h.cells _ Try.underlying24 rfl (by kernel_rfl)) (wpQuiet_nil ?_); simp only [Act.put, List.setIfInBounds_toArray, List.set_cons_zero, List.set_cons_succ]) | (go_big_quiet_step ((intros; rfl)); refine wpQuiet_nil ?_)))
        refine plan_two ?_ ?_
        · refine step_at _ rfl fun K hK => ?_
          go_simp
          refine ((HFU _).out).mono ?_
          rintro e wu1 ⟨rfl, hu1⟩
          have eu1 := e0.on hu1
          have ou1 := o0.on hu1
          have bu1 := b0.trans (hu1.mono b0.size)
          have zu1 := hu1.size
          refine hK _ _ eu1 ?_
          clear hK K
          refine plan_two ?_ ?_
          · refine step_at _ rfl fun K hK => ?_
            go_simp
            refine ((lw_eq HL.out HG1.out HE1.out A n c _ ou1)).mono ?_
            rintro e wu2 ⟨Au2, nu2, cu2, rfl, ownu2, szu2, hu2⟩
            unfold flv
            have eu2 := eu1.on hu2
            have ou2 := ou1.on hu2
            have bu2 := bu1.trans (hu2.mono bu1.size)
            have zu2 := hu2.size
            refine hK _ _ eu2 ?_
            clear hK K
            repeat (refine plan_take _ rfl ?_; (first | (refine wpQuiet_valueG (o := ⟨some 40, _, _, _, _, _⟩) rfl _ (by intro _ h; exact exec_load _ 24 _ rfl ⟨w1.heap.size, 0, none⟩ rfl [.slice A n c] h.cells _ Try.underlying24 rfl (by kernel_rfl)) (wpQuiet_nil ?_); simp only [Act.put, List.setIfInBounds_toArray, List.set_cons_zero, List.set_cons_succ]) | (go_big_quiet_step ((intros; rfl)); refine wpQuiet_nil ?_)))
            refine plan_one _ rfl fun K hK => ?_
            refine step_alloc rfl _ rfl [.slice none 0 0] (by kernel_rfl) ?_
            intro wu3 ru3 su3 gu3
            have hu3 := grown_below gu3 (Nat.le_refl _) (by simp)
            have zau3 := bu2.size
            have eu3 := eu2.on hu3
            have ou3 := ou2.on hu3
            have ownu3 := own_below ownu2 hu3
            have bu3 := bu2.trans (hu3.mono bu2.size)
            have zu3 := hu3.size
            refine hK _ _ eu3 ?_
            clear hK K
            simp only [Act.put, List.setIfInBounds_toArray, List.set_cons_zero, List.set_cons_succ]
            refine plan_one _ rfl fun K hK => ?_
            refine step_store_all rfl _ _ _ rfl wu2.heap.size rfl _ _ ru3 [(.slice Au2 nu2 cu2)] rfl (slice_one _ _ _) rfl (by kernel_rfl) ?_
            intro wu4 ru4 gu4
            have eu4 := eu3.kept gu4 (by simp; omega)
            have ownu4 := own_below ownu2 (below_kept (grown_below gu3 (Nat.le_refl _) (by simp)) gu4 (Nat.le_of_lt su3) (by rintro q hq; cases hq; exact Nat.le_refl _))
            have bu4 := below_kept bu3 gu4 bu3.size (by rintro q hq; cases hq; omega)
            refine hK _ _ eu4 ?_
            clear hK K
            simp only [Act.put]
            repeat (refine plan_take _ rfl ?_; (first | (refine wpQuiet_valueG (o := ⟨some 40, _, _, _, _, _⟩) rfl _ (by intro _ h; exact exec_load _ 24 _ rfl ⟨w1.heap.size, 0, none⟩ rfl [.slice A n c] h.cells _ Try.underlying24 rfl (by kernel_rfl)) (wpQuiet_nil ?_); simp only [Act.put, List.setIfInBounds_toArray, List.set_cons_zero, List.set_cons_succ]) | (go_big_quiet_step ((intros; rfl)); refine wpQuiet_nil ?_)))
            refine plan_done ?_
            go_wp2_with fail
            go_meet
            exact ⟨_, _, _, _, rfl, rfl, ru4, own_base ownu4 (by omega), szu2, by omega, bu4⟩
          · refine step_at _ rfl fun K hK => ?_
            refine step_alloc rfl _ rfl [.slice none 0 0] (by kernel_rfl) ?_
            intro wu5 ru5 su5 gu5
            have hu5 := grown_below gu5 (Nat.le_refl _) (by simp)
            have zau5 := bu1.size
            have eu5 := eu1.on hu5
            have ou5 := ou1.on hu5
            have bu5 := bu1.trans (hu5.mono bu1.size)
            have zu5 := hu5.size
            refine hK _ _ eu5 ?_
            clear hK K
            simp only [Act.put, List.setIfInBounds_toArray, List.set_cons_zero, List.set_cons_succ]
            refine plan_one _ rfl fun K hK => ?_
            go_simp
            refine ((lw_eq HL.out HG1.out HE1.out A n c _ ou5)).mono ?_
            rintro e wu6 ⟨Au6, nu6, cu6, rfl, ownu6, szu6, hu6⟩
            unfold flv
            have eu6 := eu5.on hu6
            have ou6 := ou5.on hu6
            have rzu6 := ru5.on hu6
            have bu6 := bu5.trans (hu6.mono bu5.size)
            have zu6 := hu6.size
            refine hK _ _ eu6 ?_
            clear hK K
            repeat (refine plan_take _ rfl ?_; (first | (refine wpQuiet_valueG (o := ⟨some 40, _, _, _, _, _⟩) rfl _ (by intro _ h; exact exec_load _ 24 _ rfl ⟨w1.heap.size, 0, none⟩ rfl [.slice A n c] h.cells _ Try.underlying24 rfl (by kernel_rfl)) (wpQuiet_nil ?_); simp only [Act.put, List.setIfInBounds_toArray, List.set_cons_zero, List.set_cons_succ]) | (go_big_quiet_step ((intros; rfl)); refine wpQuiet_nil ?_)))
            refine plan_one _ rfl fun K hK => ?_
            refine step_store_all rfl _ _ _ rfl wu1.heap.size rfl _ _ rzu6 [(.slice Au6 nu6 cu6)] rfl (slice_one _ _ _) rfl (by kernel_rfl) ?_
            intro wu7 ru7 gu7
            have eu7 := eu6.kept gu7 (by simp; omega)
            have ownu7 := own_kept_lt ownu6 gu7 (by omega)
            have bu7 := below_kept bu6 gu7 bu6.size (by rintro q hq; cases hq; omega)
            refine hK _ _ eu7 ?_
            clear hK K
            simp only [Act.put]
            repeat (refine plan_take _ rfl ?_; (first | (refine wpQuiet_valueG (o := ⟨some 40, _, _, _, _, _⟩) rfl _ (by intro _ h; exact exec_load _ 24 _ rfl ⟨w1.heap.size, 0, none⟩ rfl [.slice A n c] h.cells _ Try.underlying24 rfl (by kernel_rfl)) (wpQuiet_nil ?_); simp only [Act.put, List.setIfInBounds_toArray, List.set_cons_zero, List.set_cons_succ]) | (go_big_quiet_step ((intros; rfl)); refine wpQuiet_nil ?_)))
            refine plan_done ?_
            go_wp2_with fail
            go_meet
            exact ⟨_, _, _, _, rfl, rfl, ru7, own_base ownu7 (by omega), szu6, by omega, bu7⟩
        · refine step_at _ rfl fun K hK => ?_
          refine step_alloc rfl _ rfl [.slice none 0 0] (by kernel_rfl) ?_
          intro wu8 ru8 su8 gu8
          have hu8 := grown_below gu8 (Nat.le_refl _) (by simp)
          have zau8 := b0.size
          have eu8 := e0.on hu8
          have ou8 := o0.on hu8
          have bu8 := b0.trans (hu8.mono b0.size)
          have zu8 := hu8.size
          refine hK _ _ eu8 ?_
          clear hK K
          simp only [Act.put, List.setIfInBounds_toArray, List.set_cons_zero, List.set_cons_succ]
          refine plan_one _ rfl fun K hK => ?_
          go_simp
          refine ((HFU _).out).mono ?_
          rintro e wu9 ⟨rfl, hu9⟩
          have eu9 := eu8.on hu9
          have ou9 := ou8.on hu9
          have rzu9 := ru8.on hu9
          have bu9 := bu8.trans (hu9.mono bu8.size)
          have zu9 := hu9.size
          refine hK _ _ eu9 ?_
          clear hK K
          refine plan_one _ rfl fun K hK => ?_
          go_simp
          refine ((lw_eq HL.out HG1.out HE1.out A n c _ ou9)).mono ?_
          rintro e wu10 ⟨Au10, nu10, cu10, rfl, ownu10, szu10, hu10⟩
          unfold flv
          have eu10 := eu9.on hu10
          have ou10 := ou9.on hu10
          have rzu10 := rzu9.on hu10
          have bu10 := bu9.trans (hu10.mono bu9.size)
          have zu10 := hu10.size
          refine hK _ _ eu10 ?_
          clear hK K
          repeat (refine plan_take _ rfl ?_; (first | (refine wpQuiet_valueG (o := ⟨some 40, _, _, _, _, _⟩) rfl _ (by intro _ h; exact exec_load _ 24 _ rfl ⟨w1.heap.size, 0, none⟩ rfl [.slice A n c] h.cells _ Try.underlying24 rfl (by kernel_rfl)) (wpQuiet_nil ?_); simp only [Act.put, List.setIfInBounds_toArray, List.set_cons_zero, List.set_cons_succ]) | (go_big_quiet_step ((intros; rfl)); refine wpQuiet_nil ?_)))
          refine plan_one _ rfl fun K hK => ?_
          refine step_store_all rfl _ _ _ rfl w5.drew.heap.size rfl _ _ rzu10 [(.slice Au10 nu10 cu10)] rfl (slice_one _ _ _) rfl (by kernel_rfl) ?_
          intro wu11 ru11 gu11
          have eu11 := eu10.kept gu11 (by simp; omega)
          have ownu11 := own_kept_lt ownu10 gu11 (by omega)
          have bu11 := below_kept bu10 gu11 bu10.size (by rintro q hq; cases hq; omega)
          refine hK _ _ eu11 ?_
          clear hK K
          simp only [Act.put]
          repeat (refine plan_take _ rfl ?_; (first | (refine wpQuiet_valueG (o := ⟨some 40, _, _, _, _, _⟩) rfl _ (by intro _ h; exact exec_load _ 24 _ rfl ⟨w1.heap.size, 0, none⟩ rfl [.slice A n c] h.cells _ Try.underlying24 rfl (by kernel_rfl)) (wpQuiet_nil ?_); simp only [Act.put, List.setIfInBounds_toArray, List.set_cons_zero, List.set_cons_succ]) | (go_big_quiet_step ((intros; rfl)); refine wpQuiet_nil ?_)))
          refine plan_done ?_
          go_wp2_with fail
          go_meet
          exact ⟨_, _, _, _, rfl, rfl, ru11, own_base ownu11 (by omega), szu10, by omega, bu11⟩
      case rest =>
        revert wc
        intro wc6 hcut
        obtain ⟨g_g, Ag, ng, mg, rfl, rfl, g_6, owng6, szg6, ggeg, h6⟩ := hcut
        have okg6 := own_flok owng6 szg6
        have B6 := B5.trans (h6.mono B5.size)
        have okf_6 := okf_5.on h6
        have f_6 := f_5.on h6
        clear okf_5 f_5
        have cf := f_6.cell (j := 0) rfl
        have cg := g_6.cell (j := 0) rfl
        go_wp2_with fail
        refine (read_eq HR.out HRE.out _ _ _ _ okg6).mono ?_
        rintro e w7 ⟨rfl, h7⟩
        have B7 := B6.trans (h7.mono B6.size)
        have okf_7 := okf_6.on h7
        have f_7 := f_6.on h7
        have g_7 := g_6.on h7
        have okg_7 := okg6.on h7
        clear okf_6 f_6 g_6
        have cf := f_7.cell (j := 0) rfl
        have cg := g_7.cell (j := 0) rfl
        go_wp2_with fail
        have EF := f_7
        have BW := B7
        clear cf cg
        obtain ⟨ad, s', hA, hlt0, hs', hcs0⟩ := HOK.out.1.str_at hjn
        rw [HS.out] at hs'
        cases hs'
        subst hA
        have HCS := Lib.hid hcs0
        have HLT := Lib.hid hlt0
        clear hcs0 hlt0
        go_loopg [13] 256 (fun g s13 wr => ∃ i : Nat, Hid (i + g = 256) ∧ i ≤ 256 ∧ s13 = .int .i64 (i : Int) ∧ Row wr w1.heap.size 24 [.slice (some ad) n c] ∧ Below w.heap.size w wr)
        case atStart => exact ⟨0, by show _ = _; omega, by omega, rfl, EF, BW⟩
        case round =>
          obtain ⟨i, HI2, hi, rfl, hR, hB⟩ := hrel
          have cf := hR.cell (j := 0) rfl
          have hcs := (hB.cell (by rw [block_of_add]; exact HLT.out)).trans HCS.out
          by_cases hlt : i < 256
          · have HAT := Lib.hid (HFA.out i hlt)
            obtain ⟨u, hu, hu2⟩ := HAT.out
            have HUX := Lib.hid hu
            by_cases hc : cut < 0 ∨ (i : Int) < cut
            · rw [if_pos hc] at hu2
              cases hu2
              rcases hc with hc | hc
              · go_wp2_with (first
                  | (refine wpList_valueG (o := ⟨some 80, _, _, _, _, _⟩) rfl _ (by exact exec_index_str _ 9 _ _ rfl Try.underlying9 X rfl i rfl b HUX.out) ?_))
                go_roundg (gk - 1)
                case measure => have := HI2.out; omega
                case rel => exact ⟨i + 1, by have := HI2.out; show _ = _; omega, by omega, by go_num, hR, hB⟩
              · by_cases hc0 : cut < 0
                · exact absurd hc0 (by omega)
                · go_wp2_with (first
                    | (refine wpList_valueG (o := ⟨some 80, _, _, _, _, _⟩) rfl _ (by exact exec_index_str _ 9 _ _ rfl Try.underlying9 X rfl i rfl b HUX.out) ?_))
                  go_roundg (gk - 1)
                  case measure => have := HI2.out; omega
                  case rel => exact ⟨i + 1, by have := HI2.out; show _ = _; omega, by omega, by go_num, hR, hB⟩
            · rw [if_neg hc] at hu2
              have HUS := Lib.hid hu2
              have hc1 : ¬ cut < 0 := fun h => hc (.inl h)
              have hc2 : ¬ (i : Int) < cut := fun h => hc (.inr h)
              clear hu hu2 hc
              go_wp2_with fail
              refine wp_region_plan (fun w' => Row w' w1.heap.size 24 [.slice (some ad) n c] ∧ w'.cell? (ad.add j) = some (.string s)) (.take 0 <| .take 1 <| .take 2 <| .take 3 <| .take 4 <| .take 5 <| .take 6 <| .take 7 <| .take 8 <| .take 9 <| .take 10 <| .done) (by kernel_rfl) (by kernel_rfl) (by kernel_rfl) (fun _ _ _ _ _ h => h) ⟨hR.drew, hcs⟩ ?_
              repeat (refine plan_take _ rfl ?_; (first | (refine wpQuiet_valueG (o := ⟨some 85, _, _, _, _, _⟩) rfl _ (by intro _ h; exact exec_index_str _ 9 _ _ rfl Try.underlying9 X rfl i rfl u HUX.out) (wpQuiet_nil ?_); simp only [Act.put, List.setIfInBounds_toArray, List.set_cons_zero, List.set_cons_succ]) | (refine wpQuiet_valueG (o := ⟨some 87, _, _, _, _, _⟩) rfl _ (by intro _ h; exact exec_load1 _ 22 _ rfl ⟨w1.heap.size, 0, none⟩ rfl _ (h.1.cell (j := 0) rfl) _ Try.underlying22 rfl) (wpQuiet_nil ?_); simp only [Act.put, List.setIfInBounds_toArray, List.set_cons_zero, List.set_cons_succ]) | (refine wpQuiet_valueG (o := ⟨some 90, _, _, _, _, _⟩) rfl _ (by intro _ h; exact exec_load1 _ 9 _ rfl (ad.add j) rfl _ h.2 _ Try.underlying9 rfl) (wpQuiet_nil ?_); simp only [Act.put, List.setIfInBounds_toArray, List.set_cons_zero, List.set_cons_succ]) | (refine wpQuiet_valueG (o := ⟨some 92, _, _, _, _, _⟩) rfl _ (by intro _ h; exact exec_index_str _ 9 _ _ rfl Try.underlying9 s rfl i rfl u HUS.out) (wpQuiet_nil ?_); simp only [Act.put, List.setIfInBounds_toArray, List.set_cons_zero, List.set_cons_succ]) | (go_big_quiet_step ((intros; rfl)); refine wpQuiet_nil ?_)))
              refine plan_done ?_
              go_wp2_with fail
              go_roundg (gk - 1)
              case measure => have := HI2.out; omega
              case rel => exact ⟨i + 1, by have := HI2.out; show _ = _; omega, by omega, by go_num, hR.drew, hB.drew⟩
          · obtain rfl : i = 256 := by omega
            go_wp2_with fail
            go_ret
            exact ⟨rfl, hB⟩
end Go.Proofs.Ytlllllcmbnmmkaa
