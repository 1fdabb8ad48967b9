/-
  What wots.advancer, its closure and wots.value return: contracts by walks. Conditions: the table of constants as laid; bounded numbers.
-/
import Derived.Test.YtojdondipkbjhaaDoorWref
import Derived.Test.YtojdondipkbjhaaDoorPut
namespace Go.Proofs.YtojdondipkbjhaaDoor
open Go.RowKit

/-- The captured variable of a chain's closure holds the chain's number as encoded. -/
def AdvAt (k p : Nat) (w : World) : Prop := ∃ A c, w.cell? ⟨p, 0, none⟩ = some (.slice A (encInt k).length c) ∧ p < w.heap.size ∧ Reads w w.heap.size 1 A (encInt k).length (bvs (encInt k)) ∧ (encInt k).length ≤ c
theorem AdvAt.on {k p : Nat} {w w' : World} (h : AdvAt k p w) (hb : Below w.heap.size w w') : AdvAt k p w' := by
  obtain ⟨A, c, h1, h2, h3, h4⟩ := h
  exact ⟨A, c, (hb.cell h2).trans h1, Nat.lt_of_lt_of_le h2 hb.size, h3.on hb, h4⟩
def advV (p : Nat) : Value := .func (.func 34) #[] #[.pointer (some ⟨p, 0, none⟩)]
theorem zero_sl : (Tryd.prog.info? 41).map (fun i => i.zero.map (·.cells)) = some (some #[.slice none 0 0]) := by kernel_rfl

set_option maxRecDepth 100000 in
set_option maxHeartbeats 1000000 in
theorem advancer_any (k : Nat) (hk : k ≤ 1000000) (w : World) : Calls Tryd.prog 23 #[.int .i64 (k : Int)] w fun e w' => ∃ p, e = .returned (advV p) ∧ AdvAt k p w' ∧ Below w.heap.size w w' := by
  have HIN := fun W => Lib.hid (int_any (k : Int) W (by omega) (by omega))
  have HA : ∀ p W, Hid (AdvAt k p W = ∃ A c, W.cell? ⟨p, 0, none⟩ = some (.slice A (encInt k).length c) ∧ p < W.heap.size ∧ Reads W W.heap.size 1 A (encInt k).length (bvs (encInt k)) ∧ (encInt k).length ≤ c) := fun _ _ => rfl
  generalize encInt (k : Int) = E at *
  go_enter Tryd.func23, Tryd.ntmps23
  go_wp2_with fail
  refine (HIN _).out.mono ?_
  rintro e w1 ⟨v1, rfl, hown1, hb1⟩
  obtain ⟨A1, c1, rfl, hc1, _, hr1⟩ := own_form hown1
  go_wp2_with (first
    | (with_reducible refine wpList_alloc_row (o := ⟨some 3, _, _, _, _, _⟩) rfl _ rfl [.slice none 0 0] zero_sl ?_; intro w2 hrow2 hs2 hg2)
    | (refine wpList_at ⟨none, .store 41 _ _, _, _, _, _⟩ ?_; refine wpList_store_elem rfl _ _ _ rfl w1.heap.size 0 rfl _ _ hrow2 (.slice A1 E.length c1) rfl rfl (by simp) (by kernel_rfl) ?_; intro w3 hrow3 hg3))
  have hw3 := hrow3.lt
  have hb3 : Below w1.heap.size w1 w3 := below_kept (grown_below hg2 (Nat.le_refl _) (by simp)) hg3 (by omega) (by rintro q hq; cases hq; exact Nat.le_refl _)
  have hr3 := hr1.on hb3
  go_ret
  refine ⟨w1.heap.size, rfl, ?_, hb1.trans (hb3.mono hb1.size)⟩
  rw [(HA _ _).out]
  exact ⟨A1, c1, hrow3.cell rfl, hw3, hr3, hc1⟩

set_option maxRecDepth 100000 in
set_option maxHeartbeats 1000000 in
theorem adv_any (k : Nat) (hk : k ≤ 1000000) (p : Nat) (v : List UInt8) (hv : v.length = 16) (n : Nat) (hn : n ≤ 1000) (w : World) (hK : Consts w) (hp : AdvAt k p w) :
    Calls Tryd.prog 34 #[.agg (bvs v).toArray, .int .i64 (n : Int), .pointer (some ⟨p, 0, none⟩)] w (GivesV (.agg (bvs (wAdv k v n)).toArray) w) := by
  have HAL := fun m => Lib.hid (wAdv_len k hv m)
  have HA0 : Hid (wAdv k v 0 = v) := rfl
  have HDE := fun A1 A2 n1 c1 n2 c2 m => Lib.hid (digestB_two k (wAdv k v m) A1 A2 n1 c1 n2 c2)
  have HAS : ∀ m, Hid (wAdv k v (m + 1) = wStep k (wAdv k v m)) := fun _ => rfl
  have HEL := Lib.hid (encInt_le10 (k : Int) (by omega) (by omega))
  obtain ⟨A, c, hcell, hpl, hr, hc⟩ := hp
  generalize wAdv k v = F at *
  generalize encInt (k : Int) = E at *
  clear hv
  have hCo := hK
  go_enter Tryd.func34, Tryd.ntmps34
  go_wp2_with (first
    | (with_reducible refine wpList_box_row (o := ⟨some 3, _, _, _, _, _⟩) rfl _ _ rfl (bvs v) rfl ?_; intro w1 hrow1 hs1 hg1)
    | (with_reducible refine wpList_alloc_row (o := ⟨some 5, _, _, _, _, _⟩) rfl _ rfl zeros16 zero_b16 ?_; intro w2 hrow2 hs2 hg2))
  have hrow1' := hrow1.kept hg2 (by simp)
  have hb2 : Below w.heap.size w w2 := below_kept (grown_below hg1 (Nat.le_refl _) (by simp)) hg2 (by omega) (by simp)
  have hlt2 := hrow2.lt
  rw [← HA0.out] at hrow1'
  clear hrow1 hg1 hg2
  go_loopg [7] n (fun g s wr => ∃ m : Nat, s = .int .i64 (m : Int) ∧ m ≤ n ∧ n ≤ g + m ∧ Row wr w.heap.size 23 (bvs (F m)) ∧ Row wr w1.heap.size 23 zeros16 ∧ Below w.heap.size w wr)
  case atStart => exact ⟨0, rfl, by omega, by omega, hrow1', hrow2, hb2⟩
  case round =>
    obtain ⟨m, rfl, hm, hg, hra, hrb, hbr⟩ := hrel
    by_cases hlt : m < n
    · have HS := HAS m
      have HL1 := HAL m
      have HL2 := HAL (m + 1)
      have hcr := (hbr.cell hpl).trans hcell
      have hrr := hr.on hbr
      go_wp2_with fail
      refine wp_region_plan (fun w' => w'.cell? ⟨p, 0, none⟩ = some (.slice A E.length c)) (.take 0 <| .take 1 <| .one 2 <| .one 3 <| .one 4 <| .done) (by kernel_rfl) (by kernel_rfl) (by kernel_rfl) (fun _ _ _ _ _ h => h) hcr ?_
      repeat (refine plan_take _ rfl ?_; (first | (refine wpQuiet_valueG (o := ⟨some 9, _, _, _, _, _⟩) rfl _ (by intro _ h; exact exec_load1 _ 41 _ rfl ⟨p, 0, none⟩ rfl _ h _ Tryd.underlying41 rfl) (wpQuiet_nil ?_); simp only [Act.put, List.setIfInBounds_toArray, List.set_cons_zero, List.set_cons_succ]) | (go_big_quiet_step ((intros; rfl)); refine wpQuiet_nil ?_)))
      refine plan_one _ rfl fun K hK => ?_
      go_simp
      have hrp := readsP_two wr.drew 41 A (some ⟨w.heap.size, 0, none⟩) E.length c 16 16 E (F m) hrr hc (hra.drew.reads16 HL1.out) (Nat.le_refl _)
      have Bc := hbr.drew.alloc hbr.drew.size (.cells #[.slice A E.length c, .slice (some ⟨w.heap.size, 0, none⟩) 16 16] 41)
      have hbc : Below wr.drew.heap.size wr.drew (wr.drew.alloc (.cells #[.slice A E.length c, .slice (some ⟨w.heap.size, 0, none⟩) 16 16] 41)) := (Below.refl _ _).alloc (Nat.le_refl _) _
      have rc := hra.drew.on hbc
      have rtc := hrb.drew.on hbc
      have cc := (Bc.cell hpl).trans hcell
      refine hK _ _ cc ?_
      clear hK K
      refine plan_one _ rfl fun K hK => ?_
      go_simp
      refine (digest_any 3 _ _ _ _ _ (hCo.on Bc) hrp (by omega) (parts_two_le _ _ 300 (show E.length ≤ 300 by have := HEL.out; omega) (show 16 ≤ 300 by omega))).mono ?_
      rintro e wd ⟨rfl, hbd⟩
      rw [(HDE _ _ _ _ _ _ _).out, ← HS.out]
      have rd := rc.on hbd
      have rtd := rtc.on hbd
      have Bd := Bc.trans (hbd.mono Bc.size)
      have cd := (Bd.cell hpl).trans hcell
      have hzd := Bd.size
      refine hK _ _ cd ?_
      clear hK K
      refine plan_one _ rfl fun K hK => ?_
      refine step_store_all rfl _ _ _ rfl w.heap.size rfl _ _ rd (bvs (F (m + 1))) rfl (bvs_one _) (by rw [bvs_length, bvs_length, HL1.out, HL2.out]) (b16_size _ HL2.out) ?_
      intro wy hrowy hgy
      have By := below_kept Bd hgy Bd.size (by rintro q hq; cases hq; exact Nat.le_refl _)
      have ry := rtd.kept hgy (by simp; omega)
      have cy := (By.cell hpl).trans hcell
      refine hK _ _ cy ?_
      clear hK K
      simp only [Act.put]
      refine plan_done ?_
      go_wp2_with fail
      go_roundg (gk - 1)
      case measure => omega
      case rel => exact ⟨m + 1, by go_num, by omega, by omega, hrowy, ry, By⟩
    · obtain rfl : m = n := by omega
      have HL1 := HAL m
      have hz := hbr.size
      go_wp2_with (first
        | (with_reducible refine wpList_load_all (o := ⟨some 14, _, _, _, _, _⟩) rfl _ _ rfl w.heap.size rfl _ _ hra _ Tryd.underlying23 rfl (b16_size _ HL1.out) ?_)
        | (with_reducible refine wpList_store_all (o := ⟨none, _, _, _, _, _⟩) rfl _ _ _ rfl w1.heap.size rfl _ _ hrb (bvs (F m)) rfl (bvs_one _) (b16_zeros _ HL1.out) (b16_size _ HL1.out) ?_; intro w4 hrb4 hg4))
      have hload := run_loadVar_at (P := Tryd.prog) w4 23 ⟨w1.heap.size, 0, none⟩ (bvs (F m)) hrb4.cells _ Tryd.underlying23 rfl (b16_size _ HL1.out)
      exact bodyPost_ret (results_cell1 Tryd.results34 _ _ _ _ rfl hload) rfl ⟨rfl, below_kept hbr hg4 hz (by rintro k hk; cases hk; omega)⟩

set_option maxRecDepth 100000 in
set_option maxHeartbeats 1000000 in
theorem value_any (seed : List UInt8) (hs : seed.length = 16) (index : Int) (h1 : -9223372036854775808 ≤ index) (h2 : index ≤ 9223372036854775807) (k : Nat) (hk : k ≤ 1000000) (n : Nat) (hn : n ≤ 1000) (w : World) (hK : Consts w) :
    Calls Tryd.prog 28 #[.agg (bvs seed).toArray, .int .i64 index, .int .i64 (k : Int), .int .i64 (n : Int)] w (GivesV (.agg (bvs (wAdv k (wStart seed index k) n)).toArray) w) := by
  have HS := Lib.hid hs
  have HSL := Lib.hid (wStart_len seed index k)
  have HVL := Lib.hid (wAdv_len k (wStart_len seed index k) n)
  have HDE := fun A1 A2 n1 c1 n2 c2 => Lib.hid (drv_wots seed index k A1 A2 n1 c1 n2 c2)
  have HI1 := fun W => Lib.hid (int_any index W h1 h2)
  have HI2 := fun W => Lib.hid (int_any (k : Int) W (by omega) (by omega))
  have HE1 := Lib.hid (encInt_le10 index h1 h2)
  have HE2 := Lib.hid (encInt_le10 (k : Int) (by omega) (by omega))
  have HAN := fun W => Lib.hid (advancer_any k hk W)
  have HAD := fun p W hc hp => Lib.hid (adv_any k hk p (wStart seed index k) (wStart_len seed index k) n hn W hc hp)
  generalize wAdv k (wStart seed index k) n = V at *
  generalize wStart seed index k = D at *
  generalize encInt (k : Int) = E2 at *
  generalize encInt index = E1 at *
  clear hs
  have hCo := hK
  go_enter Tryd.func28, Tryd.ntmps28
  go_wp2_with (first
    | (with_reducible refine wpList_box_row (o := ⟨some 4, _, _, _, _, _⟩) rfl _ _ rfl (bvs seed) rfl ?_; intro w1 hrow1 hs1 hg1)
    | (with_reducible refine wpList_alloc_row (o := ⟨some 8, _, _, _, _, _⟩) rfl _ rfl zeros16 zero_b16 ?_; intro w2 hrow2 hs2 hg2; have hrow1' := hrow1.kept hg2 (by simp)))
  have hb2 : Below w.heap.size w w2 := below_kept (grown_below hg1 (Nat.le_refl _) (by simp)) hg2 (by omega) (by simp)
  have hlt2 := hrow2.lt
  clear hrow1 hg1 hg2
  simp only [Act.put, List.setIfInBounds_toArray, List.set_cons_zero, List.set_cons_succ]
  go_cut [9] (fun s9 wc => ∃ g, s9 = .pointer (some ⟨g, 0, none⟩) ∧ Row wc g 23 (bvs D) ∧ Row wc w1.heap.size 23 zeros16 ∧ w1.heap.size < g ∧ Below w.heap.size w wc)
  case first =>
    refine wp_region_plan (fun _ => True) (.take 0 <| .take 1 <| .take 3 <| .two 2 (.two 4 (.two 5 (.two 6 (.one 7 <| .one 8 <| .done) 7 (.one 6 <| .one 8 <| .done)) 7 (.one 5 <| .one 6 <| .one 8 <| .done)) 7 (.one 4 <| .one 5 <| .one 6 <| .one 8 <| .done)) 7 (.one 2 <| .one 4 <| .one 5 <| .one 6 <| .one 8 <| .done)) (by kernel_rfl) (by kernel_rfl) (by kernel_rfl) (fun _ _ _ _ _ h => h) True.intro ?_
    repeat (refine plan_take _ rfl ?_; go_big_quiet_step ((intros; rfl)); refine wpQuiet_nil ?_)
    refine plan_two ?_ ?_
    · refine step_at _ rfl fun K hK => ?_
      go_simp
      refine ((HI1 _).out).mono ?_
      rintro e wx1 ⟨vx1, rfl, ox1, hx1⟩
      obtain ⟨Ax1, cx1, rfl, cix1, _, rix10⟩ := own_form ox1
      have Bx2 := hb2.drew.trans (hx1.mono hb2.drew.size)
      have sx2 := hrow1'.drew.on hx1
      have t8x2 := hrow2.drew.on hx1
      refine hK _ _ True.intro ?_
      clear hK K
      refine plan_two ?_ ?_
      · refine step_at _ rfl fun K hK => ?_
        go_simp
        refine ((HI2 _).out).mono ?_
        rintro e wx3 ⟨vx3, rfl, ox3, hx3⟩
        obtain ⟨Ax3, cx3, rfl, ckx3, _, rkx30⟩ := own_form ox3
        have Bx4 := Bx2.trans (hx3.mono Bx2.size)
        have sx4 := sx2.on hx3
        have t8x4 := t8x2.on hx3
        have ix4 := rix10.on hx3
        refine hK _ _ True.intro ?_
        clear hK K
        refine plan_two ?_ ?_
        · refine step_at _ rfl fun K hK => ?_
          go_simp
          have hrpx5 := readsP_two wx3 41 Ax1 Ax3 E1.length cx1 E2.length cx3 E1 E2 ix4 cix1 rkx30 ckx3
          have hx5 : Below wx3.heap.size wx3 (wx3.alloc (.cells #[.slice Ax1 E1.length cx1, .slice Ax3 E2.length cx3] 41)) := (Below.refl _ _).alloc (Nat.le_refl _) _
          have Bx6 := Bx4.trans (hx5.mono Bx4.size)
          have sx6 := sx4.on hx5
          have t8x6 := t8x4.on hx5
          have ix6 := ix4.on hx5
          have kx6 := rkx30.on hx5
          refine hK _ _ True.intro ?_
          clear hK K
          refine plan_two ?_ ?_
          · refine step_at _ rfl fun K hK => ?_
            go_simp
            refine (derive_any _ _ seed 16 ⟨#[119, 111, 116, 115]⟩ _ 2 _ 2 _ (hCo.on Bx6) (sx6.reads16 HS.out) (Nat.le_refl _) (by omega) (by decide) hrpx5 (by omega) (parts_two_le _ _ 300 (show E1.length ≤ 300 by have := HE1.out; omega) (show E2.length ≤ 300 by have := HE2.out; omega))).mono ?_
            rintro e wx7 ⟨rfl, hx7⟩
            rw [show drv seed (⟨#[119, 111, 116, 115]⟩ : ByteArray).data.toList _ = D from (HDE Ax1 Ax3 E1.length cx1 E2.length cx3).out]
            have Bx8 := Bx6.trans (hx7.mono Bx6.size)
            have sx8 := sx6.on hx7
            have t8x8 := t8x6.on hx7
            have ix8 := ix6.on hx7
            have kx8 := kx6.on hx7
            have psx8 := hrpx5.on hx7
            refine hK _ _ True.intro ?_
            clear hK K
            refine plan_one _ rfl fun K hK => ?_
            refine step_alloc rfl _ rfl zeros16 zero_b16 ?_
            intro wx9 rx9 sx9 kx9
            have hx9 : Below wx7.heap.size wx7 wx9 := grown_below kx9 (Nat.le_refl _) (by simp)
            have zzx9 := Bx8.size
            have zsx9 := sx8.lt
            have zt8x9 := t8x8.lt
            have Bx10 := Bx8.trans (hx9.mono Bx8.size)
            have sx10 := sx8.on hx9
            have t8x10 := t8x8.on hx9
            have ix10 := ix8.on hx9
            have kx10 := kx8.on hx9
            have psx10 := psx8.on hx9
            refine hK _ _ True.intro ?_
            clear hK K
            simp only [Act.put, List.setIfInBounds_toArray, List.set_cons_zero, List.set_cons_succ]
            refine plan_one _ rfl fun K hK => ?_
            refine step_store_all rfl _ _ _ rfl wx7.heap.size rfl _ _ rx9 (bvs D) rfl (bvs_one _) (b16_zeros _ HSL.out) (b16_size _ HSL.out) ?_
            intro wx11 rx11 kx11
            have Bx11 := below_kept Bx10 kx11 Bx10.size (by rintro k hk; cases hk; exact zzx9)
            have sx11 := sx10.kept kx11 (by simp; omega)
            have t8x11 := t8x10.kept kx11 (by simp; omega)
            refine hK _ _ True.intro ?_
            clear hK K
            simp only [Act.put]
            refine plan_done ?_
            go_wp2_with fail
            go_meet
            exact ⟨_, rfl, rx11, t8x11, by have := zzx9; omega, Bx11⟩
          · refine step_at _ rfl fun K hK => ?_
            refine step_alloc rfl _ rfl zeros16 zero_b16 ?_
            intro wx12 rx12 sx12 kx12
            have hx12 : Below (wx3.alloc (.cells #[.slice Ax1 E1.length cx1, .slice Ax3 E2.length cx3] 41)).heap.size (wx3.alloc (.cells #[.slice Ax1 E1.length cx1, .slice Ax3 E2.length cx3] 41)) wx12 := grown_below kx12 (Nat.le_refl _) (by simp)
            have zzx12 := Bx6.size
            have zsx12 := sx6.lt
            have zt8x12 := t8x6.lt
            have Bx13 := Bx6.trans (hx12.mono Bx6.size)
            have sx13 := sx6.on hx12
            have t8x13 := t8x6.on hx12
            have ix13 := ix6.on hx12
            have kx13 := kx6.on hx12
            have psx13 := hrpx5.on hx12
            have erx12 : (wx3.alloc (.cells #[.slice Ax1 E1.length cx1, .slice Ax3 E2.length cx3] 41)).heap.size = wx3.heap.size + 1 := by simp
            rw [erx12] at rx12
            rw [erx12] at zzx12
            refine hK _ _ True.intro ?_
            clear hK K
            simp only [Act.put, List.setIfInBounds_toArray, List.set_cons_zero, List.set_cons_succ]
            refine plan_one _ rfl fun K hK => ?_
            go_simp
            refine (derive_any _ _ seed 16 ⟨#[119, 111, 116, 115]⟩ _ 2 _ 2 _ (hCo.on Bx13) (sx13.reads16 HS.out) (Nat.le_refl _) (by omega) (by decide) psx13 (by omega) (parts_two_le _ _ 300 (show E1.length ≤ 300 by have := HE1.out; omega) (show E2.length ≤ 300 by have := HE2.out; omega))).mono ?_
            rintro e wx14 ⟨rfl, hx14⟩
            rw [show drv seed (⟨#[119, 111, 116, 115]⟩ : ByteArray).data.toList _ = D from (HDE Ax1 Ax3 E1.length cx1 E2.length cx3).out]
            have Bx15 := Bx13.trans (hx14.mono Bx13.size)
            have sx15 := sx13.on hx14
            have t8x15 := t8x13.on hx14
            have ix15 := ix13.on hx14
            have kx15 := kx13.on hx14
            have psx15 := psx13.on hx14
            have t9x15 := rx12.on hx14
            refine hK _ _ True.intro ?_
            clear hK K
            refine plan_one _ rfl fun K hK => ?_
            refine step_store_all rfl _ _ _ rfl (wx3.heap.size + 1) rfl _ _ t9x15 (bvs D) rfl (bvs_one _) (b16_zeros _ HSL.out) (b16_size _ HSL.out) ?_
            intro wx16 rx16 kx16
            have Bx16 := below_kept Bx15 kx16 Bx15.size (by rintro k hk; cases hk; exact zzx12)
            have sx16 := sx15.kept kx16 (by simp; omega)
            have t8x16 := t8x15.kept kx16 (by simp; omega)
            refine hK _ _ True.intro ?_
            clear hK K
            simp only [Act.put]
            refine plan_done ?_
            go_wp2_with fail
            go_meet
            exact ⟨_, rfl, rx16, t8x16, by have := zzx12; omega, Bx16⟩
        · refine step_at _ rfl fun K hK => ?_
          refine step_alloc rfl _ rfl zeros16 zero_b16 ?_
          intro wx17 rx17 sx17 kx17
          have hx17 : Below wx3.heap.size wx3 wx17 := grown_below kx17 (Nat.le_refl _) (by simp)
          have zzx17 := Bx4.size
          have zsx17 := sx4.lt
          have zt8x17 := t8x4.lt
          have Bx18 := Bx4.trans (hx17.mono Bx4.size)
          have sx18 := sx4.on hx17
          have t8x18 := t8x4.on hx17
          have ix18 := ix4.on hx17
          have kx18 := rkx30.on hx17
          refine hK _ _ True.intro ?_
          clear hK K
          simp only [Act.put, List.setIfInBounds_toArray, List.set_cons_zero, List.set_cons_succ]
          refine plan_one _ rfl fun K hK => ?_
          go_simp
          have hrpx19 := readsP_two wx17 41 Ax1 Ax3 E1.length cx1 E2.length cx3 E1 E2 ix18 cix1 kx18 ckx3
          have hx19 : Below wx17.heap.size wx17 (wx17.alloc (.cells #[.slice Ax1 E1.length cx1, .slice Ax3 E2.length cx3] 41)) := (Below.refl _ _).alloc (Nat.le_refl _) _
          have Bx20 := Bx18.trans (hx19.mono Bx18.size)
          have sx20 := sx18.on hx19
          have t8x20 := t8x18.on hx19
          have ix20 := ix18.on hx19
          have kx20 := kx18.on hx19
          have t9x20 := rx17.on hx19
          refine hK _ _ True.intro ?_
          clear hK K
          refine plan_one _ rfl fun K hK => ?_
          go_simp
          refine (derive_any _ _ seed 16 ⟨#[119, 111, 116, 115]⟩ _ 2 _ 2 _ (hCo.on Bx20) (sx20.reads16 HS.out) (Nat.le_refl _) (by omega) (by decide) hrpx19 (by omega) (parts_two_le _ _ 300 (show E1.length ≤ 300 by have := HE1.out; omega) (show E2.length ≤ 300 by have := HE2.out; omega))).mono ?_
          rintro e wx21 ⟨rfl, hx21⟩
          rw [show drv seed (⟨#[119, 111, 116, 115]⟩ : ByteArray).data.toList _ = D from (HDE Ax1 Ax3 E1.length cx1 E2.length cx3).out]
          have Bx22 := Bx20.trans (hx21.mono Bx20.size)
          have sx22 := sx20.on hx21
          have t8x22 := t8x20.on hx21
          have ix22 := ix20.on hx21
          have kx22 := kx20.on hx21
          have t9x22 := t9x20.on hx21
          have psx22 := hrpx19.on hx21
          refine hK _ _ True.intro ?_
          clear hK K
          refine plan_one _ rfl fun K hK => ?_
          refine step_store_all rfl _ _ _ rfl wx3.heap.size rfl _ _ t9x22 (bvs D) rfl (bvs_one _) (b16_zeros _ HSL.out) (b16_size _ HSL.out) ?_
          intro wx23 rx23 kx23
          have Bx23 := below_kept Bx22 kx23 Bx22.size (by rintro k hk; cases hk; exact zzx17)
          have sx23 := sx22.kept kx23 (by simp; omega)
          have t8x23 := t8x22.kept kx23 (by simp; omega)
          refine hK _ _ True.intro ?_
          clear hK K
          simp only [Act.put]
          refine plan_done ?_
          go_wp2_with fail
          go_meet
          exact ⟨_, rfl, rx23, t8x23, by have := zzx17; omega, Bx23⟩
      · refine step_at _ rfl fun K hK => ?_
        refine step_alloc rfl _ rfl zeros16 zero_b16 ?_
        intro wx24 rx24 sx24 kx24
        have hx24 : Below wx1.heap.size wx1 wx24 := grown_below kx24 (Nat.le_refl _) (by simp)
        have zzx24 := Bx2.size
        have zsx24 := sx2.lt
        have zt8x24 := t8x2.lt
        have Bx25 := Bx2.trans (hx24.mono Bx2.size)
        have sx25 := sx2.on hx24
        have t8x25 := t8x2.on hx24
        have ix25 := rix10.on hx24
        refine hK _ _ True.intro ?_
        clear hK K
        simp only [Act.put, List.setIfInBounds_toArray, List.set_cons_zero, List.set_cons_succ]
        refine plan_one _ rfl fun K hK => ?_
        go_simp
        refine ((HI2 _).out).mono ?_
        rintro e wx26 ⟨vx26, rfl, ox26, hx26⟩
        obtain ⟨Ax26, cx26, rfl, ckx26, _, rkx260⟩ := own_form ox26
        have Bx27 := Bx25.trans (hx26.mono Bx25.size)
        have sx27 := sx25.on hx26
        have t8x27 := t8x25.on hx26
        have ix27 := ix25.on hx26
        have t9x27 := rx24.on hx26
        refine hK _ _ True.intro ?_
        clear hK K
        refine plan_one _ rfl fun K hK => ?_
        go_simp
        have hrpx28 := readsP_two wx26 41 Ax1 Ax26 E1.length cx1 E2.length cx26 E1 E2 ix27 cix1 rkx260 ckx26
        have hx28 : Below wx26.heap.size wx26 (wx26.alloc (.cells #[.slice Ax1 E1.length cx1, .slice Ax26 E2.length cx26] 41)) := (Below.refl _ _).alloc (Nat.le_refl _) _
        have Bx29 := Bx27.trans (hx28.mono Bx27.size)
        have sx29 := sx27.on hx28
        have t8x29 := t8x27.on hx28
        have ix29 := ix27.on hx28
        have t9x29 := t9x27.on hx28
        have kx29 := rkx260.on hx28
        refine hK _ _ True.intro ?_
        clear hK K
        refine plan_one _ rfl fun K hK => ?_
        go_simp
        refine (derive_any _ _ seed 16 ⟨#[119, 111, 116, 115]⟩ _ 2 _ 2 _ (hCo.on Bx29) (sx29.reads16 HS.out) (Nat.le_refl _) (by omega) (by decide) hrpx28 (by omega) (parts_two_le _ _ 300 (show E1.length ≤ 300 by have := HE1.out; omega) (show E2.length ≤ 300 by have := HE2.out; omega))).mono ?_
        rintro e wx30 ⟨rfl, hx30⟩
        rw [show drv seed (⟨#[119, 111, 116, 115]⟩ : ByteArray).data.toList _ = D from (HDE Ax1 Ax26 E1.length cx1 E2.length cx26).out]
        have Bx31 := Bx29.trans (hx30.mono Bx29.size)
        have sx31 := sx29.on hx30
        have t8x31 := t8x29.on hx30
        have ix31 := ix29.on hx30
        have t9x31 := t9x29.on hx30
        have kx31 := kx29.on hx30
        have psx31 := hrpx28.on hx30
        refine hK _ _ True.intro ?_
        clear hK K
        refine plan_one _ rfl fun K hK => ?_
        refine step_store_all rfl _ _ _ rfl wx1.heap.size rfl _ _ t9x31 (bvs D) rfl (bvs_one _) (b16_zeros _ HSL.out) (b16_size _ HSL.out) ?_
        intro wx32 rx32 kx32
        have Bx32 := below_kept Bx31 kx32 Bx31.size (by rintro k hk; cases hk; exact zzx24)
        have sx32 := sx31.kept kx32 (by simp; omega)
        have t8x32 := t8x31.kept kx32 (by simp; omega)
        refine hK _ _ True.intro ?_
        clear hK K
        simp only [Act.put]
        refine plan_done ?_
        go_wp2_with fail
        go_meet
        exact ⟨_, rfl, rx32, t8x32, by have := zzx24; omega, Bx32⟩
    · refine step_at _ rfl fun K hK => ?_
      refine step_alloc rfl _ rfl zeros16 zero_b16 ?_
      intro wx33 rx33 sx33 kx33
      have hx33 : Below w2.drew.heap.size w2.drew wx33 := grown_below kx33 (Nat.le_refl _) (by simp)
      have zzx33 := hb2.drew.size
      have zsx33 := hrow1'.drew.lt
      have zt8x33 := hrow2.drew.lt
      have Bx34 := hb2.drew.trans (hx33.mono hb2.drew.size)
      have sx34 := hrow1'.drew.on hx33
      have t8x34 := hrow2.drew.on hx33
      refine hK _ _ True.intro ?_
      clear hK K
      simp only [Act.put, List.setIfInBounds_toArray, List.set_cons_zero, List.set_cons_succ]
      refine plan_one _ rfl fun K hK => ?_
      go_simp
      refine ((HI1 _).out).mono ?_
      rintro e wx35 ⟨vx35, rfl, ox35, hx35⟩
      obtain ⟨Ax35, cx35, rfl, cix35, _, rix350⟩ := own_form ox35
      have Bx36 := Bx34.trans (hx35.mono Bx34.size)
      have sx36 := sx34.on hx35
      have t8x36 := t8x34.on hx35
      have t9x36 := rx33.on hx35
      refine hK _ _ True.intro ?_
      clear hK K
      refine plan_one _ rfl fun K hK => ?_
      go_simp
      refine ((HI2 _).out).mono ?_
      rintro e wx37 ⟨vx37, rfl, ox37, hx37⟩
      obtain ⟨Ax37, cx37, rfl, ckx37, _, rkx370⟩ := own_form ox37
      have Bx38 := Bx36.trans (hx37.mono Bx36.size)
      have sx38 := sx36.on hx37
      have t8x38 := t8x36.on hx37
      have t9x38 := t9x36.on hx37
      have ix38 := rix350.on hx37
      refine hK _ _ True.intro ?_
      clear hK K
      refine plan_one _ rfl fun K hK => ?_
      go_simp
      have hrpx39 := readsP_two wx37 41 Ax35 Ax37 E1.length cx35 E2.length cx37 E1 E2 ix38 cix35 rkx370 ckx37
      have hx39 : Below wx37.heap.size wx37 (wx37.alloc (.cells #[.slice Ax35 E1.length cx35, .slice Ax37 E2.length cx37] 41)) := (Below.refl _ _).alloc (Nat.le_refl _) _
      have Bx40 := Bx38.trans (hx39.mono Bx38.size)
      have sx40 := sx38.on hx39
      have t8x40 := t8x38.on hx39
      have t9x40 := t9x38.on hx39
      have ix40 := ix38.on hx39
      have kx40 := rkx370.on hx39
      refine hK _ _ True.intro ?_
      clear hK K
      refine plan_one _ rfl fun K hK => ?_
      go_simp
      refine (derive_any _ _ seed 16 ⟨#[119, 111, 116, 115]⟩ _ 2 _ 2 _ (hCo.on Bx40) (sx40.reads16 HS.out) (Nat.le_refl _) (by omega) (by decide) hrpx39 (by omega) (parts_two_le _ _ 300 (show E1.length ≤ 300 by have := HE1.out; omega) (show E2.length ≤ 300 by have := HE2.out; omega))).mono ?_
      rintro e wx41 ⟨rfl, hx41⟩
      rw [show drv seed (⟨#[119, 111, 116, 115]⟩ : ByteArray).data.toList _ = D from (HDE Ax35 Ax37 E1.length cx35 E2.length cx37).out]
      have Bx42 := Bx40.trans (hx41.mono Bx40.size)
      have sx42 := sx40.on hx41
      have t8x42 := t8x40.on hx41
      have t9x42 := t9x40.on hx41
      have ix42 := ix40.on hx41
      have kx42 := kx40.on hx41
      have psx42 := hrpx39.on hx41
      refine hK _ _ True.intro ?_
      clear hK K
      refine plan_one _ rfl fun K hK => ?_
      refine step_store_all rfl _ _ _ rfl w2.drew.heap.size rfl _ _ t9x42 (bvs D) rfl (bvs_one _) (b16_zeros _ HSL.out) (b16_size _ HSL.out) ?_
      intro wx43 rx43 kx43
      have Bx43 := below_kept Bx42 kx43 Bx42.size (by rintro k hk; cases hk; exact zzx33)
      have sx43 := sx42.kept kx43 (by simp; omega)
      have t8x43 := t8x42.kept kx43 (by simp; omega)
      refine hK _ _ True.intro ?_
      clear hK K
      simp only [Act.put]
      refine plan_done ?_
      go_wp2_with fail
      go_meet
      exact ⟨_, rfl, rx43, t8x43, by have := zzx33; omega, Bx43⟩
  case rest =>
    obtain ⟨g, rfl, hrD, hrT, hgt, hbc⟩ := hcut
    go_wp2_with fail
    refine wp_region_plan (fun w' => Row w' g 23 (bvs D)) (.take 0 <| .take 2 <| .take 3 <| .one 1 <| .one 4 <| .one 5 <| .done) (by kernel_rfl) (by kernel_rfl) (by kernel_rfl) (fun _ _ _ _ _ h => h) hrD.drew ?_
    repeat (refine plan_take _ rfl ?_; (first | (refine wpQuiet_valueG (o := ⟨some 19, _, _, _, _, _⟩) rfl _ (by intro _ h; exact exec_load16 _ _ rfl _ rfl D HSL.out h.cells) (wpQuiet_nil ?_); simp only [Act.put, List.setIfInBounds_toArray, List.set_cons_zero, List.set_cons_succ]) | (go_big_quiet_step ((intros; rfl)); refine wpQuiet_nil ?_)))
    refine plan_one _ rfl fun K hK => ?_
    go_simp
    refine (HAN _).out.mono ?_
    rintro e wa ⟨p, rfl, hpa, hba⟩
    have rDa := hrD.drew.on hba
    have rTa := hrT.drew.on hba
    have Ba := hbc.drew.trans (hba.mono hbc.drew.size)
    unfold advV
    refine hK _ _ rDa ?_
    clear hK K
    refine plan_one _ rfl fun K hK => ?_
    go_simp
    refine (HAD p _ (hCo.on Ba) hpa).out.mono ?_
    rintro e wb ⟨rfl, hbb⟩
    have rTb := rTa.on hbb
    have rDb := rDa.on hbb
    have Bb := Ba.trans (hbb.mono Ba.size)
    refine hK _ _ rDb ?_
    clear hK K
    refine plan_one _ rfl fun K hK => ?_
    refine step_store_all rfl _ _ _ rfl w1.heap.size rfl _ _ rTb (bvs V) rfl (bvs_one _) (b16_zeros _ HVL.out) (b16_size _ HVL.out) ?_
    intro wy hrowy hgy
    have ry := rDb.kept hgy (by simp; omega)
    refine hK _ _ ry ?_
    clear hK K
    simp only [Act.put]
    refine plan_done ?_
    go_wp2_with fail
    have hload := run_loadVar_at (P := Tryd.prog) wy 23 ⟨w1.heap.size, 0, none⟩ (bvs V) hrowy.cells _ Tryd.underlying23 rfl (b16_size _ HVL.out)
    exact bodyPost_ret (results_cell1 Tryd.results28 _ _ _ _ rfl hload) rfl ⟨rfl, below_kept Bb hgy Bb.size (by rintro q hq; cases hq; omega)⟩
end Go.Proofs.YtojdondipkbjhaaDoor
