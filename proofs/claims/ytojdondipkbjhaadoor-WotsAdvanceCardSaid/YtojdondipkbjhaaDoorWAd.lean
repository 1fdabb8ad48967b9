/-
  WotsAdvance's walk. Condition: the table of constants as laid.
-/
import Derived.Test.YtojdondipkbjhaaDoorWVf
import Derived.Test.YtojdondipkbjhaaDoorStep4
namespace Go.Proofs.YtojdondipkbjhaaDoor
open Go.RowKit

theorem wSign_16 (seed : List UInt8) (index : Int) (msg : List UInt8) : Len16 (wSign seed index msg) := fun d hd => by
  obtain ⟨k, hk, rfl⟩ := List.mem_map.1 hd
  exact wAdv_len k (wStart_len seed index k) _

set_option maxRecDepth 100000 in
set_option maxHeartbeats 2000000 in
theorem walkAd (seed a b : List UInt8) (hs : seed.length = 16) (ha : a.length = 16) (hb : b.length = 16) (index : Int) (h1 : -9223372036854775808 ≤ index) (h2 : index ≤ 9223372036854775807) (w : World) (hK : Consts w) :
    Calls Tryd.prog 7 #[.agg (bvs seed).toArray, .int .i64 index, .agg (bvs a).toArray, .agg (bvs b).toArray] w fun e w' => e = .returned (.bool true) ∧ Below w.heap.size w w' := by
  have HS := Lib.hid hs
  have HA := Lib.hid ha
  have HB := Lib.hid hb
  have HDA := fun W => Lib.hid (digits_any a ha W)
  have HDB := fun W => Lib.hid (digits_any b hb W)
  have HGA := fun W hW => Lib.hid (sign_any seed a hs ha index h1 h2 W hW)
  have HGB := fun W hW => Lib.hid (sign_any seed b hs hb index h1 h2 W hW)
  have HLA := Lib.hid (wDigs_len a)
  have HLB := Lib.hid (wDigs_len b)
  have HLGA := Lib.hid (wSign_len seed index a)
  have HLGB := Lib.hid (wSign_len seed index b)
  have HGA16 := Lib.hid (wSign_16 seed index a)
  have HGB16 := Lib.hid (wSign_16 seed index b)
  have HAA := fun k hk => Lib.hid (wDigs_at a (k := k) hk)
  have HAB := fun k hk => Lib.hid (wDigs_at b (k := k) hk)
  have HSA := fun k hk => Lib.hid (wSign_at seed index a (k := k) hk)
  have HSB := fun k hk => Lib.hid (wSign_at seed index b (k := k) hk)
  have HSL := fun k => Lib.hid (wStart_len seed index k)
  have hda := wD_le a
  have hdb := wD_le b
  generalize wDigs a = DA at *
  generalize wDigs b = DB at *
  generalize wSign seed index a = GA at *
  generalize wSign seed index b = GB at *
  generalize wStart seed index = ST at *
  clear hs ha hb
  go_enter Tryd.func7, Tryd.ntmps7
  go_wp2_with (first
    | (with_reducible refine wpList_box_row (o := ⟨some 4, _, _, _, _, _⟩) rfl _ _ rfl (bvs seed) rfl ?_; intro w1 hrow1 hs1 hg1)
    | (with_reducible refine wpList_box_row (o := ⟨some 6, _, _, _, _, _⟩) rfl _ _ rfl (bvs a) rfl ?_; intro w2 hrow2 hs2 hg2)
    | (with_reducible refine wpList_box_row (o := ⟨some 7, _, _, _, _, _⟩) rfl _ _ rfl (bvs b) rfl ?_; intro w3 hrow3 hs3 hg3))
  have hCo := hK
  have hrow2' := hrow2.kept hg3 (by simp)
  have hrow1' := (hrow1.kept hg2 (by simp)).kept hg3 (by simp)
  have hb3 : Below w.heap.size w w3 := below_kept (below_kept (grown_below hg1 (Nat.le_refl _) (by simp)) hg2 (by omega) (by simp)) hg3 (by omega) (by simp)
  have hlt3 := hrow3.lt
  clear hrow1 hrow2 hg1 hg2 hg3
  refine wp_region_plan (fun w' => Row w' w.heap.size 23 (bvs seed) ∧ Row w' w1.heap.size 23 (bvs a) ∧ Row w' w2.heap.size 23 (bvs b)) (.take 0 <| .take 2 <| .one 1 <| .one 3 <| .take 4 <| .take 5 <| .done) (by kernel_rfl) (by kernel_rfl) (by kernel_rfl) (fun _ _ _ _ _ h => h) ⟨hrow1'.drew, hrow2'.drew, hrow3.drew⟩ ?_
  repeat (refine plan_take _ rfl ?_; (first | (refine wpQuiet_valueG (o := ⟨some 15, _, _, _, _, _⟩) rfl _ (by intro _ h; exact exec_load16 _ _ rfl _ rfl a HA.out h.2.1.cells) (wpQuiet_nil ?_); simp only [Act.put, List.setIfInBounds_toArray, List.set_cons_zero, List.set_cons_succ]) | (refine wpQuiet_valueG (o := ⟨some 17, _, _, _, _, _⟩) rfl _ (by intro _ h; exact exec_load16 _ _ rfl _ rfl b HB.out h.2.2.cells) (wpQuiet_nil ?_); simp only [Act.put, List.setIfInBounds_toArray, List.set_cons_zero, List.set_cons_succ]) | (go_big_quiet_step ((intros; rfl)); refine wpQuiet_nil ?_)))
  refine plan_one _ rfl fun K hK => ?_
  go_simp
  refine ((HDA _).out).mono ?_
  rintro e wx1 ⟨vx1, rfl, ⟨_, ox1⟩, hx1⟩
  obtain ⟨Aa, ca, rfl, hca, _, la0⟩ := own_form ox1
  rw [HLA.out] at hca la0 ⊢
  have Bx2 := hb3.drew.trans (hx1.mono hb3.drew.size)
  have rsx2 := hrow1'.drew.on hx1
  have rax2 := hrow2'.drew.on hx1
  have rbx2 := hrow3.drew.on hx1
  have Kx2 := (hCo.on hb3.drew).on hx1
  refine hK _ _ ⟨rsx2, rax2, rbx2⟩ ?_
  clear hK K
  refine plan_one _ rfl fun K hK => ?_
  go_simp
  refine ((HDB _).out).mono ?_
  rintro e wx3 ⟨vx3, rfl, ⟨_, ox3⟩, hx3⟩
  obtain ⟨Ab, cb, rfl, hcb, _, lb0⟩ := own_form ox3
  rw [HLB.out] at hcb lb0 ⊢
  have Bx4 := Bx2.trans (hx3.mono Bx2.size)
  have rsx4 := rsx2.on hx3
  have rax4 := rax2.on hx3
  have rbx4 := rbx2.on hx3
  have Kx4 := Kx2.on hx3
  have lax4 := la0.on hx3
  refine hK _ _ ⟨rsx4, rax4, rbx4⟩ ?_
  clear hK K
  repeat (refine plan_take _ rfl ?_; (first | (refine wpQuiet_valueG (o := ⟨some 15, _, _, _, _, _⟩) rfl _ (by intro _ h; exact exec_load16 _ _ rfl _ rfl a HA.out h.2.1.cells) (wpQuiet_nil ?_); simp only [Act.put, List.setIfInBounds_toArray, List.set_cons_zero, List.set_cons_succ]) | (refine wpQuiet_valueG (o := ⟨some 17, _, _, _, _, _⟩) rfl _ (by intro _ h; exact exec_load16 _ _ rfl _ rfl b HB.out h.2.2.cells) (wpQuiet_nil ?_); simp only [Act.put, List.setIfInBounds_toArray, List.set_cons_zero, List.set_cons_succ]) | (go_big_quiet_step ((intros; rfl)); refine wpQuiet_nil ?_)))
  refine plan_done ?_
  have hla := lax4
  have hlb := lb0
  have hrs := rsx4
  have hra := rax4
  have hrb := rbx4
  have hKa := Kx4
  have Ba := Bx4
  generalize wx3 = wa at *
  go_wp2_with fail
  have la1 : Reads wa.drew wa.drew.heap.size 1 Aa 68 (nvs DA) := hla
  have lb1 : Reads wa.drew wa.drew.heap.size 1 Ab 68 (nvs DB) := hlb
  refine wp_region_plan (fun w' => Row w' w.heap.size 23 (bvs seed) ∧ Row w' w1.heap.size 23 (bvs a) ∧ Row w' w2.heap.size 23 (bvs b)) (.take 0 <| .take 1 <| .take 2 <| .take 4 <| .take 5 <| .take 6 <| .one 3 <| .one 7 <| .take 8 <| .take 9 <| .done) (by kernel_rfl) (by kernel_rfl) (by kernel_rfl) (fun _ _ _ _ _ h => h) ⟨hrs.drew, hra.drew, hrb.drew⟩ ?_
  repeat (refine plan_take _ rfl ?_; (first | (refine wpQuiet_valueG (o := ⟨some 19, _, _, _, _, _⟩) rfl _ (by intro _ h; exact exec_load16 _ _ rfl _ rfl seed HS.out h.1.cells) (wpQuiet_nil ?_); simp only [Act.put, List.setIfInBounds_toArray, List.set_cons_zero, List.set_cons_succ]) | (refine wpQuiet_valueG (o := ⟨some 21, _, _, _, _, _⟩) rfl _ (by intro _ h; exact exec_load16 _ _ rfl _ rfl a HA.out h.2.1.cells) (wpQuiet_nil ?_); simp only [Act.put, List.setIfInBounds_toArray, List.set_cons_zero, List.set_cons_succ]) | (refine wpQuiet_valueG (o := ⟨some 23, _, _, _, _, _⟩) rfl _ (by intro _ h; exact exec_load16 _ _ rfl _ rfl seed HS.out h.1.cells) (wpQuiet_nil ?_); simp only [Act.put, List.setIfInBounds_toArray, List.set_cons_zero, List.set_cons_succ]) | (refine wpQuiet_valueG (o := ⟨some 25, _, _, _, _, _⟩) rfl _ (by intro _ h; exact exec_load16 _ _ rfl _ rfl b HB.out h.2.2.cells) (wpQuiet_nil ?_); simp only [Act.put, List.setIfInBounds_toArray, List.set_cons_zero, List.set_cons_succ]) | (go_big_quiet_step ((intros; rfl)); refine wpQuiet_nil ?_)))
  refine plan_one _ rfl fun K hK => ?_
  go_simp
  refine ((HGA _ (hCo.on Ba.drew)).out).mono ?_
  rintro e wx5 ⟨vx5, rfl, ox5, hx5⟩
  obtain ⟨Ga, cga, rfl, hcga, ga0⟩ := own_digs ox5 HGA16.out
  rw [HLGA.out] at hcga ga0 ⊢
  have Bx6 := Ba.drew.trans (hx5.mono Ba.drew.size)
  have rsx6 := hrs.drew.on hx5
  have rax6 := hra.drew.on hx5
  have rbx6 := hrb.drew.on hx5
  have lax6 := la1.on hx5
  have lbx6 := lb1.on hx5
  have Kx6 := (hCo.on Ba.drew).on hx5
  refine hK _ _ ⟨rsx6, rax6, rbx6⟩ ?_
  clear hK K
  refine plan_one _ rfl fun K hK => ?_
  go_simp
  refine ((HGB _ Kx6).out).mono ?_
  rintro e wx7 ⟨vx7, rfl, ox7, hx7⟩
  obtain ⟨Gb, cgb, rfl, hcgb, gb0⟩ := own_digs ox7 HGB16.out
  rw [HLGB.out] at hcgb gb0 ⊢
  have Bx8 := Bx6.trans (hx7.mono Bx6.size)
  have rsx8 := rsx6.on hx7
  have rax8 := rax6.on hx7
  have rbx8 := rbx6.on hx7
  have lax8 := lax6.on hx7
  have lbx8 := lbx6.on hx7
  have Kx8 := Kx6.on hx7
  have gax8 := ga0.on hx7
  refine hK _ _ ⟨rsx8, rax8, rbx8⟩ ?_
  clear hK K
  repeat (refine plan_take _ rfl ?_; (first | (refine wpQuiet_valueG (o := ⟨some 19, _, _, _, _, _⟩) rfl _ (by intro _ h; exact exec_load16 _ _ rfl _ rfl seed HS.out h.1.cells) (wpQuiet_nil ?_); simp only [Act.put, List.setIfInBounds_toArray, List.set_cons_zero, List.set_cons_succ]) | (refine wpQuiet_valueG (o := ⟨some 21, _, _, _, _, _⟩) rfl _ (by intro _ h; exact exec_load16 _ _ rfl _ rfl a HA.out h.2.1.cells) (wpQuiet_nil ?_); simp only [Act.put, List.setIfInBounds_toArray, List.set_cons_zero, List.set_cons_succ]) | (refine wpQuiet_valueG (o := ⟨some 23, _, _, _, _, _⟩) rfl _ (by intro _ h; exact exec_load16 _ _ rfl _ rfl seed HS.out h.1.cells) (wpQuiet_nil ?_); simp only [Act.put, List.setIfInBounds_toArray, List.set_cons_zero, List.set_cons_succ]) | (refine wpQuiet_valueG (o := ⟨some 25, _, _, _, _, _⟩) rfl _ (by intro _ h; exact exec_load16 _ _ rfl _ rfl b HB.out h.2.2.cells) (wpQuiet_nil ?_); simp only [Act.put, List.setIfInBounds_toArray, List.set_cons_zero, List.set_cons_succ]) | (go_big_quiet_step ((intros; rfl)); refine wpQuiet_nil ?_)))
  refine plan_done ?_
  have hla := lax8
  have hlb := lbx8
  have hga := gax8
  have hgb := gb0
  have hKb := Kx8
  have Bb := Bx8
  generalize wx7 = wb at *
  go_wp2_with fail
  go_loopg [47] 68 (fun g s wr => ∃ k : Nat, s = .int .i64 (k : Int) ∧ k ≤ 68 ∧ 68 ≤ g + k ∧ Below wb.heap.size wb wr)
  case atStart => exact ⟨0, rfl, by omega, by omega, Below.refl _ _⟩
  case round =>
    obtain ⟨k, rfl, hk, hg, hbr⟩ := hrel
    obtain ⟨g0, hg0⟩ : ∃ g0 : Nat, g0 = gk := ⟨_, rfl⟩
    obtain ⟨wr0, hwr0⟩ : ∃ wr0 : World, wr0 = wr := ⟨_, rfl⟩
    have hz := hbr.size
    by_cases hlt : k < 68
    · have hga' := hga.on hbr
      have hgb' := hgb.on hbr
      obtain ⟨al, u, rfl, hal, hu, hcu0⟩ := hla.at_ hlt
      have hcu := (hbr.cell (p := al.add k) (by rw [block_of_add]; exact hal)).trans hcu0
      rw [nvs_get (HAA k hlt).out] at hu
      obtain rfl : Value.int .i64 (wD a k : Int) = u := by simpa using hu
      obtain ⟨bl, v, rfl, hbl, hv, hcv0⟩ := hlb.at_ hlt
      have hcv := (hbr.cell (p := bl.add k) (by rw [block_of_add]; exact hbl)).trans hcv0
      rw [nvs_get (HAB k hlt).out] at hv
      obtain rfl : Value.int .i64 (wD b k : Int) = v := by simpa using hv
      have hx3 := hda k
      have hy3 := hdb k
      obtain ⟨ga, da, rfl, hgab, hda', hda16, hcda0⟩ := hga.1.dig_at hga.2 (k := k) hlt
      obtain ⟨gb, db, rfl, hgbb, hdb', hdb16, hcdb0⟩ := hgb.1.dig_at hgb.2 (k := k) hlt
      rw [(HSA k hlt).out] at hda'
      rw [(HSB k hlt).out] at hdb'
      obtain rfl : wAdv k (ST k) (wD a k) = da := by simpa using hda'
      obtain rfl : wAdv k (ST k) (wD b k) = db := by simpa using hdb'
      have HDA16 := Lib.hid hda16
      have HDB16 := Lib.hid hdb16
      have HCA : Hid (∀ j u, (bvs (wAdv k (ST k) (wD a k)))[j]? = some u → wr.cell? ((ga.add (k * 16)).add j) = some u) := fun j u hu => by
        rw [add_of_add]
        exact (hbr.cell (p := ga.add (k * 16 + j)) (by rw [block_of_add]; exact hgab)).trans (hcda0 j u hu)
      have HCB : Hid (∀ j u, (bvs (wAdv k (ST k) (wD b k)))[j]? = some u → wr.cell? ((gb.add (k * 16)).add j) = some u) := fun j u hu => by
        rw [add_of_add]
        exact (hbr.cell (p := gb.add (k * 16 + j)) (by rw [block_of_add]; exact hgbb)).trans (hcdb0 j u hu)
      have halw : (al.add k).block < wr.heap.size := by rw [block_of_add]; exact Nat.lt_of_lt_of_le hal hz
      have hblw : (bl.add k).block < wr.heap.size := by rw [block_of_add]; exact Nat.lt_of_lt_of_le hbl hz
      have hgbw : gb.block < wr.heap.size := Nat.lt_of_lt_of_le hgbb hz
      have HAV : ∀ j, Hid (wAdv k (wAdv k (ST k) (wD a k)) j = wAdv k (ST k) (wD a k + j)) := fun j => wAdv_add k (ST k) (wD a k) j
      have HAL : ∀ j, Hid ((wAdv k (wAdv k (ST k) (wD a k)) j).length = 16) := fun j => wAdv_len k hda16 j
      clear hu hv hcu0 hcv0 hda' hdb' hda16 hdb16 hcda0 hcdb0 hga' hgb' HAA HAB HSA HSB hda hdb HSL
      by_cases hgt : wD b k < wD a k
      · generalize wD a k = x at *
        generalize wD b k = y at *
        have T1 : decide ((y : Int) < (x : Int)) = true := decide_eq_true (by omega)
        go_wp2_with fail
        go_quiet (fail)
        go_wp2_with fail
        go_roundg (gk - 1)
        case measure => omega
        case rel => exact ⟨k + 1, by go_num, by omega, by omega, below_drewN hbr _⟩
      · have HXY : Hid (wAdv k (wAdv k (ST k) (wD a k)) (wD b k - wD a k) = wAdv k (ST k) (wD b k)) := by show _ = _; rw [wAdv_add, show wD a k + (wD b k - wD a k) = wD b k by omega]
        have HA0 : Hid (wAdv k (wAdv k (ST k) (wD a k)) 0 = wAdv k (ST k) (wD a k)) := rfl
        have HAS : ∀ j, Hid (wStep k (wAdv k (wAdv k (ST k) (wD a k)) j) = wAdv k (wAdv k (ST k) (wD a k)) (j + 1)) := fun _ => rfl
        have HSTP := fun j W hW => Lib.hid (step4_any k (by omega) (wAdv k (wAdv k (ST k) (wD a k)) j) (HAL j).out W hW)
        generalize wAdv k (wAdv k (ST k) (wD a k)) = FS at *
        generalize wAdv k (ST k) (wD a k) = SK at *
        generalize wAdv k (ST k) (wD b k) = TK at *
        generalize wD a k = x at *
        generalize wD b k = y at *
        have T1 : decide ((y : Int) < (x : Int)) = false := decide_eq_false (by omega)
        go_wp2_with fail
        go_quiet (fail)
        have e1 : (wr.drewN nq).cell? (al.add k) = some (.int .i64 (x : Int)) := hcu
        have e2 : (wr.drewN nq).cell? (bl.add k) = some (.int .i64 (y : Int)) := hcv
        have e3 : Hid (∀ j u, (bvs SK)[j]? = some u → (wr.drewN nq).cell? ((ga.add (k * 16)).add j) = some u) := HCA
        have e4 : Hid (∀ j u, (bvs TK)[j]? = some u → (wr.drewN nq).cell? ((gb.add (k * 16)).add j) = some u) := HCB
        have e5 : Below wb.heap.size wb (wr.drewN nq) := below_drewN hbr nq
        have e6 : (al.add k).block < (wr.drewN nq).heap.size := halw
        have e7 : (bl.add k).block < (wr.drewN nq).heap.size := hblw
        have e8 : gb.block < (wr.drewN nq).heap.size := hgbw
        have e9 := e5.size
        clear hcu hcv HCA HCB halw hblw hgbw T1
        generalize wr.drewN nq = wd at *
        go_wp2_with (first
          | (refine wpList_valueG (o := ⟨some 62, _, _, _, _, _⟩) rfl _ (by exact exec_load16 _ _ rfl _ rfl SK HDA16.out e3.out) ?_)
          | (with_reducible refine wpList_alloc_row (o := ⟨some 14, _, _, _, _, _⟩) rfl _ rfl zeros16 zero_b16 ?_; intro w5 hrow5 hs5 hg5)
          | (with_reducible refine wpList_store_all (o := ⟨none, _, _, _, _, _⟩) rfl _ _ _ rfl wd.heap.size rfl _ _ hrow5 (bvs SK) rfl (bvs_one _) (b16_zeros _ HDA16.out) (b16_size _ HDA16.out) ?_; intro w6 hrow6 hg6; have hb6 : Below wd.heap.size wd w6 := below_kept (grown_below hg5 (Nat.le_refl _) (by simp)) hg6 (by omega) (by rintro k hk; cases hk; exact Nat.le_refl _); have f1 := (hb6.cell e6).trans e1; have f2 := (hb6.cell e7).trans e2))
        clear hg5 hg6 hrow5 e1 e2 e3
        go_quiet (fail)
        have hrow7 : Row (w6.drewN nq) wd.heap.size 23 (bvs (FS 0)) := by rw [HA0.out]; exact hrow6
        have hb7 : Below wd.heap.size wd (w6.drewN nq) := below_drewN hb6 nq
        clear f1 f2 hrow6 hb6
        generalize w6.drewN nq = w7 at *
        clear hg0 hwr0
        obtain ⟨g1, rfl⟩ : ∃ g1 : Nat, g1 = gk := ⟨_, rfl⟩
        obtain ⟨w1r, rfl⟩ : ∃ w1r : World, w1r = wr := ⟨_, rfl⟩
        go_wp2_with fail
        have HWR : IntKind.i64.wrap ((y : Int) - (x : Int)) = ((y - x : Nat) : Int) := by rw [IntKind.wrap_i64]; omega
        simp only [HWR]
        have hn3 : y - x ≤ 3 := by omega
        clear HWR
        generalize y - x = n at *
        go_loopg [72] n (fun g s wr => ∃ j : Nat, s = .int .i64 (j : Int) ∧ j ≤ n ∧ n ≤ g + j ∧ Row wr wd.heap.size 23 (bvs (FS j)) ∧ Below wd.heap.size wd wr)
        case atStart => exact ⟨0, rfl, by omega, by omega, hrow7, hb7⟩
        case round =>
          obtain ⟨j, rfl, hj, hgj, hrj, hbj⟩ := hrel
          have hzj := hbj.size
          have HLJ := HAL j
          by_cases hjl : j < n
          · have HLJ2 := HAL (j + 1)
            have HS1 := HAS j
            have HC := fun W hW => HSTP j W hW
            go_wp2_with (with_reducible refine wpList_load_all (o := ⟨some 75, _, _, _, _, _⟩) rfl _ _ rfl wd.heap.size rfl _ _ hrj _ Tryd.underlying23 rfl (b16_size _ HLJ.out) ?_)
            refine (HC _ (hCo.on ((Bb.trans (e5.mono Bb.size)).trans (hbj.mono (Bb.trans (e5.mono Bb.size)).size)))).out.mono ?_
            rintro e w8 ⟨rfl, hb8⟩
            rw [HS1.out]
            have hr8 := hrj.on hb8
            have hbr8 := hbj.trans (hb8.mono hzj)
            have hz8 := hbr8.size
            go_wp2_with (with_reducible refine wpList_store_all (o := ⟨none, _, _, _, _, _⟩) rfl _ _ _ rfl wd.heap.size rfl _ _ hr8 (bvs (FS (j + 1))) rfl (bvs_one _) (by rw [bvs_length, bvs_length, HLJ.out, HLJ2.out]) (b16_size _ HLJ2.out) ?_; intro w9 hr9 hg9)
            go_roundg (gk - 1)
            case measure => omega
            case rel => exact ⟨j + 1, by go_num, hjl, by omega, hr9, below_kept hbr8 hg9 hz8 (by rintro k hk; cases hk; exact Nat.le_refl _)⟩
          · obtain rfl : j = n := by omega
            rw [HXY.out] at hrj HLJ
            have hct : ∀ p u, (bvs TK)[p]? = some u → wr.cell? ((gb.add (k * 16)).add p) = some u := fun p u hu => (hbj.cell (by rw [block_of_add, block_of_add]; exact e8)).trans (e4.out p u hu)
            have HCT := Lib.hid hct
            clear hct
            have hq : (TK == TK) = true := by simp
            go_wp2_with fail
            refine wp_region_quiet_lit (by kernel_rfl) (by kernel_rfl) ?_
            repeat (first
              | (refine wpQuiet_valueG (o := ⟨some 78, _, _, _, _, _⟩) rfl _ (by rintro _ ⟨nn, rfl⟩; exact exec_load16 _ _ rfl _ rfl TK HDB16.out hrj.cells) ?_; simp only [Act.put, List.setIfInBounds_toArray, List.set_cons_zero, List.set_cons_succ])
              | (refine wpQuiet_valueG (o := ⟨some 82, _, _, _, _, _⟩) rfl _ (by rintro _ ⟨nn, rfl⟩; exact exec_load16 _ _ rfl _ rfl TK HDB16.out HCT.out) ?_; simp only [Act.put, List.setIfInBounds_toArray, List.set_cons_zero, List.set_cons_succ])
              | (refine wpQuiet_valueG (o := ⟨some 83, _, _, _, _, _⟩) rfl _ (by rintro _ ⟨nn, rfl⟩; exact exec_neq16 _ _ _ rfl TK TK HDB16.out HDB16.out rfl rfl) ?_; simp only [hq, Act.put, List.setIfInBounds_toArray, List.set_cons_zero, List.set_cons_succ])
              | go_big_quiet_step (fail))
            refine wpQuiet_nil ?_
            intro _ hw'
            obtain ⟨nq, hw''⟩ := hw'
            subst hw''
            go_wp2_with fail
            go_roundg (g1 - 1)
            case measure => omega
            case rel => exact ⟨k + 1, by go_num, by omega, by omega, below_drewN (e5.trans (hbj.mono e9)) nq⟩
    · obtain rfl : k = 68 := by omega
      have Br := Bb.trans (hbr.mono Bb.size)
      go_wp2_with fail
      refine (san4_any _ (hK.on Br)).mono ?_
      rintro e w4 ⟨rfl, hb4⟩
      go_wp2_with fail
      go_ret
      exact ⟨rfl, Br.trans (hb4.mono Br.size)⟩
end Go.Proofs.YtojdondipkbjhaaDoor
