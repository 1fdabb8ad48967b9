/-
  FuseNoise's walk. No condition.
-/
import Derived.Test.YtliaapgnknbmbaaW77
import Derived.Test.YtliaapgnknbmbaaFuL
namespace Go.Proofs.Ytliaapgnknbmbaa
open Go.RowKit

/-- Bit c of the noise. -/
def nz (x : Int) (c : Nat) : Bool := bits BinOp.and IntKind.u64 (x / 2 ^ c) 1 == 1

set_option maxRecDepth 100000 in
set_option maxHeartbeats 4000000 in
theorem walk74 (A : Option Addr) (n c : Nat) (ps : List Part) (b : Int) (x : Int) (w : World) (hok : FuOK w A n c ps) :
    Calls Try.prog 6 #[fuv A n c, .int .i64 b, .int .u64 x] w (TellsB true w) := by
  have HSA := fun W => sanity7_any W
  have HV := fun W (h : FuOK W A n c ps) => Lib.hid (rvalid_any A n c ps W h.1)
  unfold fuv at *
  cases hv : fuValid (bk ps) with
  | false =>
    rw [hv] at HV
    clear hv
    go_enter Try.func6, Try.ntmps6
    go_wp2_with (with_reducible refine wpList_box_row (o := ⟨some 3, _, _, _, _, _⟩) rfl _ _ rfl ([.slice A n c]) rfl ?_; intro w1 bx_1 s1 g1; have k1 : Below w.heap.size w w1 := grown_below g1 (Nat.le_refl _) (by simp); have B1 : Below w.heap.size w w1 := k1; have ok_1 := hok.on k1; have cbx := bx_1.cell (j := 0) rfl)
    refine ((HV _ ok_1).out).mono ?_
    rintro e w2 ⟨rfl, h2⟩
    have B2 := B1.trans (h2.mono B1.size)
    have ok_2 := ok_1.on h2
    have bx_2 := bx_1.on h2
    clear ok_1 bx_1
    have cbx := bx_2.cell (j := 0) rfl
    go_wp2_with fail
    refine (HSA _).mono ?_
    rintro e w3 ⟨rfl, h3⟩
    have B3 := B2.trans (h3.mono B2.size)
    have ok_3 := ok_2.on h3
    have bx_3 := bx_2.on h3
    clear ok_2 bx_2
    have cbx := bx_3.cell (j := 0) rfl
    go_wp2_with fail
    go_ret
    exact ⟨rfl, B3⟩
  | true =>
   rw [hv] at HV
   by_cases hb0 : b < 0
   · go_enter Try.func6, Try.ntmps6
     go_wp2_with (with_reducible refine wpList_box_row (o := ⟨some 3, _, _, _, _, _⟩) rfl _ _ rfl ([.slice A n c]) rfl ?_; intro w1 bx_1 s1 g1; have k1 : Below w.heap.size w w1 := grown_below g1 (Nat.le_refl _) (by simp); have B1 : Below w.heap.size w w1 := k1; have ok_1 := hok.on k1; have cbx := bx_1.cell (j := 0) rfl)
     refine ((HV _ ok_1).out).mono ?_
     rintro e w2 ⟨rfl, h2⟩
     have B2 := B1.trans (h2.mono B1.size)
     have ok_2 := ok_1.on h2
     have bx_2 := bx_1.on h2
     clear ok_1 bx_1
     have cbx := bx_2.cell (j := 0) rfl
     go_wp2_with fail
     refine (HSA _).mono ?_
     rintro e w3 ⟨rfl, h3⟩
     have B3 := B2.trans (h3.mono B2.size)
     have ok_3 := ok_2.on h3
     have bx_3 := bx_2.on h3
     clear ok_2 bx_2
     have cbx := bx_3.cell (j := 0) rfl
     go_wp2_with fail
     go_ret
     exact ⟨rfl, B3⟩
   · obtain ⟨k, rfl⟩ : ∃ k : Nat, b = (k : Int) := ⟨b.toNat, by omega⟩
     by_cases hkn : k < n
     rotate_left
     · go_enter Try.func6, Try.ntmps6
       go_wp2_with (with_reducible refine wpList_box_row (o := ⟨some 3, _, _, _, _, _⟩) rfl _ _ rfl ([.slice A n c]) rfl ?_; intro w1 bx_1 s1 g1; have k1 : Below w.heap.size w w1 := grown_below g1 (Nat.le_refl _) (by simp); have B1 : Below w.heap.size w w1 := k1; have ok_1 := hok.on k1; have cbx := bx_1.cell (j := 0) rfl)
       refine ((HV _ ok_1).out).mono ?_
       rintro e w2 ⟨rfl, h2⟩
       have B2 := B1.trans (h2.mono B1.size)
       have ok_2 := ok_1.on h2
       have bx_2 := bx_1.on h2
       clear ok_1 bx_1
       have cbx := bx_2.cell (j := 0) rfl
       go_wp2_with fail
       refine (HSA _).mono ?_
       rintro e w3 ⟨rfl, h3⟩
       have B3 := B2.trans (h3.mono B2.size)
       have ok_3 := ok_2.on h3
       have bx_3 := bx_2.on h3
       clear ok_2 bx_2
       have cbx := bx_3.cell (j := 0) rfl
       go_wp2_with fail
       go_ret
       exact ⟨rfl, B3⟩
     · obtain ⟨p, hpk⟩ : ∃ p, ps[k]? = some p := ⟨_, List.getElem?_eq_getElem (by rw [hok.1.len]; exact hkn)⟩
       have hvb := valid_bank hv (bk_get hpk)
       obtain ⟨q, hq⟩ : ∃ q : Nat → Int, q = fun c : Nat => fuRead (bk ps) (k : Int) (c : Int) (nz x c) := ⟨_, rfl⟩
       have HNL0 := noise_level (bk_get hpk) (nz x)
       rw [← hq] at HNL0
       have HNL := Lib.hid HNL0
       have HS := fun i j => Lib.hid (fuSum_bd q (fun c => by rw [hq]; exact fuRead_bd (bk ps) (k : Int) (c : Int) (nz x c)) i j)
       have HQB := fun c => Lib.hid (show 0 ≤ q c ∧ q c ≤ 1 by rw [hq]; exact fuRead_bd (bk ps) (k : Int) (c : Int) (nz x c))
       clear HNL0
       have HER : ∀ j : Nat, j < p.l.length → Hid (fuErr (bk ps) (k : Int) (j : Int) = 0) := fun j hj => Lib.hid (fuErr_in (by rw [fuEx_nat (bk_get hpk)]; exact decide_eq_true hj))
       have HW := fun W (h : FuOK W A n c ps) => Lib.hid (show Calls Try.prog 18 #[fuv A n c, .int .i64 (k : Int)] W (TellsI ((p.l.length / 3 : Nat) : Int) W) by
         have h0 := fwidth_any A n c ps (k : Int) W h.1 h.2.2
         rw [fuWidth_nat (bk_get hpk)] at h0
         exact h0)
       have HLE := fun W (h : FuOK W A n c ps) => Lib.hid (fleast_any A n c ps (k : Int) W h.1 h.2.2)
       have HMO := fun W (h : FuOK W A n c ps) => Lib.hid (fmost_any A n c ps (k : Int) W h.1 h.2.2)
       unfold fuv at *
       obtain ⟨m, hm⟩ : ∃ m, m = p.l.length / 3 := ⟨_, rfl⟩
       have hlm : p.l.length = 3 * m := by omega
       have hm16 : m ≤ 16 := by omega
       rw [← hm] at HW HNL
       rw [hlm] at HER
       have HRD : ∀ (i j : Nat), 3 * i + j < 3 * m → ∀ (W : World), FuOK W A n c ps → Hid (Calls Try.prog 13 #[.agg #[.slice A n c], .int .i64 (k : Int), .int .i64 (3 * (i : Int) + (j : Int)), .bool (nz x (3 * i + j))] W (TellsII (q (3 * i + j)) 0 W)) := fun i j hij W h => by
         have h0 := fread_any A n c ps (k : Int) ((3 * i + j : Nat) : Int) (nz x (3 * i + j)) W h.1
         rw [(HER (3 * i + j) hij).out, show ((3 * i + j : Nat) : Int) = 3 * (i : Int) + (j : Int) by omega] at h0
         have e : fuRead (bk ps) (k : Int) (3 * (i : Int) + (j : Int)) (nz x (3 * i + j)) = q (3 * i + j) := by rw [hq]; congr 1
         rw [e] at h0
         exact Lib.hid h0
       generalize fuLevel (bk ps) (k : Int) false = E1 at *
       generalize fuLevel (bk ps) (k : Int) true = E2 at *
       clear hm hlm hvb hpk hv hq HER
       go_enter Try.func6, Try.ntmps6
       go_wp2_with (with_reducible refine wpList_box_row (o := ⟨some 3, _, _, _, _, _⟩) rfl _ _ rfl ([.slice A n c]) rfl ?_; intro w1 bx_1 s1 g1; have k1 : Below w.heap.size w w1 := grown_below g1 (Nat.le_refl _) (by simp); have B1 : Below w.heap.size w w1 := k1; have ok_1 := hok.on k1; have cbx := bx_1.cell (j := 0) rfl)
       refine ((HV _ ok_1).out).mono ?_
       rintro e w2 ⟨rfl, h2⟩
       have B2 := B1.trans (h2.mono B1.size)
       have ok_2 := ok_1.on h2
       have bx_2 := bx_1.on h2
       clear ok_1 bx_1
       have cbx := bx_2.cell (j := 0) rfl
       go_wp2_with fail
       refine ((HW _ ok_2).out).mono ?_
       rintro e w3 ⟨rfl, h3⟩
       have B3 := B2.trans (h3.mono B2.size)
       have ok_3 := ok_2.on h3
       have bx_3 := bx_2.on h3
       clear ok_2 bx_2
       have cbx := bx_3.cell (j := 0) rfl
       go_wp2_with fail
       have HOK := Lib.hid ok_3
       have BB := B3
       have e1 := bx_3
       clear cbx
       go_loopg [7, 32] m (fun g s7 s32 wr => ∃ i : Nat, Hid (i + g = m) ∧ i ≤ m ∧ s32 = .int .i64 (i : Int) ∧ s7 = .int .i64 (i : Int) ∧ Hid (fuLev q 0 m = fuLev q i g) ∧ Below w3.heap.size w3 wr)
       case atStart => exact ⟨0, by show _ = _; omega, by omega, rfl, rfl, Lib.hid rfl, Below.refl _ _⟩
       case round =>
        obtain ⟨i, HI, hi, rfl, rfl, HL, hB⟩ := hrel
        by_cases hlt : i < m
        · obtain ⟨g0, hg0⟩ : ∃ g0 : Nat, g0 = gk := ⟨_, rfl⟩
          have HG0 := Lib.hid hg0
          clear hg0
          go_wp2_with fail
          go_loopg [9, 35] 3 (fun g s9 s35 wi => ∃ j : Nat, j ≤ 3 ∧ 3 ≤ g + j ∧ s35 = .int .i64 (j : Int) ∧ s9 = .int .i64 (fuSum q i j) ∧ Below w3.heap.size w3 wi)
          case atStart => exact ⟨0, by omega, by omega, rfl, rfl, hB⟩
          case round =>
           obtain ⟨j, hj, hgj, rfl, rfl, hBi⟩ := hrel
           have hs := (HS i j).out
           by_cases hlj : j < 3
           · have HSS : Hid (fuSum q i (j + 1) = fuSum q i j + q (3 * i + j)) := Lib.hid rfl
             have HR := fun W h => HRD i j (by omega) W h
             have hqb := (HQB (3 * i + j)).out
             generalize fuSum q i j = S at *
             generalize q (3 * i + j) = R at *
             go_wp2_with fail
             refine wp_region_plan (fun w' => Row w' w.heap.size 24 [.slice A n c]) (.take 0 <| .take 1 <| .take 2 <| .take 3 <| .take 4 <| .take 5 <| .take 6 <| .take 7 <| .one 8 <| .take 9 <| .take 10 <| .take 11 <| .take 12 <| .take 13 <| .done) (by kernel_rfl) (by kernel_rfl) (by kernel_rfl) (fun _ _ _ _ _ h => h) (e1.on hBi.drew) ?_
             repeat (refine plan_take _ rfl ?_; (first | (refine wpQuiet_valueG (o := ⟨some 43, _, _, _, _, _⟩) rfl _ (by intro _ h; exact exec_load _ 24 _ rfl ⟨w.heap.size, 0, none⟩ rfl [.slice A n c] h.cells _ Try.underlying24 rfl (by kernel_rfl)) (wpQuiet_nil ?_); simp only [Act.put, List.setIfInBounds_toArray, List.set_cons_zero, List.set_cons_succ]) | (go_big_quiet_step ((intros; rfl)); refine wpQuiet_nil ?_)))
             rw [show (bits BinOp.and IntKind.u64 (x / 2 ^ (3 * i + j)) 1 == 1) = nz x (3 * i + j) from rfl]
             refine plan_one _ rfl fun K hK => ?_
             go_simp
             refine (HR _ (HOK.out.on hBi.drew)).out.mono ?_
             rintro e wa ⟨rfl, ha⟩
             have Ba := hBi.drew.trans (ha.mono hBi.drew.size)
             refine hK _ _ (e1.on Ba) ?_
             clear hK K
             repeat (refine plan_take _ rfl ?_; go_big_quiet_step ((intros; rfl)); refine wpQuiet_nil ?_)
             refine plan_done ?_
             go_wp2_with fail
             go_roundg (gk - 1)
             case measure => omega
             case rel => exact ⟨j + 1, by omega, by omega, by go_num, by rw [HSS.out], Ba⟩
           · obtain rfl : j = 3 := by omega
             have HS3 := Lib.hid (fuSum_three q i)
             by_cases h2 : fuSum q i 3 < 2
             · have HV0 : Hid (fuLev q 0 m = i) := by
                 show _ = _
                 obtain ⟨g1, hg1⟩ : ∃ g1, g0 = g1 + 1 := ⟨g0 - 1, by have := HI.out; have := HG0.out; omega⟩
                 rw [HL.out, ← HG0.out, hg1, fuLev_stop (by rw [← HS3.out]; exact h2)]
               have hE1 : E1 ≤ (i : Int) := by have := HNL.out.1; rw [HV0.out] at this; exact this
               have hE2 : (i : Int) ≤ E2 := by have := HNL.out.2; rw [HV0.out] at this; exact this
               have hd : decide (fuSum q i 3 < 2) = true := decide_eq_true h2
               generalize fuSum q i 3 = S at *
               have BW := hBi
               go_wp2_with fail
               refine (HSA _).mono ?_
               rintro e wx ⟨rfl, bx⟩
               have Bx := BW.trans (bx.mono BW.size)
               have cx := (e1.on Bx).cell (j := 0) rfl
               go_wp2_with fail
               refine (HLE _ (HOK.out.on Bx)).out.mono ?_
               rintro e wy ⟨rfl, by_⟩
               have By := Bx.trans (by_.mono Bx.size)
               have cy := (e1.on By).cell (j := 0) rfl
               go_wp2_with fail
               refine (HMO _ (HOK.out.on By)).out.mono ?_
               rintro e wz ⟨rfl, bz⟩
               have Bz := By.trans (bz.mono By.size)
               go_wp2_with fail
               go_ret
               exact ⟨by simp, BB.trans (Bz.mono BB.size)⟩
             · have HR : Hid (fuLev q 0 m = fuLev q (i + 1) (g0 - 1)) := by
                 show _ = _
                 obtain ⟨g1, hg1⟩ : ∃ g1, g0 = g1 + 1 := ⟨g0 - 1, by have := HI.out; have := HG0.out; omega⟩
                 rw [HL.out, ← HG0.out, hg1, fuLev_go (by rw [← HS3.out]; exact h2)]
                 rfl
               have hd : decide (fuSum q i 3 < 2) = false := decide_eq_false h2
               generalize fuSum q i 3 = S at *
               go_wp2_with fail
               go_roundg (g0 - 1)
               case measure => have := HI.out; have := HG0.out; omega
               case rel => exact ⟨i + 1, by have := HI.out; have := HG0.out; show _ = _; omega, by omega, by go_num, by go_num, HR, hBi⟩
        · have HV0 : Hid (fuLev q 0 m = i) := by
            show _ = _
            have := HI.out
            obtain rfl : gk = 0 := by omega
            rw [HL.out, fuLev]
          have hE1 : E1 ≤ (i : Int) := by have := HNL.out.1; rw [HV0.out] at this; exact this
          have hE2 : (i : Int) ≤ E2 := by have := HNL.out.2; rw [HV0.out] at this; exact this
          have BW := hB
          go_wp2_with fail
          refine (HSA _).mono ?_
          rintro e wx ⟨rfl, bx⟩
          have Bx := BW.trans (bx.mono BW.size)
          have cx := (e1.on Bx).cell (j := 0) rfl
          go_wp2_with fail
          refine (HLE _ (HOK.out.on Bx)).out.mono ?_
          rintro e wy ⟨rfl, by_⟩
          have By := Bx.trans (by_.mono Bx.size)
          have cy := (e1.on By).cell (j := 0) rfl
          go_wp2_with fail
          refine (HMO _ (HOK.out.on By)).out.mono ?_
          rintro e wz ⟨rfl, bz⟩
          have Bz := By.trans (bz.mono By.size)
          go_wp2_with fail
          go_ret
          exact ⟨by simp, BB.trans (Bz.mono BB.size)⟩
end Go.Proofs.Ytliaapgnknbmbaa
