/-
  FlashReadsLastWrite's walk. No condition.
-/
import Derived.Test.YtlllllcmbnmmkaaW85
namespace Go.Proofs.Ytlllllcmbnmmkaa
open Go.RowKit

theorem Reads.byte8_at {w : World} {B n : Nat} {A : Option Addr} {l : List UInt8} (h : Reads w B 1 A n (bvs l)) {i : Nat} (hi : i < n) : ∃ ad v, A = some ad ∧ ad.block < B ∧ l[i]? = some v ∧ w.cell? (ad.add i) = some (.int .u8 (v.toNat : Int)) := by
  obtain ⟨ad, u, hA, hb, hu, hc⟩ := h.at_ hi
  have hl : i < l.length := by rw [h.bytes_len]; exact hi
  have hs : l[i]? = some l[i] := List.getElem?_eq_getElem hl
  unfold bvs at hu
  rw [List.getElem?_map, hs] at hu
  cases hu
  exact ⟨ad, l[i], hA, hb, hs, hc⟩
theorem cell_kept {w w' : World} {g : Nat} {p : Addr} (h : w.grownBy w' (some g)) (hp : p.block < w.heap.size) (hne : p.block ≠ g) : w'.cell? p = w.cell? p :=
  World.cell?_of_block (h.block p.block hp (fun e => hne (by injection e)))

set_option maxRecDepth 100000 in
set_option maxHeartbeats 8000000 in
theorem walk84 (x : Nat) (Al : Option Addr) (m cl : Nat) (l : List UInt8) (w : World) (hx : x ≤ 255) (hr : Reads w w.heap.size 1 Al m (bvs l)) :
    Calls Try.prog 6 #[.int .u8 (x : Int), .slice Al m cl] w (TellsB true w) := by
  have HSA := fun W => sanity8_any W
  by_cases h40 : 40 < m
  · skip
    go_enter Try.func6, Try.ntmps6
    go_wp2_with fail
    refine (HSA _).mono ?_
    rintro e w1 ⟨rfl, h1⟩
    have B1 : Below w.heap.size w w1 := h1
    go_wp2_with fail
    go_ret
    exact ⟨rfl, B1⟩
  · obtain ⟨M, hM, hM0, hM8⟩ : ∃ M : Nat, 1 + (x : Int) % 8 = (M : Int) ∧ 0 < M ∧ M ≤ 8 := ⟨1 + x % 8, by omega, by omega, by omega⟩
    have HNW := fun W => Lib.hid (show Calls Try.prog 11 #[.int .i64 (M : Int)] W (GivesLE ((List.replicate M 0).map fullS) 0 W) by
      have h0 := lnew_any M W
      rw [(flNew_nat (n := M) (by omega)).1, (flNew_nat (n := M) (by omega)).2] at h0
      rw [List.map_replicate]
      exact h0)
    have HZ : Hid (List.replicate M (Value.int .u8 0) = bvs (List.replicate M 0)) := Lib.hid (by unfold bvs; rw [List.map_replicate]; rfl)
    go_enter Try.func6, Try.ntmps6
    go_wp2_with fail
    refine (HSA _).mono ?_
    rintro e w1 ⟨rfl, h1⟩
    have B1 : Below w.heap.size w w1 := h1
    go_wp2_with fail
    go_wp2_with fail
    refine ((HNW _).out).mono ?_
    rintro e w2 ⟨Af, nf, mf, rfl, okf2, h2⟩
    have B2 := B1.trans (h2.mono B1.size)
    have hnf : M = nf := by rw [← okf2.len, List.length_map, List.length_replicate]
    subst hnf
    unfold flv
    go_wp2_with (first
      | (with_reducible refine wpList_alloc_row (o := ⟨some 7, _, _, _, _, _⟩) rfl _ rfl [.slice none 0 0] (by kernel_rfl) ?_; intro w3 r3 s3 g3)
      | ((with_reducible refine wpList_at ⟨none, .store _ (.tmp 7) _, _, _, _, _⟩ ?_); refine wpList_store_all rfl _ _ _ rfl w2.heap.size rfl _ _ r3 [.slice Af M mf] rfl (slice_one _ _ _) rfl (by kernel_rfl) ?_; intro w4 f_4 g4; have k4 : Below w2.heap.size w2 w4 := below_kept (grown_below g3 (Nat.le_refl _) (by simp)) g4 (Nat.le_of_lt s3) (by rintro q hq; cases hq; exact Nat.le_refl _); have B4 := B2.trans (k4.mono B2.size); have okf_4 := okf2.on k4; have cf := f_4.cell (j := 0) rfl; clear r3 g3 g4)
      | (with_reducible refine wpList_make_row (o := ⟨some 34, _, _, _, _, _⟩) rfl _ _ _ rfl 5 Try.underlying44 (.int .u8 0) rfl 1 (by kernel_rfl) .i64 .i64 M M rfl rfl (Nat.le_refl _) (by omega) (by omega) ?_; intro w5 want5 s5 g5; have hfw := f_4.lt; have k5 := grown_below g5 (Nat.le_refl _) (by simp); have B5 := B4.trans (k5.mono B4.size); have okf_5 := okf_4.on k5; have f_5 := f_4.on k5; clear okf_4 f_4; have cf := f_5.cell (j := 0) rfl))
    rw [HZ.out] at want5
    have hwf := B2.size
    have EF := f_5
    have OF := okf_5
    have BW := B5
    clear cf
    go_loopg [10] m (fun g s10 wr => ∃ (i : Nat) (ws : List UInt8) (A : Option Addr) (c : Nat), Hid (i + g = m) ∧ i ≤ m ∧ s10 = .int .i64 (i : Int) ∧ Row wr (w2.heap.size) 24 [.slice A M c] ∧ FlOK wr A M c (ws.map fullS) ∧ Row wr (w4.heap.size) 5 (bvs ws) ∧ ws.length = M ∧ Below w.heap.size w wr)
    case atStart => exact ⟨0, List.replicate M 0, Af, mf, by show _ = _; omega, by omega, rfl, EF, OF, want5, List.length_replicate, BW⟩
    case round =>
      obtain ⟨i, ws, A, c, HI, hi, rfl, e1, okA, eW, hwl, hB⟩ := hrel
      have cf := e1.cell (j := 0) rfl
      have HWL := Lib.hid hwl
      by_cases hlt : i < m
      · obtain ⟨ad, v, hAl, lta, hv, hc0⟩ := hr.byte8_at hlt
        subst hAl
        have hc := (hB.cell (by rw [block_of_add]; exact lta)).trans hc0
        have HC := Lib.hid hc
        have HLT : Hid (ad.block < wr.heap.size) := Lib.hid (by have := hB.size; omega)
        have hvt := v.toNat_lt
        obtain ⟨j, hj, hjn⟩ : ∃ j : Nat, (v.toNat : Int) % (M : Int) = (j : Int) ∧ j < M := ⟨v.toNat % M, by omega, Nat.mod_lt _ (by omega)⟩
        have HG1 : Hid (flWrite (ws.map fullS) (j : Int) (fullS v) (-1) = (ws.set j v).map fullS) := Lib.hid (write_full (by rw [HWL.out]; exact hjn) v)
        have HE1 : Hid (flWErr (ws.map fullS) (j : Int) (fullS v) = 0) := Lib.hid (flWErr_yes (flIn_nat (by rw [List.length_map, HWL.out]; exact hjn)) (fullS_size v))
        have HL : Hid ((ws.map fullS).length ≤ 1000000) := Lib.hid (by rw [List.length_map, HWL.out]; omega)
        have HFU := fun W => Lib.hid (show Calls Try.prog 21 #[.int .u8 (v.toNat : Int)] W (TellsS (fullS v) W) from full_any v W)
        have hGF : w2.heap.size < wr.heap.size := e1.lt
        have hGW : w4.heap.size < wr.heap.size := eW.lt
        clear hc0 hwl
        go_wp2_with fail
        simp only [hj]
        go_wp2_with fail
        try simp only [Act.put, List.setIfInBounds_toArray, List.set_cons_zero, List.set_cons_succ]
        go_cut [12, 13] (fun s1 s2 wc51 => ∃ g A n c, s1 = .pointer (some ⟨g, 0, none⟩) ∧ s2 = .int .i64 (0) ∧ Row wc51 g 24 [.slice A n c] ∧ wc51.ownsRow wr.heap.size 9 1 (.slice A n c) n (svs ((ws.set j v).map fullS)) ∧ (∀ s ∈ ((ws.set j v).map fullS), s.size ≤ 9223372036854775807) ∧ wr.heap.size ≤ g ∧ Below wr.heap.size wr wc51)
        case first =>
          have zd : wr.drew.heap.size = wr.heap.size := rfl
          have zl := e1.lt
          have e0 := e1.drew
          have o0 : FlOK wr.drew A M c (ws.map fullS) := okA
          have b0 : Below wr.heap.size wr wr.drew := (Below.refl _ _).drew
          refine wp_region_plan (fun w' => Row w' (w2.heap.size) 24 ([.slice A M c]) ∧ w'.cell? (ad.add i) = some (.int .u8 (v.toNat : Int))) (.take 0 <| .take 1 <| .take 2 <| .take 3 <| .take 4 <| .take 5 <| .two 6 (.two 7 (.take 8 <| .take 9 <| .take 10 <| .one 11 <| .one 12 <| .take 13 <| .done) 11 (.one 7 <| .take 8 <| .take 9 <| .take 10 <| .one 12 <| .take 13 <| .done)) 11 (.one 6 <| .one 7 <| .take 8 <| .take 9 <| .take 10 <| .one 12 <| .take 13 <| .done)) (by kernel_rfl) (by kernel_rfl) (by kernel_rfl) (fun _ _ _ _ _ h => h) ⟨e0, (b0.cell (by rw [block_of_add]; exact HLT.out)).trans HC.out⟩ ?_
          repeat (refine plan_take _ rfl ?_; (first | (refine wpQuiet_valueG (o := ⟨some 49, _, _, _, _, _⟩) rfl _ (by intro _ h; exact exec_load _ 24 _ rfl ⟨w2.heap.size, 0, none⟩ rfl [.slice A M c] h.1.cells _ Try.underlying24 rfl (by kernel_rfl)) (wpQuiet_nil ?_); simp only [Act.put, List.setIfInBounds_toArray, List.set_cons_zero, List.set_cons_succ]) | (refine wpQuiet_valueG (o := ⟨some 54, _, _, _, _, _⟩) rfl _ (by intro _ h; exact exec_load1 _ 5 _ rfl (ad.add i) rfl _ h.2 _ Try.underlying5 rfl) (wpQuiet_nil ?_); simp only [Act.put, List.setIfInBounds_toArray, List.set_cons_zero, List.set_cons_succ]) | (go_big_quiet_step ((intros; rfl)); refine wpQuiet_nil ?_)))
          refine plan_two ?_ ?_
          · refine step_at _ rfl fun K hK => ?_
            go_simp
            refine ((HFU _).out).mono ?_
            rintro e wu1 ⟨rfl, hu1⟩
            have eu1 := e0.on hu1
            have ou1 := o0.on hu1
            have bu1 := b0.trans (hu1.mono b0.size)
            have zu1 := hu1.size
            refine hK _ _ ⟨eu1, (bu1.cell (by rw [block_of_add]; exact HLT.out)).trans HC.out⟩ ?_
            clear hK K
            refine plan_two ?_ ?_
            · refine step_at _ rfl fun K hK => ?_
              go_simp
              refine ((lw_eq HL.out HG1.out HE1.out A M c _ ou1)).mono ?_
              rintro e wu2 ⟨Au2, nu2, cu2, rfl, ownu2, szu2, hu2⟩
              unfold flv
              have eu2 := eu1.on hu2
              have ou2 := ou1.on hu2
              have bu2 := bu1.trans (hu2.mono bu1.size)
              have zu2 := hu2.size
              refine hK _ _ ⟨eu2, (bu2.cell (by rw [block_of_add]; exact HLT.out)).trans HC.out⟩ ?_
              clear hK K
              repeat (refine plan_take _ rfl ?_; (first | (refine wpQuiet_valueG (o := ⟨some 49, _, _, _, _, _⟩) rfl _ (by intro _ h; exact exec_load _ 24 _ rfl ⟨w2.heap.size, 0, none⟩ rfl [.slice A M c] h.1.cells _ Try.underlying24 rfl (by kernel_rfl)) (wpQuiet_nil ?_); simp only [Act.put, List.setIfInBounds_toArray, List.set_cons_zero, List.set_cons_succ]) | (refine wpQuiet_valueG (o := ⟨some 54, _, _, _, _, _⟩) rfl _ (by intro _ h; exact exec_load1 _ 5 _ rfl (ad.add i) rfl _ h.2 _ Try.underlying5 rfl) (wpQuiet_nil ?_); simp only [Act.put, List.setIfInBounds_toArray, List.set_cons_zero, List.set_cons_succ]) | (go_big_quiet_step ((intros; rfl)); refine wpQuiet_nil ?_)))
              refine plan_one _ rfl fun K hK => ?_
              refine step_alloc rfl _ rfl [.slice none 0 0] (by kernel_rfl) ?_
              intro wu3 ru3 su3 gu3
              have hu3 := grown_below gu3 (Nat.le_refl _) (by simp)
              have zau3 := bu2.size
              have eu3 := eu2.on hu3
              have ou3 := ou2.on hu3
              have ownu3 := own_below ownu2 hu3
              have bu3 := bu2.trans (hu3.mono bu2.size)
              have zu3 := hu3.size
              refine hK _ _ ⟨eu3, (bu3.cell (by rw [block_of_add]; exact HLT.out)).trans HC.out⟩ ?_
              clear hK K
              simp only [Act.put, List.setIfInBounds_toArray, List.set_cons_zero, List.set_cons_succ]
              refine plan_one _ rfl fun K hK => ?_
              refine step_store_all rfl _ _ _ rfl wu2.heap.size rfl _ _ ru3 [(.slice Au2 nu2 cu2)] rfl (slice_one _ _ _) rfl (by kernel_rfl) ?_
              intro wu4 ru4 gu4
              have eu4 := eu3.kept gu4 (by simp; omega)
              have ownu4 := own_below ownu2 (below_kept (grown_below gu3 (Nat.le_refl _) (by simp)) gu4 (Nat.le_of_lt su3) (by rintro q hq; cases hq; exact Nat.le_refl _))
              have bu4 := below_kept bu3 gu4 bu3.size (by rintro q hq; cases hq; omega)
              refine hK _ _ ⟨eu4, (bu4.cell (by rw [block_of_add]; exact HLT.out)).trans HC.out⟩ ?_
              clear hK K
              simp only [Act.put]
              repeat (refine plan_take _ rfl ?_; (first | (refine wpQuiet_valueG (o := ⟨some 49, _, _, _, _, _⟩) rfl _ (by intro _ h; exact exec_load _ 24 _ rfl ⟨w2.heap.size, 0, none⟩ rfl [.slice A M c] h.1.cells _ Try.underlying24 rfl (by kernel_rfl)) (wpQuiet_nil ?_); simp only [Act.put, List.setIfInBounds_toArray, List.set_cons_zero, List.set_cons_succ]) | (refine wpQuiet_valueG (o := ⟨some 54, _, _, _, _, _⟩) rfl _ (by intro _ h; exact exec_load1 _ 5 _ rfl (ad.add i) rfl _ h.2 _ Try.underlying5 rfl) (wpQuiet_nil ?_); simp only [Act.put, List.setIfInBounds_toArray, List.set_cons_zero, List.set_cons_succ]) | (go_big_quiet_step ((intros; rfl)); refine wpQuiet_nil ?_)))
              refine plan_done ?_
              go_wp2_with fail
              go_meet
              exact ⟨_, _, _, _, rfl, rfl, ru4, own_base ownu4 (by omega), szu2, by omega, bu4⟩
            · refine step_at _ rfl fun K hK => ?_
              refine step_alloc rfl _ rfl [.slice none 0 0] (by kernel_rfl) ?_
              intro wu5 ru5 su5 gu5
              have hu5 := grown_below gu5 (Nat.le_refl _) (by simp)
              have zau5 := bu1.size
              have eu5 := eu1.on hu5
              have ou5 := ou1.on hu5
              have bu5 := bu1.trans (hu5.mono bu1.size)
              have zu5 := hu5.size
              refine hK _ _ ⟨eu5, (bu5.cell (by rw [block_of_add]; exact HLT.out)).trans HC.out⟩ ?_
              clear hK K
              simp only [Act.put, List.setIfInBounds_toArray, List.set_cons_zero, List.set_cons_succ]
              refine plan_one _ rfl fun K hK => ?_
              go_simp
              refine ((lw_eq HL.out HG1.out HE1.out A M c _ ou5)).mono ?_
              rintro e wu6 ⟨Au6, nu6, cu6, rfl, ownu6, szu6, hu6⟩
              unfold flv
              have eu6 := eu5.on hu6
              have ou6 := ou5.on hu6
              have rzu6 := ru5.on hu6
              have bu6 := bu5.trans (hu6.mono bu5.size)
              have zu6 := hu6.size
              refine hK _ _ ⟨eu6, (bu6.cell (by rw [block_of_add]; exact HLT.out)).trans HC.out⟩ ?_
              clear hK K
              repeat (refine plan_take _ rfl ?_; (first | (refine wpQuiet_valueG (o := ⟨some 49, _, _, _, _, _⟩) rfl _ (by intro _ h; exact exec_load _ 24 _ rfl ⟨w2.heap.size, 0, none⟩ rfl [.slice A M c] h.1.cells _ Try.underlying24 rfl (by kernel_rfl)) (wpQuiet_nil ?_); simp only [Act.put, List.setIfInBounds_toArray, List.set_cons_zero, List.set_cons_succ]) | (refine wpQuiet_valueG (o := ⟨some 54, _, _, _, _, _⟩) rfl _ (by intro _ h; exact exec_load1 _ 5 _ rfl (ad.add i) rfl _ h.2 _ Try.underlying5 rfl) (wpQuiet_nil ?_); simp only [Act.put, List.setIfInBounds_toArray, List.set_cons_zero, List.set_cons_succ]) | (go_big_quiet_step ((intros; rfl)); refine wpQuiet_nil ?_)))
              refine plan_one _ rfl fun K hK => ?_
              refine step_store_all rfl _ _ _ rfl wu1.heap.size rfl _ _ rzu6 [(.slice Au6 nu6 cu6)] rfl (slice_one _ _ _) rfl (by kernel_rfl) ?_
              intro wu7 ru7 gu7
              have eu7 := eu6.kept gu7 (by simp; omega)
              have ownu7 := own_kept_lt ownu6 gu7 (by omega)
              have bu7 := below_kept bu6 gu7 bu6.size (by rintro q hq; cases hq; omega)
              refine hK _ _ ⟨eu7, (bu7.cell (by rw [block_of_add]; exact HLT.out)).trans HC.out⟩ ?_
              clear hK K
              simp only [Act.put]
              repeat (refine plan_take _ rfl ?_; (first | (refine wpQuiet_valueG (o := ⟨some 49, _, _, _, _, _⟩) rfl _ (by intro _ h; exact exec_load _ 24 _ rfl ⟨w2.heap.size, 0, none⟩ rfl [.slice A M c] h.1.cells _ Try.underlying24 rfl (by kernel_rfl)) (wpQuiet_nil ?_); simp only [Act.put, List.setIfInBounds_toArray, List.set_cons_zero, List.set_cons_succ]) | (refine wpQuiet_valueG (o := ⟨some 54, _, _, _, _, _⟩) rfl _ (by intro _ h; exact exec_load1 _ 5 _ rfl (ad.add i) rfl _ h.2 _ Try.underlying5 rfl) (wpQuiet_nil ?_); simp only [Act.put, List.setIfInBounds_toArray, List.set_cons_zero, List.set_cons_succ]) | (go_big_quiet_step ((intros; rfl)); refine wpQuiet_nil ?_)))
              refine plan_done ?_
              go_wp2_with fail
              go_meet
              exact ⟨_, _, _, _, rfl, rfl, ru7, own_base ownu7 (by omega), szu6, by omega, bu7⟩
          · refine step_at _ rfl fun K hK => ?_
            refine step_alloc rfl _ rfl [.slice none 0 0] (by kernel_rfl) ?_
            intro wu8 ru8 su8 gu8
            have hu8 := grown_below gu8 (Nat.le_refl _) (by simp)
            have zau8 := b0.size
            have eu8 := e0.on hu8
            have ou8 := o0.on hu8
            have bu8 := b0.trans (hu8.mono b0.size)
            have zu8 := hu8.size
            refine hK _ _ ⟨eu8, (bu8.cell (by rw [block_of_add]; exact HLT.out)).trans HC.out⟩ ?_
            clear hK K
            simp only [Act.put, List.setIfInBounds_toArray, List.set_cons_zero, List.set_cons_succ]
            refine plan_one _ rfl fun K hK => ?_
            go_simp
            refine ((HFU _).out).mono ?_
            rintro e wu9 ⟨rfl, hu9⟩
            have eu9 := eu8.on hu9
            have ou9 := ou8.on hu9
            have rzu9 := ru8.on hu9
            have bu9 := bu8.trans (hu9.mono bu8.size)
            have zu9 := hu9.size
            refine hK _ _ ⟨eu9, (bu9.cell (by rw [block_of_add]; exact HLT.out)).trans HC.out⟩ ?_
            clear hK K
            refine plan_one _ rfl fun K hK => ?_
            go_simp
            refine ((lw_eq HL.out HG1.out HE1.out A M c _ ou9)).mono ?_
            rintro e wu10 ⟨Au10, nu10, cu10, rfl, ownu10, szu10, hu10⟩
            unfold flv
            have eu10 := eu9.on hu10
            have ou10 := ou9.on hu10
            have rzu10 := rzu9.on hu10
            have bu10 := bu9.trans (hu10.mono bu9.size)
            have zu10 := hu10.size
            refine hK _ _ ⟨eu10, (bu10.cell (by rw [block_of_add]; exact HLT.out)).trans HC.out⟩ ?_
            clear hK K
            repeat (refine plan_take _ rfl ?_; (first | (refine wpQuiet_valueG (o := ⟨some 49, _, _, _, _, _⟩) rfl _ (by intro _ h; exact exec_load _ 24 _ rfl ⟨w2.heap.size, 0, none⟩ rfl [.slice A M c] h.1.cells _ Try.underlying24 rfl (by kernel_rfl)) (wpQuiet_nil ?_); simp only [Act.put, List.setIfInBounds_toArray, List.set_cons_zero, List.set_cons_succ]) | (refine wpQuiet_valueG (o := ⟨some 54, _, _, _, _, _⟩) rfl _ (by intro _ h; exact exec_load1 _ 5 _ rfl (ad.add i) rfl _ h.2 _ Try.underlying5 rfl) (wpQuiet_nil ?_); simp only [Act.put, List.setIfInBounds_toArray, List.set_cons_zero, List.set_cons_succ]) | (go_big_quiet_step ((intros; rfl)); refine wpQuiet_nil ?_)))
            refine plan_one _ rfl fun K hK => ?_
            refine step_store_all rfl _ _ _ rfl wr.drew.heap.size rfl _ _ rzu10 [(.slice Au10 nu10 cu10)] rfl (slice_one _ _ _) rfl (by kernel_rfl) ?_
            intro wu11 ru11 gu11
            have eu11 := eu10.kept gu11 (by simp; omega)
            have ownu11 := own_kept_lt ownu10 gu11 (by omega)
            have bu11 := below_kept bu10 gu11 bu10.size (by rintro q hq; cases hq; omega)
            refine hK _ _ ⟨eu11, (bu11.cell (by rw [block_of_add]; exact HLT.out)).trans HC.out⟩ ?_
            clear hK K
            simp only [Act.put]
            repeat (refine plan_take _ rfl ?_; (first | (refine wpQuiet_valueG (o := ⟨some 49, _, _, _, _, _⟩) rfl _ (by intro _ h; exact exec_load _ 24 _ rfl ⟨w2.heap.size, 0, none⟩ rfl [.slice A M c] h.1.cells _ Try.underlying24 rfl (by kernel_rfl)) (wpQuiet_nil ?_); simp only [Act.put, List.setIfInBounds_toArray, List.set_cons_zero, List.set_cons_succ]) | (refine wpQuiet_valueG (o := ⟨some 54, _, _, _, _, _⟩) rfl _ (by intro _ h; exact exec_load1 _ 5 _ rfl (ad.add i) rfl _ h.2 _ Try.underlying5 rfl) (wpQuiet_nil ?_); simp only [Act.put, List.setIfInBounds_toArray, List.set_cons_zero, List.set_cons_succ]) | (go_big_quiet_step ((intros; rfl)); refine wpQuiet_nil ?_)))
            refine plan_done ?_
            go_wp2_with fail
            go_meet
            exact ⟨_, _, _, _, rfl, rfl, ru11, own_base ownu11 (by omega), szu10, by omega, bu11⟩
        case rest =>
          revert wc
          intro wc51 hcut
          obtain ⟨g_g, Ag, ng, mg, rfl, rfl, g_51, owng51, szg51, ggeg, h51⟩ := hcut
          have okg51 := own_flok owng51 szg51
          have B51 : Below wr.heap.size wr wc51 := h51
          have f_51 := e1.on h51
          have okf_51 := okA.on h51
          have wt_51 := eW.on h51
          have cf := f_51.cell (j := 0) rfl
          have cg := g_51.cell (j := 0) rfl
          have hng : M = ng := by rw [← okg51.len, List.length_map, List.length_set, HWL.out]
          subst hng
          have BG := B51
          have hcl := (BG.cell (by rw [block_of_add]; exact HLT.out)).trans HC.out
          clear cf hc
          have hlt9 := HLT.out
          have hbg := BG.size
          go_wp2_with (first
            | ((with_reducible refine wpList_at ⟨none, .store _ (.tmp 7) _, _, _, _, _⟩ ?_); refine wpList_store_all rfl _ _ _ rfl (w2.heap.size) rfl _ _ f_51 [.slice Ag M mg] rfl (slice_one _ _ _) rfl (by kernel_rfl) ?_; intro wS rS gS; have hcS := (cell_kept gS (by rw [block_of_add]; omega) (by rw [block_of_add]; omega)).trans hcl; have wS2 := wt_51.kept gS (by simp; omega))
            | ((with_reducible refine wpList_at ⟨none, .store _ (.tmp 68) _, _, _, _, _⟩ ?_); refine wpList_store_elem rfl _ _ _ rfl (w4.heap.size) j rfl _ _ wS2 (.int .u8 (v.toNat : Int)) rfl rfl (by rw [bvs_length, HWL.out]; exact hjn) (by kernel_rfl) ?_; intro wT rT gT))
          have ownT := own_kept_lt (own_kept_lt owng51 gS hGF) gT hGW
          have rST := rS.kept gT (by simp; omega)
          have BT := below_kept (below_kept (hB.trans (BG.mono hB.size)) gS (hB.trans (BG.mono hB.size)).size (by rintro q hq; cases hq; omega)) gT (Nat.le_trans (hB.trans (BG.mono hB.size)).size gS.size) (by rintro q hq; cases hq; omega)
          go_roundg (gk - 1)
          case measure => have := HI.out; omega
          case rel => exact ⟨i + 1, ws.set j v, Ag, mg, by have := HI.out; show _ = _; omega, by omega, by go_num, rST, own_flok ownT szg51, by unfold bvs at rT ⊢; rw [List.map_set]; exact rT, by rw [List.length_set]; exact HWL.out, BT⟩
      · obtain rfl : i = m := by omega
        clear cf
        go_wp2_with fail
        go_loopg [14] M (fun g s14 w2 => ∃ k : Nat, Hid (k + g = M) ∧ k ≤ M ∧ s14 = .int .i64 (k : Int) ∧ Below wr.heap.size wr w2)
        case atStart => exact ⟨0, by show _ = _; omega, by omega, rfl, Below.refl _ _⟩
        case round =>
          obtain ⟨k, HK, hk, rfl, hB2⟩ := hrel
          have f2 := e1.on hB2
          have cf := f2.cell (j := 0) rfl
          by_cases hlt : k < M
          · obtain ⟨u, hu⟩ : ∃ u, ws[k]? = some u := ⟨_, List.getElem?_eq_getElem (by rw [HWL.out]; exact hlt)⟩
            have hgu : (ws.map fullS)[k]? = some (fullS u) := by rw [List.getElem?_map, hu]; rfl
            have hcw : (bvs ws)[k]? = some (.int .u8 (u.toNat : Int)) := by unfold bvs; rw [List.getElem?_map, hu]; rfl
            have HR := Lib.hid (flRead_nat hgu)
            have HRE := Lib.hid (flErr_nat (fs := ws.map fullS) (j := k) (List.getElem?_eq_some_iff.1 hgu).1)
            have HFU := fun W => Lib.hid (show Calls Try.prog 21 #[.int .u8 (u.toNat : Int)] W (TellsS (fullS u) W) from full_any u W)
            have HCW := Lib.hid hcw
            have hut := u.toNat_lt
            clear hu hgu hcw
            go_wp2_with fail
            refine (read_eq HR.out HRE.out _ _ _ _ (okA.on hB2)).mono ?_
            rintro e w3 ⟨rfl, b3⟩
            have B3 := hB2.trans (b3.mono hB2.size)
            have cw := (eW.on B3).cell HCW.out
            clear cf
            go_wp2_with fail
            refine (HFU _).out.mono ?_
            rintro e w4 ⟨rfl, b4⟩
            have B4 := B3.trans (b4.mono B3.size)
            clear cw
            go_wp2_with fail
            go_roundg (gk - 1)
            case measure => have := HK.out; omega
            case rel => exact ⟨k + 1, by have := HK.out; show _ = _; omega, by omega, by go_num, B4⟩
          · obtain rfl : k = M := by omega
            clear cf
            go_wp2_with fail
            go_ret
            exact ⟨rfl, hB.trans (hB2.mono hB.size)⟩
end Go.Proofs.Ytlllllcmbnmmkaa
