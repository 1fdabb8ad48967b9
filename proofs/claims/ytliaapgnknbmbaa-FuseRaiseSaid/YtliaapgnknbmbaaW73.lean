/-
  FuseMonotone's walk. No condition but a bounded length.
-/
import Derived.Test.YtliaapgnknbmbaaW77
import Derived.Test.YtliaapgnknbmbaaFuL
import Derived.Test.YtliaapgnknbmbaaFuW
namespace Go.Proofs.Ytliaapgnknbmbaa
open Go.RowKit

theorem valid_bits {ps : List Part} (hv : fuValid (bk ps) = true) : ∀ p ∈ ps, p.l.length % 3 = 0 ∧ p.l.length ≤ 1000 := fun p hp => by
  obtain ⟨k, hk⟩ := List.mem_iff_getElem?.1 hp
  have := valid_bank hv (bk_get hk)
  exact ⟨this.1, by omega⟩

set_option maxRecDepth 100000 in
set_option maxHeartbeats 4000000 in
theorem walk73 (A : Option Addr) (n c : Nat) (ps : List Part) (L : Option Addr) (m d : Nat) (hs : List FHit) (w : World) (hok : FuOK w A n c ps) (hh : Reads w w.heap.size 3 L m (hvs hs)) :
    Calls Try.prog 5 #[fuv A n c, .slice L m d] w (TellsB true w) := by
  have HSA := fun W => sanity7_any W
  have HV := fun W (h : FuOK W A n c ps) => Lib.hid (rvalid_any A n c ps W h.1)
  unfold fuv at *
  cases hv : fuValid (bk ps) with
  | false =>
    rw [hv] at HV
    clear hv
    go_enter Try.func5, Try.ntmps5
    go_wp2_with (with_reducible refine wpList_box_row (o := ⟨some 2, _, _, _, _, _⟩) rfl _ _ rfl ([.slice A n c]) rfl ?_; intro w1 bx_1 s1 g1; have k1 : Below w.heap.size w w1 := grown_below g1 (Nat.le_refl _) (by simp); have B1 : Below w.heap.size w w1 := k1; have ok_1 := hok.on k1; have rh_1 := hh.on k1; have cbx := bx_1.cell (j := 0) rfl)
    refine ((HV _ ok_1).out).mono ?_
    rintro e w2 ⟨rfl, h2⟩
    have B2 := B1.trans (h2.mono B1.size)
    have ok_2 := ok_1.on h2
    have rh_2 := rh_1.on h2
    have bx_2 := bx_1.on h2
    clear ok_1 rh_1 bx_1
    have cbx := bx_2.cell (j := 0) rfl
    go_wp2_with fail
    refine (HSA _).mono ?_
    rintro e w3 ⟨rfl, h3⟩
    have B3 := B2.trans (h3.mono B2.size)
    have ok_3 := ok_2.on h3
    have rh_3 := rh_2.on h3
    have bx_3 := bx_2.on h3
    clear ok_2 rh_2 bx_2
    have cbx := bx_3.cell (j := 0) rfl
    go_wp2_with fail
    go_ret
    exact ⟨rfl, B3⟩
  | true =>
   rw [hv] at HV
   by_cases hm2 : 200 < m
   · go_enter Try.func5, Try.ntmps5
     go_wp2_with (with_reducible refine wpList_box_row (o := ⟨some 2, _, _, _, _, _⟩) rfl _ _ rfl ([.slice A n c]) rfl ?_; intro w1 bx_1 s1 g1; have k1 : Below w.heap.size w w1 := grown_below g1 (Nat.le_refl _) (by simp); have B1 : Below w.heap.size w w1 := k1; have ok_1 := hok.on k1; have rh_1 := hh.on k1; have cbx := bx_1.cell (j := 0) rfl)
     refine ((HV _ ok_1).out).mono ?_
     rintro e w2 ⟨rfl, h2⟩
     have B2 := B1.trans (h2.mono B1.size)
     have ok_2 := ok_1.on h2
     have rh_2 := rh_1.on h2
     have bx_2 := bx_1.on h2
     clear ok_1 rh_1 bx_1
     have cbx := bx_2.cell (j := 0) rfl
     go_wp2_with fail
     refine (HSA _).mono ?_
     rintro e w3 ⟨rfl, h3⟩
     have B3 := B2.trans (h3.mono B2.size)
     have ok_3 := ok_2.on h3
     have rh_3 := rh_2.on h3
     have bx_3 := bx_2.on h3
     clear ok_2 rh_2 bx_2
     have cbx := bx_3.cell (j := 0) rfl
     go_wp2_with fail
     go_ret
     exact ⟨rfl, B3⟩
   · have HLN := Lib.hid hok.1.len
     have hn4 := valid_n hok hv
     have HLL := Lib.hid (valid_l hv)
     have HH := fun W (h : FuOK W A n c ps) (g : Reads W W.heap.size 3 L m (hvs hs)) => Lib.hid (fhits_any A n c ps L m d hs W h (by omega) HLL.out g (by omega))
     have HNN := fun W A' n' c' ps' (h : FuOK W A' n' c' ps') (hb : bk ps' = fuHits (bk ps) hs) => Lib.hid (parts_le h (bs := bk ps) (k := 1000) (by rw [hb, fuHits_lens]) (by rw [bk_len, HLN.out]) HLL.out).1
     have HVL := Lib.hid hv
     have HVH : Hid (fuValid (fuHits (bk ps) hs) = true) := Lib.hid (by rw [hits_valid]; exact hv)
     unfold fuv at *
     clear hv
     go_enter Try.func5, Try.ntmps5
     go_wp2_with (with_reducible refine wpList_box_row (o := ⟨some 2, _, _, _, _, _⟩) rfl _ _ rfl ([.slice A n c]) rfl ?_; intro w1 bx_1 s1 g1; have k1 : Below w.heap.size w w1 := grown_below g1 (Nat.le_refl _) (by simp); have B1 : Below w.heap.size w w1 := k1; have ok_1 := hok.on k1; have rh_1 := hh.on k1; have cbx := bx_1.cell (j := 0) rfl)
     refine ((HV _ ok_1).out).mono ?_
     rintro e w2 ⟨rfl, h2⟩
     have B2 := B1.trans (h2.mono B1.size)
     have ok_2 := ok_1.on h2
     have rh_2 := rh_1.on h2
     have bx_2 := bx_1.on h2
     clear ok_1 rh_1 bx_1
     have cbx := bx_2.cell (j := 0) rfl
     go_wp2_with fail
     refine ((HH _ ok_2 rh_2).out).mono ?_
     rintro e w3 ⟨A7, n7, c7, qs, rfl, okg3, hb7, h3⟩
     have B3 := B2.trans (h3.mono B2.size)
     have ok_3 := ok_2.on h3
     have rh_3 := rh_2.on h3
     have bx_3 := bx_2.on h3
     clear ok_2 rh_2 bx_2
     have cbx := bx_3.cell (j := 0) rfl
     obtain rfl := (HNN _ _ _ _ _ okg3 hb7).out
     have HBQ := Lib.hid hb7
     clear hb7
     unfold fuv
     go_wp2_with (first
       | (with_reducible refine wpList_alloc_row (o := ⟨some 5, _, _, _, _, _⟩) rfl _ rfl [.slice none 0 0] (by kernel_rfl) ?_; intro w4 r4 s4 g4)
       | ((with_reducible refine wpList_at ⟨none, .store _ (.tmp 5) _, _, _, _, _⟩ ?_); refine wpList_store_all rfl _ _ _ rfl w3.heap.size rfl _ _ r4 [.slice A7 n7 c7] rfl (slice_one _ _ _) rfl (by kernel_rfl) ?_; intro w5 by_5 g5; have k5 : Below w3.heap.size w3 w5 := below_kept (grown_below g4 (Nat.le_refl _) (by simp)) g5 (Nat.le_of_lt s4) (by rintro q hq; cases hq; exact Nat.le_refl _); have B5 := B3.trans (k5.mono B3.size); have ok_5 := ok_3.on k5; have rh_5 := rh_3.on k5; have bx_5 := bx_3.on k5; have okg_5 := okg3.on k5; clear ok_3 rh_3 bx_3; have cbx := bx_5.cell (j := 0) rfl; have cby := by_5.cell (j := 0) rfl; clear r4 g4 g5))
     have HOK := Lib.hid ok_5
     have HOG := Lib.hid okg_5
     have BB := B5
     have e1 := bx_5
     have e2 := by_5
     go_loopg [22] n7 (fun g s22 wr => ∃ k : Nat, Hid (k + g = n7) ∧ k ≤ n7 ∧ s22 = .int .i64 (k : Int) ∧ Below w5.heap.size w5 wr)
     case atStart => exact ⟨0, by show _ = _; omega, by omega, rfl, Below.refl _ _⟩
     case round =>
      obtain ⟨k, HK, hk, rfl, hB⟩ := hrel
      clear cbx cby
      by_cases hlt : k < n7
      · have HG1 := fun W (h : FuOK W A7 n7 c7 qs) => Lib.hid (fleast_any A7 n7 c7 qs (k : Int) W h.1 h.2.2)
        have HF1 := fun W (h : FuOK W A n7 c ps) => Lib.hid (fleast_any A n7 c ps (k : Int) W h.1 h.2.2)
        have HG2 := fun W (h : FuOK W A7 n7 c7 qs) => Lib.hid (fmost_any A7 n7 c7 qs (k : Int) W h.1 h.2.2)
        have HF2 := fun W (h : FuOK W A n7 c ps) => Lib.hid (fmost_any A n7 c ps (k : Int) W h.1 h.2.2)
        have HGW := fun W (h : FuOK W A7 n7 c7 qs) => Lib.hid (fwidth_any A7 n7 c7 qs (k : Int) W h.1 h.2.2)
        have HFW := fun W (h : FuOK W A n7 c ps) => Lib.hid (fwidth_any A n7 c ps (k : Int) W h.1 h.2.2)
        rw [HBQ.out] at HG1 HG2 HGW
        rw [hits_width] at HGW
        have hl1 := hits_level (bk ps) hs (k : Int) false
        have hl2 := hits_level (bk ps) hs (k : Int) true
        unfold fuv at *
        generalize fuLevel (fuHits (bk ps) hs) (k : Int) false = G1 at *
        generalize fuLevel (fuHits (bk ps) hs) (k : Int) true = G2 at *
        generalize fuLevel (bk ps) (k : Int) false = F1 at *
        generalize fuLevel (bk ps) (k : Int) true = F2 at *
        generalize fuWidth (bk ps) (k : Int) = E at *
        have hd1 : decide (G1 < F1) = false := decide_eq_false (by omega)
        have hd2 : decide (G2 < F2) = false := decide_eq_false (by omega)
        clear hl1 hl2
        go_wp2_with fail
        refine wp_region_plan (fun w' => Row w' w.heap.size 24 [.slice A n7 c] ∧ Row w' w3.heap.size 24 [.slice A7 n7 c7]) (.take 0 <| .take 1 <| .take 3 <| .take 4 <| .one 2 <| .one 5 <| .take 6 <| .take 7 <| .take 8 <| .take 9 <| .take 11 <| .take 12 <| .one 10 <| .one 13 <| .take 14 <| .take 15 <| .take 16 <| .take 17 <| .take 18 <| .take 20 <| .take 21 <| .one 19 <| .one 22 <| .take 23 <| .take 24 <| .done) (by kernel_rfl) (by kernel_rfl) (by kernel_rfl) (fun _ _ _ _ _ h => h) ⟨e1.on hB.drew, e2.on hB.drew⟩ ?_
        repeat (refine plan_take _ rfl ?_; (first | (refine wpQuiet_valueG (o := ⟨some 25, _, _, _, _, _⟩) rfl _ (by intro _ h; exact exec_load _ 24 _ rfl ⟨w3.heap.size, 0, none⟩ rfl [.slice A7 n7 c7] h.2.cells _ Try.underlying24 rfl (by kernel_rfl)) (wpQuiet_nil ?_); simp only [Act.put, List.setIfInBounds_toArray, List.set_cons_zero, List.set_cons_succ]) | (refine wpQuiet_valueG (o := ⟨some 28, _, _, _, _, _⟩) rfl _ (by intro _ h; exact exec_load _ 24 _ rfl ⟨w.heap.size, 0, none⟩ rfl [.slice A n7 c] h.1.cells _ Try.underlying24 rfl (by kernel_rfl)) (wpQuiet_nil ?_); simp only [Act.put, List.setIfInBounds_toArray, List.set_cons_zero, List.set_cons_succ]) | (refine wpQuiet_valueG (o := ⟨some 33, _, _, _, _, _⟩) rfl _ (by intro _ h; exact exec_load _ 24 _ rfl ⟨w3.heap.size, 0, none⟩ rfl [.slice A7 n7 c7] h.2.cells _ Try.underlying24 rfl (by kernel_rfl)) (wpQuiet_nil ?_); simp only [Act.put, List.setIfInBounds_toArray, List.set_cons_zero, List.set_cons_succ]) | (refine wpQuiet_valueG (o := ⟨some 36, _, _, _, _, _⟩) rfl _ (by intro _ h; exact exec_load _ 24 _ rfl ⟨w.heap.size, 0, none⟩ rfl [.slice A n7 c] h.1.cells _ Try.underlying24 rfl (by kernel_rfl)) (wpQuiet_nil ?_); simp only [Act.put, List.setIfInBounds_toArray, List.set_cons_zero, List.set_cons_succ]) | (refine wpQuiet_valueG (o := ⟨some 42, _, _, _, _, _⟩) rfl _ (by intro _ h; exact exec_load _ 24 _ rfl ⟨w3.heap.size, 0, none⟩ rfl [.slice A7 n7 c7] h.2.cells _ Try.underlying24 rfl (by kernel_rfl)) (wpQuiet_nil ?_); simp only [Act.put, List.setIfInBounds_toArray, List.set_cons_zero, List.set_cons_succ]) | (refine wpQuiet_valueG (o := ⟨some 45, _, _, _, _, _⟩) rfl _ (by intro _ h; exact exec_load _ 24 _ rfl ⟨w.heap.size, 0, none⟩ rfl [.slice A n7 c] h.1.cells _ Try.underlying24 rfl (by kernel_rfl)) (wpQuiet_nil ?_); simp only [Act.put, List.setIfInBounds_toArray, List.set_cons_zero, List.set_cons_succ]) | (go_big_quiet_step ((intros; rfl)); refine wpQuiet_nil ?_)))
        refine plan_one _ rfl fun K hK => ?_
        go_simp
        refine ((HG1 _ (HOG.out.on hB.drew)).out).mono ?_
        rintro e wq2 ⟨rfl, hq2⟩
        have Bq2 := hB.drew.trans (hq2.mono hB.drew.size)
        refine hK _ _ ⟨e1.on Bq2, e2.on Bq2⟩ ?_
        clear hK K
        refine plan_one _ rfl fun K hK => ?_
        go_simp
        refine ((HF1 _ (HOK.out.on Bq2)).out).mono ?_
        rintro e wq5 ⟨rfl, hq5⟩
        have Bq5 := Bq2.trans (hq5.mono Bq2.size)
        refine hK _ _ ⟨e1.on Bq5, e2.on Bq5⟩ ?_
        clear hK K
        repeat (refine plan_take _ rfl ?_; (first | (refine wpQuiet_valueG (o := ⟨some 25, _, _, _, _, _⟩) rfl _ (by intro _ h; exact exec_load _ 24 _ rfl ⟨w3.heap.size, 0, none⟩ rfl [.slice A7 n7 c7] h.2.cells _ Try.underlying24 rfl (by kernel_rfl)) (wpQuiet_nil ?_); simp only [Act.put, List.setIfInBounds_toArray, List.set_cons_zero, List.set_cons_succ]) | (refine wpQuiet_valueG (o := ⟨some 28, _, _, _, _, _⟩) rfl _ (by intro _ h; exact exec_load _ 24 _ rfl ⟨w.heap.size, 0, none⟩ rfl [.slice A n7 c] h.1.cells _ Try.underlying24 rfl (by kernel_rfl)) (wpQuiet_nil ?_); simp only [Act.put, List.setIfInBounds_toArray, List.set_cons_zero, List.set_cons_succ]) | (refine wpQuiet_valueG (o := ⟨some 33, _, _, _, _, _⟩) rfl _ (by intro _ h; exact exec_load _ 24 _ rfl ⟨w3.heap.size, 0, none⟩ rfl [.slice A7 n7 c7] h.2.cells _ Try.underlying24 rfl (by kernel_rfl)) (wpQuiet_nil ?_); simp only [Act.put, List.setIfInBounds_toArray, List.set_cons_zero, List.set_cons_succ]) | (refine wpQuiet_valueG (o := ⟨some 36, _, _, _, _, _⟩) rfl _ (by intro _ h; exact exec_load _ 24 _ rfl ⟨w.heap.size, 0, none⟩ rfl [.slice A n7 c] h.1.cells _ Try.underlying24 rfl (by kernel_rfl)) (wpQuiet_nil ?_); simp only [Act.put, List.setIfInBounds_toArray, List.set_cons_zero, List.set_cons_succ]) | (refine wpQuiet_valueG (o := ⟨some 42, _, _, _, _, _⟩) rfl _ (by intro _ h; exact exec_load _ 24 _ rfl ⟨w3.heap.size, 0, none⟩ rfl [.slice A7 n7 c7] h.2.cells _ Try.underlying24 rfl (by kernel_rfl)) (wpQuiet_nil ?_); simp only [Act.put, List.setIfInBounds_toArray, List.set_cons_zero, List.set_cons_succ]) | (refine wpQuiet_valueG (o := ⟨some 45, _, _, _, _, _⟩) rfl _ (by intro _ h; exact exec_load _ 24 _ rfl ⟨w.heap.size, 0, none⟩ rfl [.slice A n7 c] h.1.cells _ Try.underlying24 rfl (by kernel_rfl)) (wpQuiet_nil ?_); simp only [Act.put, List.setIfInBounds_toArray, List.set_cons_zero, List.set_cons_succ]) | (go_big_quiet_step ((intros; rfl)); refine wpQuiet_nil ?_)))
        refine plan_one _ rfl fun K hK => ?_
        go_simp
        refine ((HG2 _ (HOG.out.on Bq5)).out).mono ?_
        rintro e wq10 ⟨rfl, hq10⟩
        have Bq10 := Bq5.trans (hq10.mono Bq5.size)
        refine hK _ _ ⟨e1.on Bq10, e2.on Bq10⟩ ?_
        clear hK K
        refine plan_one _ rfl fun K hK => ?_
        go_simp
        refine ((HF2 _ (HOK.out.on Bq10)).out).mono ?_
        rintro e wq13 ⟨rfl, hq13⟩
        have Bq13 := Bq10.trans (hq13.mono Bq10.size)
        refine hK _ _ ⟨e1.on Bq13, e2.on Bq13⟩ ?_
        clear hK K
        repeat (refine plan_take _ rfl ?_; (first | (refine wpQuiet_valueG (o := ⟨some 25, _, _, _, _, _⟩) rfl _ (by intro _ h; exact exec_load _ 24 _ rfl ⟨w3.heap.size, 0, none⟩ rfl [.slice A7 n7 c7] h.2.cells _ Try.underlying24 rfl (by kernel_rfl)) (wpQuiet_nil ?_); simp only [Act.put, List.setIfInBounds_toArray, List.set_cons_zero, List.set_cons_succ]) | (refine wpQuiet_valueG (o := ⟨some 28, _, _, _, _, _⟩) rfl _ (by intro _ h; exact exec_load _ 24 _ rfl ⟨w.heap.size, 0, none⟩ rfl [.slice A n7 c] h.1.cells _ Try.underlying24 rfl (by kernel_rfl)) (wpQuiet_nil ?_); simp only [Act.put, List.setIfInBounds_toArray, List.set_cons_zero, List.set_cons_succ]) | (refine wpQuiet_valueG (o := ⟨some 33, _, _, _, _, _⟩) rfl _ (by intro _ h; exact exec_load _ 24 _ rfl ⟨w3.heap.size, 0, none⟩ rfl [.slice A7 n7 c7] h.2.cells _ Try.underlying24 rfl (by kernel_rfl)) (wpQuiet_nil ?_); simp only [Act.put, List.setIfInBounds_toArray, List.set_cons_zero, List.set_cons_succ]) | (refine wpQuiet_valueG (o := ⟨some 36, _, _, _, _, _⟩) rfl _ (by intro _ h; exact exec_load _ 24 _ rfl ⟨w.heap.size, 0, none⟩ rfl [.slice A n7 c] h.1.cells _ Try.underlying24 rfl (by kernel_rfl)) (wpQuiet_nil ?_); simp only [Act.put, List.setIfInBounds_toArray, List.set_cons_zero, List.set_cons_succ]) | (refine wpQuiet_valueG (o := ⟨some 42, _, _, _, _, _⟩) rfl _ (by intro _ h; exact exec_load _ 24 _ rfl ⟨w3.heap.size, 0, none⟩ rfl [.slice A7 n7 c7] h.2.cells _ Try.underlying24 rfl (by kernel_rfl)) (wpQuiet_nil ?_); simp only [Act.put, List.setIfInBounds_toArray, List.set_cons_zero, List.set_cons_succ]) | (refine wpQuiet_valueG (o := ⟨some 45, _, _, _, _, _⟩) rfl _ (by intro _ h; exact exec_load _ 24 _ rfl ⟨w.heap.size, 0, none⟩ rfl [.slice A n7 c] h.1.cells _ Try.underlying24 rfl (by kernel_rfl)) (wpQuiet_nil ?_); simp only [Act.put, List.setIfInBounds_toArray, List.set_cons_zero, List.set_cons_succ]) | (go_big_quiet_step ((intros; rfl)); refine wpQuiet_nil ?_)))
        refine plan_one _ rfl fun K hK => ?_
        go_simp
        refine ((HGW _ (HOG.out.on Bq13)).out).mono ?_
        rintro e wq19 ⟨rfl, hq19⟩
        have Bq19 := Bq13.trans (hq19.mono Bq13.size)
        refine hK _ _ ⟨e1.on Bq19, e2.on Bq19⟩ ?_
        clear hK K
        refine plan_one _ rfl fun K hK => ?_
        go_simp
        refine ((HFW _ (HOK.out.on Bq19)).out).mono ?_
        rintro e wq22 ⟨rfl, hq22⟩
        have Bq22 := Bq19.trans (hq22.mono Bq19.size)
        refine hK _ _ ⟨e1.on Bq22, e2.on Bq22⟩ ?_
        clear hK K
        repeat (refine plan_take _ rfl ?_; (first | (refine wpQuiet_valueG (o := ⟨some 25, _, _, _, _, _⟩) rfl _ (by intro _ h; exact exec_load _ 24 _ rfl ⟨w3.heap.size, 0, none⟩ rfl [.slice A7 n7 c7] h.2.cells _ Try.underlying24 rfl (by kernel_rfl)) (wpQuiet_nil ?_); simp only [Act.put, List.setIfInBounds_toArray, List.set_cons_zero, List.set_cons_succ]) | (refine wpQuiet_valueG (o := ⟨some 28, _, _, _, _, _⟩) rfl _ (by intro _ h; exact exec_load _ 24 _ rfl ⟨w.heap.size, 0, none⟩ rfl [.slice A n7 c] h.1.cells _ Try.underlying24 rfl (by kernel_rfl)) (wpQuiet_nil ?_); simp only [Act.put, List.setIfInBounds_toArray, List.set_cons_zero, List.set_cons_succ]) | (refine wpQuiet_valueG (o := ⟨some 33, _, _, _, _, _⟩) rfl _ (by intro _ h; exact exec_load _ 24 _ rfl ⟨w3.heap.size, 0, none⟩ rfl [.slice A7 n7 c7] h.2.cells _ Try.underlying24 rfl (by kernel_rfl)) (wpQuiet_nil ?_); simp only [Act.put, List.setIfInBounds_toArray, List.set_cons_zero, List.set_cons_succ]) | (refine wpQuiet_valueG (o := ⟨some 36, _, _, _, _, _⟩) rfl _ (by intro _ h; exact exec_load _ 24 _ rfl ⟨w.heap.size, 0, none⟩ rfl [.slice A n7 c] h.1.cells _ Try.underlying24 rfl (by kernel_rfl)) (wpQuiet_nil ?_); simp only [Act.put, List.setIfInBounds_toArray, List.set_cons_zero, List.set_cons_succ]) | (refine wpQuiet_valueG (o := ⟨some 42, _, _, _, _, _⟩) rfl _ (by intro _ h; exact exec_load _ 24 _ rfl ⟨w3.heap.size, 0, none⟩ rfl [.slice A7 n7 c7] h.2.cells _ Try.underlying24 rfl (by kernel_rfl)) (wpQuiet_nil ?_); simp only [Act.put, List.setIfInBounds_toArray, List.set_cons_zero, List.set_cons_succ]) | (refine wpQuiet_valueG (o := ⟨some 45, _, _, _, _, _⟩) rfl _ (by intro _ h; exact exec_load _ 24 _ rfl ⟨w.heap.size, 0, none⟩ rfl [.slice A n7 c] h.1.cells _ Try.underlying24 rfl (by kernel_rfl)) (wpQuiet_nil ?_); simp only [Act.put, List.setIfInBounds_toArray, List.set_cons_zero, List.set_cons_succ]) | (go_big_quiet_step ((intros; rfl)); refine wpQuiet_nil ?_)))
        refine plan_done ?_
        go_wp2_with fail
        go_roundg (gk - 1)
        case measure => have := HK.out; omega
        case rel => exact ⟨k + 1, by have := HK.out; show _ = _; omega, by omega, by go_num, Bq22⟩
      · have HGV := fun W (h : FuOK W A7 n7 c7 qs) => Lib.hid (fvalid_any A7 n7 c7 qs W h.1)
        have HGS := fun W (h : FuOK W A7 n7 c7 qs) => Lib.hid (fsound_any A7 n7 c7 qs W h.1 (by omega) (valid_bits (by rw [HBQ.out]; exact HVH.out)))
        have HFS := fun W (h : FuOK W A n7 c ps) => Lib.hid (fsound_any A n7 c ps W h.1 (by omega) (valid_bits HVL.out))
        rw [HBQ.out] at HGV HGS
        rw [HVH.out] at HGV
        rw [hits_sound] at HGS
        unfold fuv at *
        generalize fuSound (bk ps) = X at *
        go_wp2_with fail
        refine wp_region_plan (fun w' => Row w' w.heap.size 24 [.slice A n7 c] ∧ Row w' w3.heap.size 24 [.slice A7 n7 c7]) (.one 0 <| .take 1 <| .take 2 <| .one 3 <| .take 4 <| .take 5 <| .take 6 <| .take 8 <| .one 7 <| .one 9 <| .take 10 <| .take 11 <| .take 12 <| .done) (by kernel_rfl) (by kernel_rfl) (by kernel_rfl) (fun _ _ _ _ _ h => h) ⟨e1.on hB.drew, e2.on hB.drew⟩ ?_
        refine plan_one _ rfl fun K hK => ?_
        go_simp
        refine (HSA _).mono ?_
        rintro e wq0 ⟨rfl, hq0⟩
        have Bq0 := hB.drew.trans (hq0.mono hB.drew.size)
        refine hK _ _ ⟨e1.on Bq0, e2.on Bq0⟩ ?_
        clear hK K
        repeat (refine plan_take _ rfl ?_; (first | (refine wpQuiet_valueG (o := ⟨some 53, _, _, _, _, _⟩) rfl _ (by intro _ h; exact exec_load _ 24 _ rfl ⟨w3.heap.size, 0, none⟩ rfl [.slice A7 n7 c7] h.2.cells _ Try.underlying24 rfl (by kernel_rfl)) (wpQuiet_nil ?_); simp only [Act.put, List.setIfInBounds_toArray, List.set_cons_zero, List.set_cons_succ]) | (refine wpQuiet_valueG (o := ⟨some 57, _, _, _, _, _⟩) rfl _ (by intro _ h; exact exec_load _ 24 _ rfl ⟨w3.heap.size, 0, none⟩ rfl [.slice A7 n7 c7] h.2.cells _ Try.underlying24 rfl (by kernel_rfl)) (wpQuiet_nil ?_); simp only [Act.put, List.setIfInBounds_toArray, List.set_cons_zero, List.set_cons_succ]) | (refine wpQuiet_valueG (o := ⟨some 59, _, _, _, _, _⟩) rfl _ (by intro _ h; exact exec_load _ 24 _ rfl ⟨w.heap.size, 0, none⟩ rfl [.slice A n7 c] h.1.cells _ Try.underlying24 rfl (by kernel_rfl)) (wpQuiet_nil ?_); simp only [Act.put, List.setIfInBounds_toArray, List.set_cons_zero, List.set_cons_succ]) | (go_big_quiet_step ((intros; rfl)); refine wpQuiet_nil ?_)))
        refine plan_one _ rfl fun K hK => ?_
        go_simp
        refine ((HGV _ (HOG.out.on Bq0)).out).mono ?_
        rintro e wq3 ⟨rfl, hq3⟩
        have Bq3 := Bq0.trans (hq3.mono Bq0.size)
        refine hK _ _ ⟨e1.on Bq3, e2.on Bq3⟩ ?_
        clear hK K
        repeat (refine plan_take _ rfl ?_; (first | (refine wpQuiet_valueG (o := ⟨some 53, _, _, _, _, _⟩) rfl _ (by intro _ h; exact exec_load _ 24 _ rfl ⟨w3.heap.size, 0, none⟩ rfl [.slice A7 n7 c7] h.2.cells _ Try.underlying24 rfl (by kernel_rfl)) (wpQuiet_nil ?_); simp only [Act.put, List.setIfInBounds_toArray, List.set_cons_zero, List.set_cons_succ]) | (refine wpQuiet_valueG (o := ⟨some 57, _, _, _, _, _⟩) rfl _ (by intro _ h; exact exec_load _ 24 _ rfl ⟨w3.heap.size, 0, none⟩ rfl [.slice A7 n7 c7] h.2.cells _ Try.underlying24 rfl (by kernel_rfl)) (wpQuiet_nil ?_); simp only [Act.put, List.setIfInBounds_toArray, List.set_cons_zero, List.set_cons_succ]) | (refine wpQuiet_valueG (o := ⟨some 59, _, _, _, _, _⟩) rfl _ (by intro _ h; exact exec_load _ 24 _ rfl ⟨w.heap.size, 0, none⟩ rfl [.slice A n7 c] h.1.cells _ Try.underlying24 rfl (by kernel_rfl)) (wpQuiet_nil ?_); simp only [Act.put, List.setIfInBounds_toArray, List.set_cons_zero, List.set_cons_succ]) | (go_big_quiet_step ((intros; rfl)); refine wpQuiet_nil ?_)))
        refine plan_one _ rfl fun K hK => ?_
        go_simp
        refine ((HGS _ (HOG.out.on Bq3)).out).mono ?_
        rintro e wq7 ⟨rfl, hq7⟩
        have Bq7 := Bq3.trans (hq7.mono Bq3.size)
        refine hK _ _ ⟨e1.on Bq7, e2.on Bq7⟩ ?_
        clear hK K
        refine plan_one _ rfl fun K hK => ?_
        go_simp
        refine ((HFS _ (HOK.out.on Bq7)).out).mono ?_
        rintro e wq9 ⟨rfl, hq9⟩
        have Bq9 := Bq7.trans (hq9.mono Bq7.size)
        refine hK _ _ ⟨e1.on Bq9, e2.on Bq9⟩ ?_
        clear hK K
        repeat (refine plan_take _ rfl ?_; (first | (refine wpQuiet_valueG (o := ⟨some 53, _, _, _, _, _⟩) rfl _ (by intro _ h; exact exec_load _ 24 _ rfl ⟨w3.heap.size, 0, none⟩ rfl [.slice A7 n7 c7] h.2.cells _ Try.underlying24 rfl (by kernel_rfl)) (wpQuiet_nil ?_); simp only [Act.put, List.setIfInBounds_toArray, List.set_cons_zero, List.set_cons_succ]) | (refine wpQuiet_valueG (o := ⟨some 57, _, _, _, _, _⟩) rfl _ (by intro _ h; exact exec_load _ 24 _ rfl ⟨w3.heap.size, 0, none⟩ rfl [.slice A7 n7 c7] h.2.cells _ Try.underlying24 rfl (by kernel_rfl)) (wpQuiet_nil ?_); simp only [Act.put, List.setIfInBounds_toArray, List.set_cons_zero, List.set_cons_succ]) | (refine wpQuiet_valueG (o := ⟨some 59, _, _, _, _, _⟩) rfl _ (by intro _ h; exact exec_load _ 24 _ rfl ⟨w.heap.size, 0, none⟩ rfl [.slice A n7 c] h.1.cells _ Try.underlying24 rfl (by kernel_rfl)) (wpQuiet_nil ?_); simp only [Act.put, List.setIfInBounds_toArray, List.set_cons_zero, List.set_cons_succ]) | (go_big_quiet_step ((intros; rfl)); refine wpQuiet_nil ?_)))
        refine plan_done ?_
        go_wp2_with fail
        go_ret
        exact ⟨by simp, BB.trans (Bq9.mono BB.size)⟩
end Go.Proofs.Ytliaapgnknbmbaa
