/-
  What the reference's Put returns: a contract by a walk. Condition: bounded lengths.
-/
import Derived.Test.YtfclifolniefpaaGreatDoorStRef
import Derived.Test.YtfclifolniefpaaGreatDoorStRi
import Derived.Test.YtfclifolniefpaaGreatDoorStK
set_option linter.unusedSimpArgs false
set_option linter.unusedVariables false
namespace Go.Proofs.YtfclifolniefpaaGreatDoor
open Go.RowKit

set_option maxRecDepth 100000 in
set_option maxHeartbeats 4000000 in
theorem rput_any (rec : Int) (c : ByteArray) (A : Option Addr) (n d : Nat) (l : List StR) (w : World) (hr : Reads w w.heap.size 2 A n (rcs l)) (hn : n ≤ 1000) (hs : ∀ r ∈ l, r.s.size ≤ 400) (hcs : c.size ≤ 1000000) :
    Calls Tryz.prog 12 #[.int .i64 rec, .string c, .slice A n d] w (GivesS (stPut rec c (l.map StR.s)) w) := by
  have HML : Hid ((l.map StR.s).length = n) := Lib.hid (by rw [List.length_map, hr.len_of (by decide) StR.cs_len])
  cases hin : stIn rec with
  | false =>
    have HE := Lib.hid (stPut_out (c := c) (l := l.map StR.s) hin)
    generalize stPut rec c (l.map StR.s) = R at *
    have HSV := fun g W h (_ : Below w.heap.size w W) (_ : w.heap.size ≤ g) => Lib.hid (rsave_out g rec c (⟨A, n, d, 0, noA, false⟩ : Cu) hin W h)
    clear hin
    go_enter Tryz.func12, Tryz.ntmps12
    go_wp2_with (first
      | (with_reducible refine wpList_alloc_row (o := ⟨some 6, _, _, _, _, _⟩) rfl _ rfl zeroA zero_ac ?_; intro w1 z4_1 s1 g1; have k1 : Below w.heap.size w w1 := grown_below g1 (Nat.le_refl _) (by simp); have B1 : Below w.heap.size w w1 := k1)
      | (with_reducible refine wpList_alloc_row (o := ⟨some 7, _, _, _, _, _⟩) rfl _ rfl zeroO zero_so ?_; intro w2 z5_2 s2 g2; have k2 : Below w1.heap.size w1 w2 := grown_below g2 (Nat.le_refl _) (by simp); have B2 := B1.trans (k2.mono B1.size); have z4_2 := z4_1.on k2; clear z4_1)
      | (with_reducible refine wpList_alloc_row (o := ⟨some 9, _, _, _, _, _⟩) rfl _ rfl zeroC zero_cu ?_; intro w3 r3 s3 g3)
      | ((with_reducible refine wpList_at ⟨none, .store _ (.tmp 9) _, _, _, _, _⟩ ?_); refine wpList_store_all rfl _ _ _ rfl w2.heap.size rfl _ _ r3 ((⟨A, n, d, 0, noA, false⟩ : Cu).cs) rfl ((⟨A, n, d, 0, noA, false⟩ : Cu).cs_one) rfl (by kernel_rfl) ?_; intro w4 cu_4 g4; have k4 : Below w2.heap.size w2 w4 := below_kept (grown_below g3 (Nat.le_refl _) (by simp)) g4 (Nat.le_of_lt s3) (by rintro q hq; cases hq; exact Nat.le_refl _); have B4 := B2.trans (k4.mono B2.size); have z4_4 := z4_2.on k4; have z5_4 := z5_2.on k4; clear z4_2 z5_2; clear r3 g3 g4; have s4 := cu_4.lt))
    have l5z4 := z4_4.lt
    have l5z5 := z5_4.lt
    have l5cu := cu_4.lt
    have lB5 := B4.size
    refine ((HSV _ _ cu_4 B4 (by have := B4.size; omega)).out).mono ?_
    rintro e w5 ⟨rfl, cu_5, g5⟩
    have z4_5 := z4_4.kept g5 (by simp; omega)
    have z5_5 := z5_4.kept g5 (by simp; omega)
    have B5 := below_kept B4 g5 B4.size (by rintro q hq; cases hq; omega)
    have sz5 := g5.size
    have c6 : w5.cell? ⟨w2.heap.size, 6, none⟩ = some (.bool false) := cu_5.cell (j := 6) rfl
    go_wp2_with (first
      | (with_reducible refine wpList_alloc_row (o := ⟨some 10, _, _, _, _, _⟩) rfl _ rfl zeroO zero_so ?_; intro w6 r6 s6 g6)
      | ((with_reducible refine wpList_at ⟨none, .store _ (.tmp 10) _, _, _, _, _⟩ ?_); refine wpList_store_all rfl _ _ _ rfl w5.heap.size rfl _ _ r6 ((⟨em, 0, 1⟩ : StO).cs) rfl ((⟨em, 0, 1⟩ : StO).cs_one) rfl (by kernel_rfl) ?_; intro w7 so_7 g7; have k7 : Below w5.heap.size w5 w7 := below_kept (grown_below g6 (Nat.le_refl _) (by simp)) g7 (Nat.le_of_lt s6) (by rintro q hq; cases hq; exact Nat.le_refl _); have B7 := B5.trans (k7.mono B5.size); have z4_7 := z4_5.on k7; have z5_7 := z5_5.on k7; have cu_7 := cu_5.on k7; clear z4_5 z5_5 cu_5; clear r6 g6 g7; have s7 := so_7.lt; have c6 := cu_7.cell (j := 6) rfl))
    try simp only [Act.put, List.setIfInBounds_toArray, List.set_cons_zero, List.set_cons_succ]
    have bq0 : Below w.heap.size w w7.drew := B7.drew
    have soq := so_7.drew
    have z4q := z4_7.drew
    have z5q := z5_7.drew
    refine wp_region_plan (fun w' => Row w' (w5.heap.size) 29 ((⟨em, 0, 1⟩ : StO)).cs) (.take 0 <| .take 1 <| .one 2 <| .one 3 <| .take 4 <| .done) (by kernel_rfl) (by kernel_rfl) (by kernel_rfl) (fun _ _ _ _ _ h => h) soq ?_
    repeat (refine plan_take _ rfl ?_; (first | ((with_reducible refine wpQuiet_at ⟨some 22, _, _, _, _, _⟩ ?_); refine wpQuiet_valueG rfl _ (by intro _ hS; exact exec_loadO _ _ rfl (w5.heap.size) rfl ((⟨em, 0, 1⟩ : StO)) hS) (wpQuiet_nil ?_); simp only [Act.put, List.setIfInBounds_toArray, List.set_cons_zero, List.set_cons_succ]) | (go_big_quiet_step ((intros; rfl)); refine wpQuiet_nil ?_)))
    refine plan_one _ rfl fun K hK => ?_
    refine step_store_all rfl _ _ _ rfl (w.heap.size) rfl _ _ z4q ((noA).cs) rfl ((noA).cs_one) rfl (by kernel_rfl) ?_
    intro wu1 z4u1 gu1
    have bu1 := below_kept bq0 gu1 bq0.size (by rintro q hq; cases hq; omega)
    have sou1 := soq.kept gu1 (by simp; omega)
    have z5u1 := z5q.kept gu1 (by simp; omega)
    refine hK _ _ sou1 ?_
    clear hK K
    simp only [Act.put, List.setIfInBounds_toArray, List.set_cons_zero, List.set_cons_succ]
    refine plan_one _ rfl fun K hK => ?_
    refine step_store_all rfl _ _ _ rfl (w1.heap.size) rfl _ _ z5u1 (((⟨em, 0, 1⟩ : StO)).cs) rfl (((⟨em, 0, 1⟩ : StO)).cs_one) rfl (by kernel_rfl) ?_
    intro wu2 z5u2 gu2
    have bu2 := below_kept bu1 gu2 bu1.size (by rintro q hq; cases hq; omega)
    have sou2 := sou1.kept gu2 (by simp; omega)
    have z4u2 := z4u1.kept gu2 (by simp; omega)
    refine hK _ _ sou2 ?_
    clear hK K
    simp only [Act.put, List.setIfInBounds_toArray, List.set_cons_zero, List.set_cons_succ]
    repeat (refine plan_take _ rfl ?_; (first | ((with_reducible refine wpQuiet_at ⟨some 22, _, _, _, _, _⟩ ?_); refine wpQuiet_valueG rfl _ (by intro _ hS; exact exec_loadO _ _ rfl (w5.heap.size) rfl ((⟨em, 0, 1⟩ : StO)) hS) (wpQuiet_nil ?_); simp only [Act.put, List.setIfInBounds_toArray, List.set_cons_zero, List.set_cons_succ]) | (go_big_quiet_step ((intros; rfl)); refine wpQuiet_nil ?_)))
    refine plan_done ?_
    go_wp2_with fail
    exact bodyPost_ret (results_cells2 Tryz.results12 _ _ _ _ _ _ rfl rfl (load_ac z4u2) (load_so z5u2)) rfl ⟨by first | (rw [HE.out]; done) | (rw [HE.out]; rfl), bu2⟩
  | true =>
    by_cases hx : c.size ≤ 2000
    · by_cases h16 : n < 16
      · have HE := Lib.hid (stPut_rd (c := c) (l := l.map StR.s) hin hx (by rw [HML.out]; exact h16))
        have HSV := fun g (W : World) (h : Row W g 68 (cuS A n d (stRead rec) 0).cs) (hB : Below w.heap.size w W) (hg : w.heap.size ≤ g) => Lib.hid (rsave_few g A n d (stRead rec) rec c l hin hx (fun _ _ => rfl) W h (hr.on hB) (fun h0 ad e => by obtain ⟨ad', e', hb, _⟩ := hr.2 h0; rw [e'] at e; cases e; omega) hn hs h16)
        have h0 : cuS A n d (stRead rec) 0 = ⟨A, n, d, 0, noA, false⟩ := by unfold cuS; rw [if_pos (Nat.zero_le _)]
        rw [h0] at HSV
        rw [HML.out] at HE
        generalize stPut rec c (l.map StR.s) = R at *
        clear hin h0 hr hs hx
        go_enter Tryz.func12, Tryz.ntmps12
        go_wp2_with (first
          | (with_reducible refine wpList_alloc_row (o := ⟨some 6, _, _, _, _, _⟩) rfl _ rfl zeroA zero_ac ?_; intro w8 z4_8 s8 g8; have k8 : Below w.heap.size w w8 := grown_below g8 (Nat.le_refl _) (by simp); have B8 : Below w.heap.size w w8 := k8)
          | (with_reducible refine wpList_alloc_row (o := ⟨some 7, _, _, _, _, _⟩) rfl _ rfl zeroO zero_so ?_; intro w9 z5_9 s9 g9; have k9 : Below w8.heap.size w8 w9 := grown_below g9 (Nat.le_refl _) (by simp); have B9 := B8.trans (k9.mono B8.size); have z4_9 := z4_8.on k9; clear z4_8)
          | (with_reducible refine wpList_alloc_row (o := ⟨some 9, _, _, _, _, _⟩) rfl _ rfl zeroC zero_cu ?_; intro w10 r10 s10 g10)
          | ((with_reducible refine wpList_at ⟨none, .store _ (.tmp 9) _, _, _, _, _⟩ ?_); refine wpList_store_all rfl _ _ _ rfl w9.heap.size rfl _ _ r10 ((⟨A, n, d, 0, noA, false⟩ : Cu).cs) rfl ((⟨A, n, d, 0, noA, false⟩ : Cu).cs_one) rfl (by kernel_rfl) ?_; intro w11 cu_11 g11; have k11 : Below w9.heap.size w9 w11 := below_kept (grown_below g10 (Nat.le_refl _) (by simp)) g11 (Nat.le_of_lt s10) (by rintro q hq; cases hq; exact Nat.le_refl _); have B11 := B9.trans (k11.mono B9.size); have z4_11 := z4_9.on k11; have z5_11 := z5_9.on k11; clear z4_9 z5_9; clear r10 g10 g11; have s11 := cu_11.lt))
        have l12z4 := z4_11.lt
        have l12z5 := z5_11.lt
        have l12cu := cu_11.lt
        have lB12 := B11.size
        refine ((HSV _ _ cu_11 B11 (by have := B11.size; omega)).out).mono ?_
        rintro e w12 ⟨rfl, cu_12, g12⟩
        have z4_12 := z4_11.kept g12 (by simp; omega)
        have z5_12 := z5_11.kept g12 (by simp; omega)
        have B12 := below_kept B11 g12 B11.size (by rintro q hq; cases hq; omega)
        have sz12 := g12.size
        have c6 : w12.cell? ⟨w9.heap.size, 6, none⟩ = some (.bool true) := cu_12.cell (j := 6) rfl
        go_wp2_with (first
          | (with_reducible refine wpList_alloc_row (o := ⟨some 10, _, _, _, _, _⟩) rfl _ rfl zeroO zero_so ?_; intro w13 r13 s13 g13)
          | ((with_reducible refine wpList_at ⟨none, .store _ (.tmp 10) _, _, _, _, _⟩ ?_); refine wpList_store_all rfl _ _ _ rfl w12.heap.size rfl _ _ r13 (noO.cs) rfl (noO.cs_one) rfl (by kernel_rfl) ?_; intro w14 so_14 g14; have k14 : Below w12.heap.size w12 w14 := below_kept (grown_below g13 (Nat.le_refl _) (by simp)) g14 (Nat.le_of_lt s13) (by rintro q hq; cases hq; exact Nat.le_refl _); have B14 := B12.trans (k14.mono B12.size); have z4_14 := z4_12.on k14; have z5_14 := z5_12.on k14; have cu_14 := cu_12.on k14; clear z4_12 z5_12 cu_12; clear r13 g13 g14; have s14 := so_14.lt; have c6 := cu_14.cell (j := 6) rfl)
          | ((with_reducible refine wpList_at ⟨some 19, _, _, _, _, _⟩ ?_); refine wpList_valueG rfl _ (by exact exec_load _ 26 _ rfl ⟨w9.heap.size, 2, none⟩ rfl (stRead rec n).cs (Row.part10 cu_14 (pre := [_, _]) rfl rfl) _ Tryz.underlying26 rfl (by kernel_rfl)) ?_)
          | ((with_reducible refine wpList_at ⟨none, .store _ (.tmp 6) _, _, _, _, _⟩ ?_); refine wpList_store_all rfl _ _ _ rfl (w.heap.size) rfl _ _ z4_14 ((stRead rec n).cs) rfl ((stRead rec n).cs_one) rfl (by kernel_rfl) ?_; intro w15 z4_15 g15; have z5_15 := z5_14.kept g15 (by simp; omega); have cu_15 := cu_14.kept g15 (by simp; omega); have so_15 := so_14.kept g15 (by simp; omega); have B15 := below_kept B14 g15 B14.size (by rintro q hq; cases hq; omega); have sz15 := g15.size; clear z5_14 cu_14 so_14)
          | ((with_reducible refine wpList_at ⟨none, .store _ (.tmp 7) _, _, _, _, _⟩ ?_); refine wpList_store_all rfl _ _ _ rfl (w8.heap.size) rfl _ _ z5_15 (noO.cs) rfl (noO.cs_one) rfl (by kernel_rfl) ?_; intro w16 z5_16 g16; have z4_16 := z4_15.kept g16 (by simp; omega); have cu_16 := cu_15.kept g16 (by simp; omega); have so_16 := so_15.kept g16 (by simp; omega); have B16 := below_kept B15 g16 B15.size (by rintro q hq; cases hq; omega); have sz16 := g16.size; clear z4_15 cu_15 so_15))
        exact bodyPost_ret (results_cells2 Tryz.results12 _ _ _ _ _ _ rfl rfl (load_ac z4_16) (load_so z5_16)) rfl ⟨by first | (rw [HE.out]; done) | (rw [HE.out]; rfl), B16⟩
      have h16l : ¬ (l.map StR.s).length < 16 := by rw [HML.out]; exact h16
      have hnn := (stCur_nn rec (l.map StR.s)).2.1
      by_cases hm : (stCur rec (l.map StR.s)).1 < 1099511627776
      · have HE := Lib.hid (stPut_go (c := c) (l := l.map StR.s) hin hx h16l hm)
        rw [HML.out] at HE
        obtain ⟨acc, ha0, ha1⟩ : ∃ acc : Nat → StA, (∀ j, j < 16 → acc j = stRead rec j) ∧ ∀ j, acc (16 + j) = stWrt (16 * rec + 8 * stTgt rec (l.map StR.s)) (stBytes rec c (l.map StR.s)) j := ⟨fun j => if j < 16 then stRead rec j else stWrt (16 * rec + 8 * stTgt rec (l.map StR.s)) (stBytes rec c (l.map StR.s)) (j - 16), fun j h => if_pos h, fun j => by show (if 16 + j < 16 then _ else _) = _; rw [if_neg (by omega), Nat.add_sub_cancel_left]⟩
        have HSV := fun g (W : World) (h : Row W g 68 (cuS A n d (acc) 0).cs) (hB : Below w.heap.size w W) (hg : w.heap.size ≤ g) => Lib.hid (rsave_go g A n d (acc) rec c l hin hx ha0 W h (hr.on hB) (fun h0 ad e => by obtain ⟨ad', e', hb, _⟩ := hr.2 h0; rw [e'] at e; cases e; omega) hn hs h16 hm (fun j _ => ha1 j))
        have h0 : cuS A n d (acc) 0 = ⟨A, n, d, 0, noA, false⟩ := by unfold cuS; rw [if_pos (Nat.zero_le _)]
        rw [h0] at HSV
        have HN : acc n = stWrt (16 * rec + 8 * stTgt rec (l.map StR.s)) (stBytes rec c (l.map StR.s)) (n - 16) := by rw [← ha1 (n - 16)]; congr 1; omega
        generalize stPut rec c (l.map StR.s) = R at *
        clear hin hr hs hx ha0 ha1 h16l h0
        generalize 16 * rec + 8 * stTgt rec (l.map StR.s) = fi at *
        generalize stBytes rec c (l.map StR.s) = b at *
        generalize (stCur rec (l.map StR.s)).1 = m at *
        generalize stCnt b = K at *
        by_cases hK : n - 16 ≤ K
        · rw [if_pos hK] at HE
          rw [cuS_few (show n < 16 + K + 1 by omega), HN] at HSV
          generalize stWrt fi b (n - 16) = a at *
          clear HN hK h16 hm hnn
          go_enter Tryz.func12, Tryz.ntmps12
          go_wp2_with (first
            | (with_reducible refine wpList_alloc_row (o := ⟨some 6, _, _, _, _, _⟩) rfl _ rfl zeroA zero_ac ?_; intro w17 z4_17 s17 g17; have k17 : Below w.heap.size w w17 := grown_below g17 (Nat.le_refl _) (by simp); have B17 : Below w.heap.size w w17 := k17)
            | (with_reducible refine wpList_alloc_row (o := ⟨some 7, _, _, _, _, _⟩) rfl _ rfl zeroO zero_so ?_; intro w18 z5_18 s18 g18; have k18 : Below w17.heap.size w17 w18 := grown_below g18 (Nat.le_refl _) (by simp); have B18 := B17.trans (k18.mono B17.size); have z4_18 := z4_17.on k18; clear z4_17)
            | (with_reducible refine wpList_alloc_row (o := ⟨some 9, _, _, _, _, _⟩) rfl _ rfl zeroC zero_cu ?_; intro w19 r19 s19 g19)
            | ((with_reducible refine wpList_at ⟨none, .store _ (.tmp 9) _, _, _, _, _⟩ ?_); refine wpList_store_all rfl _ _ _ rfl w18.heap.size rfl _ _ r19 ((⟨A, n, d, 0, noA, false⟩ : Cu).cs) rfl ((⟨A, n, d, 0, noA, false⟩ : Cu).cs_one) rfl (by kernel_rfl) ?_; intro w20 cu_20 g20; have k20 : Below w18.heap.size w18 w20 := below_kept (grown_below g19 (Nat.le_refl _) (by simp)) g20 (Nat.le_of_lt s19) (by rintro q hq; cases hq; exact Nat.le_refl _); have B20 := B18.trans (k20.mono B18.size); have z4_20 := z4_18.on k20; have z5_20 := z5_18.on k20; clear z4_18 z5_18; clear r19 g19 g20; have s20 := cu_20.lt))
          have l21z4 := z4_20.lt
          have l21z5 := z5_20.lt
          have l21cu := cu_20.lt
          have lB21 := B20.size
          refine ((HSV _ _ cu_20 B20 (by have := B20.size; omega)).out).mono ?_
          rintro e w21 ⟨rfl, cu_21, g21⟩
          have z4_21 := z4_20.kept g21 (by simp; omega)
          have z5_21 := z5_20.kept g21 (by simp; omega)
          have B21 := below_kept B20 g21 B20.size (by rintro q hq; cases hq; omega)
          have sz21 := g21.size
          have c6 : w21.cell? ⟨w18.heap.size, 6, none⟩ = some (.bool true) := cu_21.cell (j := 6) rfl
          go_wp2_with (first
            | (with_reducible refine wpList_alloc_row (o := ⟨some 10, _, _, _, _, _⟩) rfl _ rfl zeroO zero_so ?_; intro w22 r22 s22 g22)
            | ((with_reducible refine wpList_at ⟨none, .store _ (.tmp 10) _, _, _, _, _⟩ ?_); refine wpList_store_all rfl _ _ _ rfl w21.heap.size rfl _ _ r22 ((⟨c, m + 1, 0⟩ : StO).cs) rfl ((⟨c, m + 1, 0⟩ : StO).cs_one) rfl (by kernel_rfl) ?_; intro w23 so_23 g23; have k23 : Below w21.heap.size w21 w23 := below_kept (grown_below g22 (Nat.le_refl _) (by simp)) g23 (Nat.le_of_lt s22) (by rintro q hq; cases hq; exact Nat.le_refl _); have B23 := B21.trans (k23.mono B21.size); have z4_23 := z4_21.on k23; have z5_23 := z5_21.on k23; have cu_23 := cu_21.on k23; clear z4_21 z5_21 cu_21; clear r22 g22 g23; have s23 := so_23.lt; have c6 := cu_23.cell (j := 6) rfl)
            | ((with_reducible refine wpList_at ⟨some 19, _, _, _, _, _⟩ ?_); refine wpList_valueG rfl _ (by exact exec_load _ 26 _ rfl ⟨w18.heap.size, 2, none⟩ rfl a.cs (Row.part10 cu_23 (pre := [_, _]) rfl rfl) _ Tryz.underlying26 rfl (by kernel_rfl)) ?_)
            | ((with_reducible refine wpList_at ⟨none, .store _ (.tmp 6) _, _, _, _, _⟩ ?_); refine wpList_store_all rfl _ _ _ rfl (w.heap.size) rfl _ _ z4_23 (a.cs) rfl (a.cs_one) rfl (by kernel_rfl) ?_; intro w24 z4_24 g24; have z5_24 := z5_23.kept g24 (by simp; omega); have cu_24 := cu_23.kept g24 (by simp; omega); have so_24 := so_23.kept g24 (by simp; omega); have B24 := below_kept B23 g24 B23.size (by rintro q hq; cases hq; omega); have sz24 := g24.size; clear z5_23 cu_23 so_23)
            | ((with_reducible refine wpList_at ⟨none, .store _ (.tmp 7) _, _, _, _, _⟩ ?_); refine wpList_store_all rfl _ _ _ rfl (w17.heap.size) rfl _ _ z5_24 (noO.cs) rfl (noO.cs_one) rfl (by kernel_rfl) ?_; intro w25 z5_25 g25; have z4_25 := z4_24.kept g25 (by simp; omega); have cu_25 := cu_24.kept g25 (by simp; omega); have so_25 := so_24.kept g25 (by simp; omega); have B25 := below_kept B24 g25 B24.size (by rintro q hq; cases hq; omega); have sz25 := g25.size; clear z4_24 cu_24 so_24))
          exact bodyPost_ret (results_cells2 Tryz.results12 _ _ _ _ _ _ rfl rfl (load_ac z4_25) (load_so z5_25)) rfl ⟨by first | (rw [HE.out]; done) | (rw [HE.out]; rfl), B25⟩
        · rw [if_neg hK] at HE
          rw [show cuS A n d acc (16 + K + 1) = ⟨A, n, d, 16 + K + 1, noA, false⟩ by unfold cuS; rw [if_pos (by omega)]] at HSV
          generalize 16 + K + 1 = T at *
          clear HN hK h16 hm hnn
          go_enter Tryz.func12, Tryz.ntmps12
          go_wp2_with (first
            | (with_reducible refine wpList_alloc_row (o := ⟨some 6, _, _, _, _, _⟩) rfl _ rfl zeroA zero_ac ?_; intro w26 z4_26 s26 g26; have k26 : Below w.heap.size w w26 := grown_below g26 (Nat.le_refl _) (by simp); have B26 : Below w.heap.size w w26 := k26)
            | (with_reducible refine wpList_alloc_row (o := ⟨some 7, _, _, _, _, _⟩) rfl _ rfl zeroO zero_so ?_; intro w27 z5_27 s27 g27; have k27 : Below w26.heap.size w26 w27 := grown_below g27 (Nat.le_refl _) (by simp); have B27 := B26.trans (k27.mono B26.size); have z4_27 := z4_26.on k27; clear z4_26)
            | (with_reducible refine wpList_alloc_row (o := ⟨some 9, _, _, _, _, _⟩) rfl _ rfl zeroC zero_cu ?_; intro w28 r28 s28 g28)
            | ((with_reducible refine wpList_at ⟨none, .store _ (.tmp 9) _, _, _, _, _⟩ ?_); refine wpList_store_all rfl _ _ _ rfl w27.heap.size rfl _ _ r28 ((⟨A, n, d, 0, noA, false⟩ : Cu).cs) rfl ((⟨A, n, d, 0, noA, false⟩ : Cu).cs_one) rfl (by kernel_rfl) ?_; intro w29 cu_29 g29; have k29 : Below w27.heap.size w27 w29 := below_kept (grown_below g28 (Nat.le_refl _) (by simp)) g29 (Nat.le_of_lt s28) (by rintro q hq; cases hq; exact Nat.le_refl _); have B29 := B27.trans (k29.mono B27.size); have z4_29 := z4_27.on k29; have z5_29 := z5_27.on k29; clear z4_27 z5_27; clear r28 g28 g29; have s29 := cu_29.lt))
          have l30z4 := z4_29.lt
          have l30z5 := z5_29.lt
          have l30cu := cu_29.lt
          have lB30 := B29.size
          refine ((HSV _ _ cu_29 B29 (by have := B29.size; omega)).out).mono ?_
          rintro e w30 ⟨rfl, cu_30, g30⟩
          have z4_30 := z4_29.kept g30 (by simp; omega)
          have z5_30 := z5_29.kept g30 (by simp; omega)
          have B30 := below_kept B29 g30 B29.size (by rintro q hq; cases hq; omega)
          have sz30 := g30.size
          have c6 : w30.cell? ⟨w27.heap.size, 6, none⟩ = some (.bool false) := cu_30.cell (j := 6) rfl
          go_wp2_with (first
            | (with_reducible refine wpList_alloc_row (o := ⟨some 10, _, _, _, _, _⟩) rfl _ rfl zeroO zero_so ?_; intro w31 r31 s31 g31)
            | ((with_reducible refine wpList_at ⟨none, .store _ (.tmp 10) _, _, _, _, _⟩ ?_); refine wpList_store_all rfl _ _ _ rfl w30.heap.size rfl _ _ r31 ((⟨c, m + 1, 0⟩ : StO).cs) rfl ((⟨c, m + 1, 0⟩ : StO).cs_one) rfl (by kernel_rfl) ?_; intro w32 so_32 g32; have k32 : Below w30.heap.size w30 w32 := below_kept (grown_below g31 (Nat.le_refl _) (by simp)) g32 (Nat.le_of_lt s31) (by rintro q hq; cases hq; exact Nat.le_refl _); have B32 := B30.trans (k32.mono B30.size); have z4_32 := z4_30.on k32; have z5_32 := z5_30.on k32; have cu_32 := cu_30.on k32; clear z4_30 z5_30 cu_30; clear r31 g31 g32; have s32 := so_32.lt; have c6 := cu_32.cell (j := 6) rfl))
          try simp only [Act.put, List.setIfInBounds_toArray, List.set_cons_zero, List.set_cons_succ]
          have bq0 : Below w.heap.size w w32.drew := B32.drew
          have soq := so_32.drew
          have z4q := z4_32.drew
          have z5q := z5_32.drew
          refine wp_region_plan (fun w' => Row w' (w30.heap.size) 29 ((⟨c, m + 1, 0⟩ : StO)).cs) (.take 0 <| .take 1 <| .one 2 <| .one 3 <| .take 4 <| .done) (by kernel_rfl) (by kernel_rfl) (by kernel_rfl) (fun _ _ _ _ _ h => h) soq ?_
          repeat (refine plan_take _ rfl ?_; (first | ((with_reducible refine wpQuiet_at ⟨some 22, _, _, _, _, _⟩ ?_); refine wpQuiet_valueG rfl _ (by intro _ hS; exact exec_loadO _ _ rfl (w30.heap.size) rfl ((⟨c, m + 1, 0⟩ : StO)) hS) (wpQuiet_nil ?_); simp only [Act.put, List.setIfInBounds_toArray, List.set_cons_zero, List.set_cons_succ]) | (go_big_quiet_step ((intros; rfl)); refine wpQuiet_nil ?_)))
          refine plan_one _ rfl fun K hK => ?_
          refine step_store_all rfl _ _ _ rfl (w.heap.size) rfl _ _ z4q ((noA).cs) rfl ((noA).cs_one) rfl (by kernel_rfl) ?_
          intro wu3 z4u3 gu3
          have bu3 := below_kept bq0 gu3 bq0.size (by rintro q hq; cases hq; omega)
          have sou3 := soq.kept gu3 (by simp; omega)
          have z5u3 := z5q.kept gu3 (by simp; omega)
          refine hK _ _ sou3 ?_
          clear hK K
          simp only [Act.put, List.setIfInBounds_toArray, List.set_cons_zero, List.set_cons_succ]
          refine plan_one _ rfl fun K hK => ?_
          refine step_store_all rfl _ _ _ rfl (w26.heap.size) rfl _ _ z5u3 (((⟨c, m + 1, 0⟩ : StO)).cs) rfl (((⟨c, m + 1, 0⟩ : StO)).cs_one) rfl (by kernel_rfl) ?_
          intro wu4 z5u4 gu4
          have bu4 := below_kept bu3 gu4 bu3.size (by rintro q hq; cases hq; omega)
          have sou4 := sou3.kept gu4 (by simp; omega)
          have z4u4 := z4u3.kept gu4 (by simp; omega)
          refine hK _ _ sou4 ?_
          clear hK K
          simp only [Act.put, List.setIfInBounds_toArray, List.set_cons_zero, List.set_cons_succ]
          repeat (refine plan_take _ rfl ?_; (first | ((with_reducible refine wpQuiet_at ⟨some 22, _, _, _, _, _⟩ ?_); refine wpQuiet_valueG rfl _ (by intro _ hS; exact exec_loadO _ _ rfl (w30.heap.size) rfl ((⟨c, m + 1, 0⟩ : StO)) hS) (wpQuiet_nil ?_); simp only [Act.put, List.setIfInBounds_toArray, List.set_cons_zero, List.set_cons_succ]) | (go_big_quiet_step ((intros; rfl)); refine wpQuiet_nil ?_)))
          refine plan_done ?_
          go_wp2_with fail
          exact bodyPost_ret (results_cells2 Tryz.results12 _ _ _ _ _ _ rfl rfl (load_ac z4u4) (load_so z5u4)) rfl ⟨by first | (rw [HE.out]; done) | (rw [HE.out]; rfl), bu4⟩
      · have HE := Lib.hid (stPut_full (c := c) (l := l.map StR.s) hin hx h16l hm)
        have HSV := fun g (W : World) (h : Row W g 68 (cuS A n d (stRead rec) 0).cs) (hB : Below w.heap.size w W) (hg : w.heap.size ≤ g) => Lib.hid (rsave_full g A n d (stRead rec) rec c l hin hx (fun _ _ => rfl) W h (hr.on hB) (fun h0 ad e => by obtain ⟨ad', e', hb, _⟩ := hr.2 h0; rw [e'] at e; cases e; omega) hn hs h16 (by omega))
        have h0 : cuS A n d (stRead rec) 0 = ⟨A, n, d, 0, noA, false⟩ := by unfold cuS; rw [if_pos (Nat.zero_le _)]
        rw [h0] at HSV
        generalize stPut rec c (l.map StR.s) = R at *
        clear hin h0 hr hs hx h16l hm hnn
        go_enter Tryz.func12, Tryz.ntmps12
        go_wp2_with (first
          | (with_reducible refine wpList_alloc_row (o := ⟨some 6, _, _, _, _, _⟩) rfl _ rfl zeroA zero_ac ?_; intro w33 z4_33 s33 g33; have k33 : Below w.heap.size w w33 := grown_below g33 (Nat.le_refl _) (by simp); have B33 : Below w.heap.size w w33 := k33)
          | (with_reducible refine wpList_alloc_row (o := ⟨some 7, _, _, _, _, _⟩) rfl _ rfl zeroO zero_so ?_; intro w34 z5_34 s34 g34; have k34 : Below w33.heap.size w33 w34 := grown_below g34 (Nat.le_refl _) (by simp); have B34 := B33.trans (k34.mono B33.size); have z4_34 := z4_33.on k34; clear z4_33)
          | (with_reducible refine wpList_alloc_row (o := ⟨some 9, _, _, _, _, _⟩) rfl _ rfl zeroC zero_cu ?_; intro w35 r35 s35 g35)
          | ((with_reducible refine wpList_at ⟨none, .store _ (.tmp 9) _, _, _, _, _⟩ ?_); refine wpList_store_all rfl _ _ _ rfl w34.heap.size rfl _ _ r35 ((⟨A, n, d, 0, noA, false⟩ : Cu).cs) rfl ((⟨A, n, d, 0, noA, false⟩ : Cu).cs_one) rfl (by kernel_rfl) ?_; intro w36 cu_36 g36; have k36 : Below w34.heap.size w34 w36 := below_kept (grown_below g35 (Nat.le_refl _) (by simp)) g36 (Nat.le_of_lt s35) (by rintro q hq; cases hq; exact Nat.le_refl _); have B36 := B34.trans (k36.mono B34.size); have z4_36 := z4_34.on k36; have z5_36 := z5_34.on k36; clear z4_34 z5_34; clear r35 g35 g36; have s36 := cu_36.lt))
        have l37z4 := z4_36.lt
        have l37z5 := z5_36.lt
        have l37cu := cu_36.lt
        have lB37 := B36.size
        refine ((HSV _ _ cu_36 B36 (by have := B36.size; omega)).out).mono ?_
        rintro e w37 ⟨rfl, cu_37, g37⟩
        have z4_37 := z4_36.kept g37 (by simp; omega)
        have z5_37 := z5_36.kept g37 (by simp; omega)
        have B37 := below_kept B36 g37 B36.size (by rintro q hq; cases hq; omega)
        have sz37 := g37.size
        have c6 : w37.cell? ⟨w34.heap.size, 6, none⟩ = some (.bool false) := cu_37.cell (j := 6) rfl
        go_wp2_with (first
          | (with_reducible refine wpList_alloc_row (o := ⟨some 10, _, _, _, _, _⟩) rfl _ rfl zeroO zero_so ?_; intro w38 r38 s38 g38)
          | ((with_reducible refine wpList_at ⟨none, .store _ (.tmp 10) _, _, _, _, _⟩ ?_); refine wpList_store_all rfl _ _ _ rfl w37.heap.size rfl _ _ r38 ((⟨em, 0, 19⟩ : StO).cs) rfl ((⟨em, 0, 19⟩ : StO).cs_one) rfl (by kernel_rfl) ?_; intro w39 so_39 g39; have k39 : Below w37.heap.size w37 w39 := below_kept (grown_below g38 (Nat.le_refl _) (by simp)) g39 (Nat.le_of_lt s38) (by rintro q hq; cases hq; exact Nat.le_refl _); have B39 := B37.trans (k39.mono B37.size); have z4_39 := z4_37.on k39; have z5_39 := z5_37.on k39; have cu_39 := cu_37.on k39; clear z4_37 z5_37 cu_37; clear r38 g38 g39; have s39 := so_39.lt; have c6 := cu_39.cell (j := 6) rfl))
        try simp only [Act.put, List.setIfInBounds_toArray, List.set_cons_zero, List.set_cons_succ]
        have bq0 : Below w.heap.size w w39.drew := B39.drew
        have soq := so_39.drew
        have z4q := z4_39.drew
        have z5q := z5_39.drew
        refine wp_region_plan (fun w' => Row w' (w37.heap.size) 29 ((⟨em, 0, 19⟩ : StO)).cs) (.take 0 <| .take 1 <| .one 2 <| .one 3 <| .take 4 <| .done) (by kernel_rfl) (by kernel_rfl) (by kernel_rfl) (fun _ _ _ _ _ h => h) soq ?_
        repeat (refine plan_take _ rfl ?_; (first | ((with_reducible refine wpQuiet_at ⟨some 22, _, _, _, _, _⟩ ?_); refine wpQuiet_valueG rfl _ (by intro _ hS; exact exec_loadO _ _ rfl (w37.heap.size) rfl ((⟨em, 0, 19⟩ : StO)) hS) (wpQuiet_nil ?_); simp only [Act.put, List.setIfInBounds_toArray, List.set_cons_zero, List.set_cons_succ]) | (go_big_quiet_step ((intros; rfl)); refine wpQuiet_nil ?_)))
        refine plan_one _ rfl fun K hK => ?_
        refine step_store_all rfl _ _ _ rfl (w.heap.size) rfl _ _ z4q ((noA).cs) rfl ((noA).cs_one) rfl (by kernel_rfl) ?_
        intro wu5 z4u5 gu5
        have bu5 := below_kept bq0 gu5 bq0.size (by rintro q hq; cases hq; omega)
        have sou5 := soq.kept gu5 (by simp; omega)
        have z5u5 := z5q.kept gu5 (by simp; omega)
        refine hK _ _ sou5 ?_
        clear hK K
        simp only [Act.put, List.setIfInBounds_toArray, List.set_cons_zero, List.set_cons_succ]
        refine plan_one _ rfl fun K hK => ?_
        refine step_store_all rfl _ _ _ rfl (w33.heap.size) rfl _ _ z5u5 (((⟨em, 0, 19⟩ : StO)).cs) rfl (((⟨em, 0, 19⟩ : StO)).cs_one) rfl (by kernel_rfl) ?_
        intro wu6 z5u6 gu6
        have bu6 := below_kept bu5 gu6 bu5.size (by rintro q hq; cases hq; omega)
        have sou6 := sou5.kept gu6 (by simp; omega)
        have z4u6 := z4u5.kept gu6 (by simp; omega)
        refine hK _ _ sou6 ?_
        clear hK K
        simp only [Act.put, List.setIfInBounds_toArray, List.set_cons_zero, List.set_cons_succ]
        repeat (refine plan_take _ rfl ?_; (first | ((with_reducible refine wpQuiet_at ⟨some 22, _, _, _, _, _⟩ ?_); refine wpQuiet_valueG rfl _ (by intro _ hS; exact exec_loadO _ _ rfl (w37.heap.size) rfl ((⟨em, 0, 19⟩ : StO)) hS) (wpQuiet_nil ?_); simp only [Act.put, List.setIfInBounds_toArray, List.set_cons_zero, List.set_cons_succ]) | (go_big_quiet_step ((intros; rfl)); refine wpQuiet_nil ?_)))
        refine plan_done ?_
        go_wp2_with fail
        exact bodyPost_ret (results_cells2 Tryz.results12 _ _ _ _ _ _ rfl rfl (load_ac z4u6) (load_so z5u6)) rfl ⟨by first | (rw [HE.out]; done) | (rw [HE.out]; rfl), bu6⟩
    · have HE := Lib.hid (stPut_big (l := l.map StR.s) hin hx)
      generalize stPut rec c (l.map StR.s) = R at *
      have HSV := fun g W h (_ : Below w.heap.size w W) (_ : w.heap.size ≤ g) => Lib.hid (rsave_big g rec c (⟨A, n, d, 0, noA, false⟩ : Cu) hin hx hcs W h)
      clear hin hx
      go_enter Tryz.func12, Tryz.ntmps12
      go_wp2_with (first
        | (with_reducible refine wpList_alloc_row (o := ⟨some 6, _, _, _, _, _⟩) rfl _ rfl zeroA zero_ac ?_; intro w40 z4_40 s40 g40; have k40 : Below w.heap.size w w40 := grown_below g40 (Nat.le_refl _) (by simp); have B40 : Below w.heap.size w w40 := k40)
        | (with_reducible refine wpList_alloc_row (o := ⟨some 7, _, _, _, _, _⟩) rfl _ rfl zeroO zero_so ?_; intro w41 z5_41 s41 g41; have k41 : Below w40.heap.size w40 w41 := grown_below g41 (Nat.le_refl _) (by simp); have B41 := B40.trans (k41.mono B40.size); have z4_41 := z4_40.on k41; clear z4_40)
        | (with_reducible refine wpList_alloc_row (o := ⟨some 9, _, _, _, _, _⟩) rfl _ rfl zeroC zero_cu ?_; intro w42 r42 s42 g42)
        | ((with_reducible refine wpList_at ⟨none, .store _ (.tmp 9) _, _, _, _, _⟩ ?_); refine wpList_store_all rfl _ _ _ rfl w41.heap.size rfl _ _ r42 ((⟨A, n, d, 0, noA, false⟩ : Cu).cs) rfl ((⟨A, n, d, 0, noA, false⟩ : Cu).cs_one) rfl (by kernel_rfl) ?_; intro w43 cu_43 g43; have k43 : Below w41.heap.size w41 w43 := below_kept (grown_below g42 (Nat.le_refl _) (by simp)) g43 (Nat.le_of_lt s42) (by rintro q hq; cases hq; exact Nat.le_refl _); have B43 := B41.trans (k43.mono B41.size); have z4_43 := z4_41.on k43; have z5_43 := z5_41.on k43; clear z4_41 z5_41; clear r42 g42 g43; have s43 := cu_43.lt))
      have l44z4 := z4_43.lt
      have l44z5 := z5_43.lt
      have l44cu := cu_43.lt
      have lB44 := B43.size
      refine ((HSV _ _ cu_43 B43 (by have := B43.size; omega)).out).mono ?_
      rintro e w44 ⟨rfl, cu_44, g44⟩
      have z4_44 := z4_43.kept g44 (by simp; omega)
      have z5_44 := z5_43.kept g44 (by simp; omega)
      have B44 := below_kept B43 g44 B43.size (by rintro q hq; cases hq; omega)
      have sz44 := g44.size
      have c6 : w44.cell? ⟨w41.heap.size, 6, none⟩ = some (.bool false) := cu_44.cell (j := 6) rfl
      go_wp2_with (first
        | (with_reducible refine wpList_alloc_row (o := ⟨some 10, _, _, _, _, _⟩) rfl _ rfl zeroO zero_so ?_; intro w45 r45 s45 g45)
        | ((with_reducible refine wpList_at ⟨none, .store _ (.tmp 10) _, _, _, _, _⟩ ?_); refine wpList_store_all rfl _ _ _ rfl w44.heap.size rfl _ _ r45 ((⟨em, 0, 19⟩ : StO).cs) rfl ((⟨em, 0, 19⟩ : StO).cs_one) rfl (by kernel_rfl) ?_; intro w46 so_46 g46; have k46 : Below w44.heap.size w44 w46 := below_kept (grown_below g45 (Nat.le_refl _) (by simp)) g46 (Nat.le_of_lt s45) (by rintro q hq; cases hq; exact Nat.le_refl _); have B46 := B44.trans (k46.mono B44.size); have z4_46 := z4_44.on k46; have z5_46 := z5_44.on k46; have cu_46 := cu_44.on k46; clear z4_44 z5_44 cu_44; clear r45 g45 g46; have s46 := so_46.lt; have c6 := cu_46.cell (j := 6) rfl))
      try simp only [Act.put, List.setIfInBounds_toArray, List.set_cons_zero, List.set_cons_succ]
      have bq0 : Below w.heap.size w w46.drew := B46.drew
      have soq := so_46.drew
      have z4q := z4_46.drew
      have z5q := z5_46.drew
      refine wp_region_plan (fun w' => Row w' (w44.heap.size) 29 ((⟨em, 0, 19⟩ : StO)).cs) (.take 0 <| .take 1 <| .one 2 <| .one 3 <| .take 4 <| .done) (by kernel_rfl) (by kernel_rfl) (by kernel_rfl) (fun _ _ _ _ _ h => h) soq ?_
      repeat (refine plan_take _ rfl ?_; (first | ((with_reducible refine wpQuiet_at ⟨some 22, _, _, _, _, _⟩ ?_); refine wpQuiet_valueG rfl _ (by intro _ hS; exact exec_loadO _ _ rfl (w44.heap.size) rfl ((⟨em, 0, 19⟩ : StO)) hS) (wpQuiet_nil ?_); simp only [Act.put, List.setIfInBounds_toArray, List.set_cons_zero, List.set_cons_succ]) | (go_big_quiet_step ((intros; rfl)); refine wpQuiet_nil ?_)))
      refine plan_one _ rfl fun K hK => ?_
      refine step_store_all rfl _ _ _ rfl (w.heap.size) rfl _ _ z4q ((noA).cs) rfl ((noA).cs_one) rfl (by kernel_rfl) ?_
      intro wu7 z4u7 gu7
      have bu7 := below_kept bq0 gu7 bq0.size (by rintro q hq; cases hq; omega)
      have sou7 := soq.kept gu7 (by simp; omega)
      have z5u7 := z5q.kept gu7 (by simp; omega)
      refine hK _ _ sou7 ?_
      clear hK K
      simp only [Act.put, List.setIfInBounds_toArray, List.set_cons_zero, List.set_cons_succ]
      refine plan_one _ rfl fun K hK => ?_
      refine step_store_all rfl _ _ _ rfl (w40.heap.size) rfl _ _ z5u7 (((⟨em, 0, 19⟩ : StO)).cs) rfl (((⟨em, 0, 19⟩ : StO)).cs_one) rfl (by kernel_rfl) ?_
      intro wu8 z5u8 gu8
      have bu8 := below_kept bu7 gu8 bu7.size (by rintro q hq; cases hq; omega)
      have sou8 := sou7.kept gu8 (by simp; omega)
      have z4u8 := z4u7.kept gu8 (by simp; omega)
      refine hK _ _ sou8 ?_
      clear hK K
      simp only [Act.put, List.setIfInBounds_toArray, List.set_cons_zero, List.set_cons_succ]
      repeat (refine plan_take _ rfl ?_; (first | ((with_reducible refine wpQuiet_at ⟨some 22, _, _, _, _, _⟩ ?_); refine wpQuiet_valueG rfl _ (by intro _ hS; exact exec_loadO _ _ rfl (w44.heap.size) rfl ((⟨em, 0, 19⟩ : StO)) hS) (wpQuiet_nil ?_); simp only [Act.put, List.setIfInBounds_toArray, List.set_cons_zero, List.set_cons_succ]) | (go_big_quiet_step ((intros; rfl)); refine wpQuiet_nil ?_)))
      refine plan_done ?_
      go_wp2_with fail
      exact bodyPost_ret (results_cells2 Tryz.results12 _ _ _ _ _ _ rfl rfl (load_ac z4u8) (load_so z5u8)) rfl ⟨by first | (rw [HE.out]; done) | (rw [HE.out]; rfl), bu8⟩
end Go.Proofs.YtfclifolniefpaaGreatDoor
