/-
  TreesigVerifyMatchesSpec's walk: Verify and Same report what the reference reports. Conditions: the table of constants as laid; slices within their capacity.
-/
import Derived.Test.YtfmcgcdppbcfjaaDoorSan5
namespace Go.Proofs.YtfmcgcdppbcfjaaDoor
open Go.RowKit

set_option maxRecDepth 100000 in
set_option maxHeartbeats 4000000 in
theorem walkT2 (rt msg : List UInt8) (ht : rt.length = 16) (hm : msg.length = 16) (h i j : Int) (h1 : -9223372036854775808 ≤ h) (h2 : h ≤ 9223372036854775807) (i1 : -9223372036854775808 ≤ i) (i2 : i ≤ 9223372036854775807)
    (A B E F : Option Addr) (n c m d n' c' m' d' : Nat) (C P C' P' : List (List UInt8)) (w : World) (hCo : Consts w) (hC : ReadsD w A n C) (hP : ReadsD w B m P) (hC' : ReadsD w E n' C') (hP' : ReadsD w F m' P')
    (hnc : n ≤ c) (hmd : m ≤ d) (hnc' : n' ≤ c') (hmd' : m' ≤ d') (hn : n ≤ 9223372036854775807) (hmx : m ≤ 9223372036854775807) (hn' : n' ≤ 9223372036854775807) (hmx' : m' ≤ 9223372036854775807) :
    Calls Tryd.prog 4 #[.agg (bvs rt ++ ([Value.int .i64 h] ++ (bvs msg ++ ([Value.int .i64 i, .slice A n c, .slice B m d] ++ [Value.int .i64 j, .slice E n' c', .slice F m' d'])))).toArray] w (TellsB true w) := by
  have HT := Lib.hid ht
  have HM := Lib.hid hm
  have HSA := fun W hW => Lib.hid (sanity5_any W hW)
  have HS1 := fun W => Lib.hid (refSmall_any i A B n c m d hn hmx W)
  have HS2 := fun W => Lib.hid (refSmall_any j E F n' c' m' d' hn' hmx' W)
  obtain ⟨cs, hcs⟩ : ∃ cs : List Value, cs = bvs rt ++ ([Value.int .i64 h] ++ (bvs msg ++ ([Value.int .i64 i, .slice A n c, .slice B m d] ++ [Value.int .i64 j, .slice E n' c', .slice F m' d']))) := ⟨_, rfl⟩
  have hl16 : (bvs rt).length = 16 := by rw [bvs_length, ht]
  have hm16 : (bvs msg).length = 16 := by rw [bvs_length, hm]
  have HA1 : ∀ w g t, Row w g t cs → Hid (∀ j u, (bvs rt)[j]? = some u → w.cell? ((⟨g, 0, none⟩ : Addr).add j) = some u) := fun w g t hr => Row.part hr (pre := []) hcs rfl
  have HA2 : Hid (cs[16]? = some (.int .i64 h)) := by show _ = _; rw [hcs, List.getElem?_append_right (by omega), hl16]; rfl
  have HA3 : ∀ w g t, Row w g t cs → Hid (∀ j u, (bvs msg)[j]? = some u → w.cell? ((⟨g, 17, none⟩ : Addr).add j) = some u) := fun w g t hr => Row.part hr (pre := bvs rt ++ [Value.int .i64 h]) (by rw [hcs, List.append_assoc]) (by rw [List.length_append, hl16]; rfl)
  have HA4 : ∀ w g t, Row w g t cs → Hid (∀ q u, [Value.int .i64 i, .slice A n c, .slice B m d][q]? = some u → w.cell? ((⟨g, 33, none⟩ : Addr).add q) = some u) := fun w g t hr => Row.part hr (pre := bvs rt ++ ([Value.int .i64 h] ++ bvs msg)) (post := [Value.int .i64 j, .slice E n' c', .slice F m' d']) (by rw [hcs]; simp only [List.append_assoc]) (by rw [List.length_append, List.length_append, hl16, hm16]; rfl)
  have HA5 : ∀ w g t, Row w g t cs → Hid (∀ q u, [Value.int .i64 j, .slice E n' c', .slice F m' d'][q]? = some u → w.cell? ((⟨g, 36, none⟩ : Addr).add q) = some u) := fun w g t hr => Row.part hr (pre := bvs rt ++ ([Value.int .i64 h] ++ (bvs msg ++ [Value.int .i64 i, .slice A n c, .slice B m d]))) (post := []) (by rw [hcs]; simp only [List.append_assoc, List.append_nil]) (by rw [List.length_append, List.length_append, List.length_append, hl16, hm16]; rfl)
  rw [← hcs]
  clear hcs hl16 hm16 ht hm
  go_enter Tryd.func4, Tryd.ntmps4
  go_wp2_with (first
    | (with_reducible refine wpList_box_row (o := ⟨some 1, _, _, _, _, _⟩) rfl _ _ rfl (cs) rfl ?_; intro w1 In_1 s1 g1; have k1 : Below w.heap.size w w1 := grown_below g1 (Nat.le_refl _) (by simp); have B1 : Below w.heap.size w w1 := k1; have K_1 := hCo.on k1; have C1_1 := hC.on k1; have P1_1 := hP.on k1; have C2_1 := hC'.on k1; have P2_1 := hP'.on k1)
    | (refine wpList_valueG (o := ⟨some 10, _, _, _, _, _⟩) rfl _ (by exact exec_load16 _ _ rfl _ rfl rt HT.out (HA1 _ _ _ In_1).out) ?_)
    | (with_reducible refine wpList_alloc_row (o := ⟨some 3, _, _, _, _, _⟩) rfl _ rfl zeros16 zero_b16 ?_; intro w2 r2 s2 g2)
    | (with_reducible refine wpList_at ⟨none, .store _ (.tmp 3) _, _, _, _, _⟩ ?_; refine wpList_store_all rfl _ _ _ rfl w1.heap.size rfl _ _ r2 (bvs rt) rfl (bvs_one _) (b16_zeros _ HT.out) (b16_size _ HT.out) ?_; intro w3 rt_3 g3; have k3 : Below w1.heap.size w1 w3 := below_kept (grown_below g2 (Nat.le_refl _) (by simp)) g3 (Nat.le_of_lt s2) (by rintro q hq; cases hq; exact Nat.le_refl _); have B3 := B1.trans (k3.mono B1.size); have K_3 := K_1.on k3; have C1_3 := C1_1.on k3; have P1_3 := P1_1.on k3; have C2_3 := C2_1.on k3; have P2_3 := P2_1.on k3; have In_3 := In_1.on k3; clear K_1 C1_1 P1_1 C2_1 P2_1 In_1; clear r2 g2 g3)
    | (refine wpList_valueG (o := ⟨some 12, _, _, _, _, _⟩) rfl _ (by exact exec_load1 _ 3 _ rfl ⟨w.heap.size, 16, none⟩ rfl _ (In_3.cell (j := 16) HA2.out) _ Tryd.underlying3 rfl) ?_)
    | (refine wpList_valueG (o := ⟨some 14, _, _, _, _, _⟩) rfl _ (by exact exec_load16 _ _ rfl _ rfl msg HM.out (HA3 _ _ _ In_3).out) ?_)
    | (with_reducible refine wpList_alloc_row (o := ⟨some 5, _, _, _, _, _⟩) rfl _ rfl zeros16 zero_b16 ?_; intro w4 r4 s4 g4)
    | (with_reducible refine wpList_at ⟨none, .store _ (.tmp 5) _, _, _, _, _⟩ ?_; refine wpList_store_all rfl _ _ _ rfl w3.heap.size rfl _ _ r4 (bvs msg) rfl (bvs_one _) (b16_zeros _ HM.out) (b16_size _ HM.out) ?_; intro w5 mg_5 g5; have k5 : Below w3.heap.size w3 w5 := below_kept (grown_below g4 (Nat.le_refl _) (by simp)) g5 (Nat.le_of_lt s4) (by rintro q hq; cases hq; exact Nat.le_refl _); have B5 := B3.trans (k5.mono B3.size); have K_5 := K_3.on k5; have C1_5 := C1_3.on k5; have P1_5 := P1_3.on k5; have C2_5 := C2_3.on k5; have P2_5 := P2_3.on k5; have In_5 := In_3.on k5; have rt_5 := rt_3.on k5; clear K_3 C1_3 P1_3 C2_3 P2_3 In_3 rt_3; clear r4 g4 g5)
    | (refine wpList_valueG (o := ⟨some 16, _, _, _, _, _⟩) rfl _ (by exact exec_load_sig _ _ rfl _ rfl _ _ _ (HA4 _ _ _ In_5).out) ?_)
    | (with_reducible refine wpList_alloc_row (o := ⟨some 6, _, _, _, _, _⟩) rfl _ rfl sgz zero_sig ?_; intro w6 r6 s6 g6)
    | (with_reducible refine wpList_at ⟨none, .store _ (.tmp 6) _, _, _, _, _⟩ ?_; refine wpList_store_all rfl _ _ _ rfl w5.heap.size rfl _ _ r6 [.int .i64 i, .slice A n c, .slice B m d] rfl (by simp [Value.oneCell']) rfl (sig_size _ _ _) ?_; intro w7 s_7 g7; have k7 : Below w5.heap.size w5 w7 := below_kept (grown_below g6 (Nat.le_refl _) (by simp)) g7 (Nat.le_of_lt s6) (by rintro q hq; cases hq; exact Nat.le_refl _); have B7 := B5.trans (k7.mono B5.size); have K_7 := K_5.on k7; have C1_7 := C1_5.on k7; have P1_7 := P1_5.on k7; have C2_7 := C2_5.on k7; have P2_7 := P2_5.on k7; have In_7 := In_5.on k7; have rt_7 := rt_5.on k7; have mg_7 := mg_5.on k7; clear K_5 C1_5 P1_5 C2_5 P2_5 In_5 rt_5 mg_5; clear r6 g6 g7)
    | (refine wpList_valueG (o := ⟨some 18, _, _, _, _, _⟩) rfl _ (by exact exec_load_sig _ _ rfl _ rfl _ _ _ (HA5 _ _ _ In_7).out) ?_)
    | (with_reducible refine wpList_alloc_row (o := ⟨some 7, _, _, _, _, _⟩) rfl _ rfl sgz zero_sig ?_; intro w8 r8 s8 g8)
    | (with_reducible refine wpList_at ⟨none, .store _ (.tmp 7) _, _, _, _, _⟩ ?_; refine wpList_store_all rfl _ _ _ rfl w7.heap.size rfl _ _ r8 [.int .i64 j, .slice E n' c', .slice F m' d'] rfl (by simp [Value.oneCell']) rfl (sig_size _ _ _) ?_; intro w9 t_9 g9; have k9 : Below w7.heap.size w7 w9 := below_kept (grown_below g8 (Nat.le_refl _) (by simp)) g9 (Nat.le_of_lt s8) (by rintro q hq; cases hq; exact Nat.le_refl _); have B9 := B7.trans (k9.mono B7.size); have K_9 := K_7.on k9; have C1_9 := C1_7.on k9; have P1_9 := P1_7.on k9; have C2_9 := C2_7.on k9; have P2_9 := P2_7.on k9; have In_9 := In_7.on k9; have rt_9 := rt_7.on k9; have mg_9 := mg_7.on k9; have s_9 := s_7.on k9; clear K_7 C1_7 P1_7 C2_7 P2_7 In_7 rt_7 mg_7 s_7; clear r8 g8 g9))
  refine ((HSA _ K_9).out).mono ?_
  rintro e w10 ⟨rfl, h10⟩
  have B10 := B9.trans (h10.mono B9.size)
  have K_10 := K_9.on h10
  have C1_10 := C1_9.on h10
  have P1_10 := P1_9.on h10
  have C2_10 := C2_9.on h10
  have P2_10 := P2_9.on h10
  have In_10 := In_9.on h10
  have rt_10 := rt_9.on h10
  have mg_10 := mg_9.on h10
  have s_10 := s_9.on h10
  have t_10 := t_9.on h10
  clear K_9 C1_9 P1_9 C2_9 P2_9 In_9 rt_9 mg_9 s_9 t_9
  go_wp2_with (refine wpList_valueG (o := ⟨some 20, _, _, _, _, _⟩) rfl _ (by exact exec_load_sig _ _ rfl _ rfl _ _ _ s_10.cells) ?_)
  refine ((HS1 _).out).mono ?_
  rintro e w11 ⟨rfl, h11⟩
  have B11 := B10.trans (h11.mono B10.size)
  have K_11 := K_10.on h11
  have C1_11 := C1_10.on h11
  have P1_11 := P1_10.on h11
  have C2_11 := C2_10.on h11
  have P2_11 := P2_10.on h11
  have In_11 := In_10.on h11
  have rt_11 := rt_10.on h11
  have mg_11 := mg_10.on h11
  have s_11 := s_10.on h11
  have t_11 := t_10.on h11
  clear K_10 C1_10 P1_10 C2_10 P2_10 In_10 rt_10 mg_10 s_10 t_10
  generalize hx : (decide (n ≤ 100) && decide (m ≤ 20)) = x at *
  cases x with
  | false =>
    go_wp2_with fail
    go_ret
    exact ⟨rfl, B11⟩
  | true =>
    rw [Bool.and_eq_true, decide_eq_true_iff, decide_eq_true_iff] at hx
    go_wp2_with (refine wpList_valueG (o := ⟨some 24, _, _, _, _, _⟩) rfl _ (by exact exec_load_sig _ _ rfl _ rfl _ _ _ t_11.cells) ?_)
    refine ((HS2 _).out).mono ?_
    rintro e w12 ⟨rfl, h12⟩
    have B12 := B11.trans (h12.mono B11.size)
    have K_12 := K_11.on h12
    have C1_12 := C1_11.on h12
    have P1_12 := P1_11.on h12
    have C2_12 := C2_11.on h12
    have P2_12 := P2_11.on h12
    have In_12 := In_11.on h12
    have rt_12 := rt_11.on h12
    have mg_12 := mg_11.on h12
    have s_12 := s_11.on h12
    have t_12 := t_11.on h12
    clear K_11 C1_11 P1_11 C2_11 P2_11 In_11 rt_11 mg_11 s_11 t_11
    generalize hy : (decide (n' ≤ 100) && decide (m' ≤ 20)) = y at *
    cases y with
    | false =>
      go_wp2_with fail
      go_ret
      exact ⟨rfl, B12⟩
    | true =>
      rw [Bool.and_eq_true, decide_eq_true_iff, decide_eq_true_iff] at hy
      have hnb := hx.1
      have hmb := hx.2
      have hnb' := hy.1
      have hmb' := hy.2
      clear hx hy
      have zK := K_12
      have zrt := rt_12
      have zmg := mg_12
      have zs := s_12
      have zt := t_12
      have zC1 := C1_12
      have zP1 := P1_12
      have zC2 := C2_12
      have zP2 := P2_12
      have zB := B12
      generalize w12 = wz at *
      go_wp2_with fail
      have HV1 := fun W hW hC hP => Lib.hid (tverify_any rt msg HT.out HM.out h i h1 h2 i1 i2 A B n c m d C P W hW hC hP hnc hmd (by omega) (by omega))
      have HV2 := fun W hC hP => Lib.hid (refTVerify_any rt msg HT.out HM.out h i h1 h2 A B n c m d C P W hC hP hmd (by omega) (by omega))
      have HE1 := fun W hW hC hP hC' hP' => Lib.hid (tsame_any i j A B E F n c m d n' c' m' d' C P C' P' W hW hC hP hC' hP' hnc hmd hnc' hmd' (by omega) (by omega) (by omega) (by omega))
      have HE2 := fun W hC hP hC' hP' => Lib.hid (refTSame_any i j A B E F n c m d n' c' m' d' C P C' P' W hC hP hC' hP' (by omega) (by omega) (by omega) (by omega))
      generalize tVerify rt h msg i C P = V at *
      generalize tSame i C P j C' P' = Q at *
      refine wp_region_plan (fun w' => Row w' w1.heap.size 23 (bvs rt) ∧ Row w' w3.heap.size 23 (bvs msg) ∧ Row w' w5.heap.size 32 [.int .i64 i, .slice A n c, .slice B m d] ∧ Row w' w7.heap.size 32 [.int .i64 j, .slice E n' c', .slice F m' d']) (.take 0 <| .take 1 <| .take 2 <| .take 3 <| .take 4 <| .take 5 <| .take 7 <| .take 8 <| .take 9 <| .take 10 <| .one 6 <| .one 11 <| .take 12 <| .take 13 <| .take 14 <| .take 15 <| .take 16 <| .take 18 <| .take 19 <| .one 17 <| .one 20 <| .take 21 <| .take 22 <| .take 23 <| .done) (by kernel_rfl) (by kernel_rfl) (by kernel_rfl) (fun _ _ _ _ _ h => h) ⟨zrt.drew, zmg.drew, zs.drew, zt.drew⟩ ?_
      repeat (refine plan_take _ rfl ?_; (first | (refine wpQuiet_valueG (o := ⟨some 31, _, _, _, _, _⟩) rfl _ (by intro _ h; exact exec_load16 _ _ rfl _ rfl rt HT.out h.1.cells) (wpQuiet_nil ?_); simp only [Act.put, List.setIfInBounds_toArray, List.set_cons_zero, List.set_cons_succ]) | (refine wpQuiet_valueG (o := ⟨some 33, _, _, _, _, _⟩) rfl _ (by intro _ h; exact exec_load16 _ _ rfl _ rfl msg HM.out h.2.1.cells) (wpQuiet_nil ?_); simp only [Act.put, List.setIfInBounds_toArray, List.set_cons_zero, List.set_cons_succ]) | (refine wpQuiet_valueG (o := ⟨some 34, _, _, _, _, _⟩) rfl _ (by intro _ h; exact exec_load_sig _ _ rfl _ rfl _ _ _ h.2.2.1.cells) (wpQuiet_nil ?_); simp only [Act.put, List.setIfInBounds_toArray, List.set_cons_zero, List.set_cons_succ]) | (refine wpQuiet_valueG (o := ⟨some 36, _, _, _, _, _⟩) rfl _ (by intro _ h; exact exec_load16 _ _ rfl _ rfl rt HT.out h.1.cells) (wpQuiet_nil ?_); simp only [Act.put, List.setIfInBounds_toArray, List.set_cons_zero, List.set_cons_succ]) | (refine wpQuiet_valueG (o := ⟨some 38, _, _, _, _, _⟩) rfl _ (by intro _ h; exact exec_load16 _ _ rfl _ rfl msg HM.out h.2.1.cells) (wpQuiet_nil ?_); simp only [Act.put, List.setIfInBounds_toArray, List.set_cons_zero, List.set_cons_succ]) | (refine wpQuiet_valueG (o := ⟨some 39, _, _, _, _, _⟩) rfl _ (by intro _ h; exact exec_load_sig _ _ rfl _ rfl _ _ _ h.2.2.1.cells) (wpQuiet_nil ?_); simp only [Act.put, List.setIfInBounds_toArray, List.set_cons_zero, List.set_cons_succ]) | (refine wpQuiet_valueG (o := ⟨some 44, _, _, _, _, _⟩) rfl _ (by intro _ h; exact exec_load_sig _ _ rfl _ rfl _ _ _ h.2.2.1.cells) (wpQuiet_nil ?_); simp only [Act.put, List.setIfInBounds_toArray, List.set_cons_zero, List.set_cons_succ]) | (refine wpQuiet_valueG (o := ⟨some 45, _, _, _, _, _⟩) rfl _ (by intro _ h; exact exec_load_sig _ _ rfl _ rfl _ _ _ h.2.2.2.cells) (wpQuiet_nil ?_); simp only [Act.put, List.setIfInBounds_toArray, List.set_cons_zero, List.set_cons_succ]) | (refine wpQuiet_valueG (o := ⟨some 47, _, _, _, _, _⟩) rfl _ (by intro _ h; exact exec_load_sig _ _ rfl _ rfl _ _ _ h.2.2.1.cells) (wpQuiet_nil ?_); simp only [Act.put, List.setIfInBounds_toArray, List.set_cons_zero, List.set_cons_succ]) | (refine wpQuiet_valueG (o := ⟨some 48, _, _, _, _, _⟩) rfl _ (by intro _ h; exact exec_load_sig _ _ rfl _ rfl _ _ _ h.2.2.2.cells) (wpQuiet_nil ?_); simp only [Act.put, List.setIfInBounds_toArray, List.set_cons_zero, List.set_cons_succ]) | (go_big_quiet_step ((intros; rfl)); refine wpQuiet_nil ?_)))
      have yB := zB.drew
      have yK := zK.on (Below.refl wz.heap.size wz).drew
      have yrt := zrt.drew
      have ymg := zmg.drew
      have ys := zs.drew
      have yt := zt.drew
      have yC1 : ReadsD wz.drew A n C := zC1
      have yP1 : ReadsD wz.drew B m P := zP1
      have yC2 : ReadsD wz.drew E n' C' := zC2
      have yP2 : ReadsD wz.drew F m' P' := zP2
      generalize wz.drew = wy at *
      clear zB zK zrt zmg zs zt zC1 zP1 zC2 zP2
      refine plan_one _ rfl fun K hK => ?_
      go_simp
      refine ((HV1 _ yK yC1 yP1).out).mono ?_
      rintro e w13 ⟨rfl, h13⟩
      have B13 := yB.trans (h13.mono yB.size)
      have K_13 := yK.on h13
      have rt_13 := yrt.on h13
      have mg_13 := ymg.on h13
      have s_13 := ys.on h13
      have t_13 := yt.on h13
      have C1_13 := yC1.on h13
      have P1_13 := yP1.on h13
      have C2_13 := yC2.on h13
      have P2_13 := yP2.on h13
      refine hK _ _ ⟨rt_13, mg_13, s_13, t_13⟩ ?_
      clear hK K
      refine plan_one _ rfl fun K hK => ?_
      go_simp
      refine ((HV2 _ C1_13 P1_13).out).mono ?_
      rintro e w14 ⟨rfl, h14⟩
      have B14 := B13.trans (h14.mono B13.size)
      have K_14 := K_13.on h14
      have rt_14 := rt_13.on h14
      have mg_14 := mg_13.on h14
      have s_14 := s_13.on h14
      have t_14 := t_13.on h14
      have C1_14 := C1_13.on h14
      have P1_14 := P1_13.on h14
      have C2_14 := C2_13.on h14
      have P2_14 := P2_13.on h14
      clear K_13 rt_13 mg_13 s_13 t_13 C1_13 P1_13 C2_13 P2_13
      refine hK _ _ ⟨rt_14, mg_14, s_14, t_14⟩ ?_
      clear hK K
      repeat (refine plan_take _ rfl ?_; (first | (refine wpQuiet_valueG (o := ⟨some 31, _, _, _, _, _⟩) rfl _ (by intro _ h; exact exec_load16 _ _ rfl _ rfl rt HT.out h.1.cells) (wpQuiet_nil ?_); simp only [Act.put, List.setIfInBounds_toArray, List.set_cons_zero, List.set_cons_succ]) | (refine wpQuiet_valueG (o := ⟨some 33, _, _, _, _, _⟩) rfl _ (by intro _ h; exact exec_load16 _ _ rfl _ rfl msg HM.out h.2.1.cells) (wpQuiet_nil ?_); simp only [Act.put, List.setIfInBounds_toArray, List.set_cons_zero, List.set_cons_succ]) | (refine wpQuiet_valueG (o := ⟨some 34, _, _, _, _, _⟩) rfl _ (by intro _ h; exact exec_load_sig _ _ rfl _ rfl _ _ _ h.2.2.1.cells) (wpQuiet_nil ?_); simp only [Act.put, List.setIfInBounds_toArray, List.set_cons_zero, List.set_cons_succ]) | (refine wpQuiet_valueG (o := ⟨some 36, _, _, _, _, _⟩) rfl _ (by intro _ h; exact exec_load16 _ _ rfl _ rfl rt HT.out h.1.cells) (wpQuiet_nil ?_); simp only [Act.put, List.setIfInBounds_toArray, List.set_cons_zero, List.set_cons_succ]) | (refine wpQuiet_valueG (o := ⟨some 38, _, _, _, _, _⟩) rfl _ (by intro _ h; exact exec_load16 _ _ rfl _ rfl msg HM.out h.2.1.cells) (wpQuiet_nil ?_); simp only [Act.put, List.setIfInBounds_toArray, List.set_cons_zero, List.set_cons_succ]) | (refine wpQuiet_valueG (o := ⟨some 39, _, _, _, _, _⟩) rfl _ (by intro _ h; exact exec_load_sig _ _ rfl _ rfl _ _ _ h.2.2.1.cells) (wpQuiet_nil ?_); simp only [Act.put, List.setIfInBounds_toArray, List.set_cons_zero, List.set_cons_succ]) | (refine wpQuiet_valueG (o := ⟨some 44, _, _, _, _, _⟩) rfl _ (by intro _ h; exact exec_load_sig _ _ rfl _ rfl _ _ _ h.2.2.1.cells) (wpQuiet_nil ?_); simp only [Act.put, List.setIfInBounds_toArray, List.set_cons_zero, List.set_cons_succ]) | (refine wpQuiet_valueG (o := ⟨some 45, _, _, _, _, _⟩) rfl _ (by intro _ h; exact exec_load_sig _ _ rfl _ rfl _ _ _ h.2.2.2.cells) (wpQuiet_nil ?_); simp only [Act.put, List.setIfInBounds_toArray, List.set_cons_zero, List.set_cons_succ]) | (refine wpQuiet_valueG (o := ⟨some 47, _, _, _, _, _⟩) rfl _ (by intro _ h; exact exec_load_sig _ _ rfl _ rfl _ _ _ h.2.2.1.cells) (wpQuiet_nil ?_); simp only [Act.put, List.setIfInBounds_toArray, List.set_cons_zero, List.set_cons_succ]) | (refine wpQuiet_valueG (o := ⟨some 48, _, _, _, _, _⟩) rfl _ (by intro _ h; exact exec_load_sig _ _ rfl _ rfl _ _ _ h.2.2.2.cells) (wpQuiet_nil ?_); simp only [Act.put, List.setIfInBounds_toArray, List.set_cons_zero, List.set_cons_succ]) | (go_big_quiet_step ((intros; rfl)); refine wpQuiet_nil ?_)))
      refine plan_one _ rfl fun K hK => ?_
      go_simp
      refine ((HE1 _ K_14 C1_14 P1_14 C2_14 P2_14).out).mono ?_
      rintro e w15 ⟨rfl, h15⟩
      have B15 := B14.trans (h15.mono B14.size)
      have K_15 := K_14.on h15
      have rt_15 := rt_14.on h15
      have mg_15 := mg_14.on h15
      have s_15 := s_14.on h15
      have t_15 := t_14.on h15
      have C1_15 := C1_14.on h15
      have P1_15 := P1_14.on h15
      have C2_15 := C2_14.on h15
      have P2_15 := P2_14.on h15
      clear K_14 rt_14 mg_14 s_14 t_14 C1_14 P1_14 C2_14 P2_14
      refine hK _ _ ⟨rt_15, mg_15, s_15, t_15⟩ ?_
      clear hK K
      refine plan_one _ rfl fun K hK => ?_
      go_simp
      refine ((HE2 _ C1_15 P1_15 C2_15 P2_15).out).mono ?_
      rintro e w16 ⟨rfl, h16⟩
      have B16 := B15.trans (h16.mono B15.size)
      have K_16 := K_15.on h16
      have rt_16 := rt_15.on h16
      have mg_16 := mg_15.on h16
      have s_16 := s_15.on h16
      have t_16 := t_15.on h16
      have C1_16 := C1_15.on h16
      have P1_16 := P1_15.on h16
      have C2_16 := C2_15.on h16
      have P2_16 := P2_15.on h16
      clear K_15 rt_15 mg_15 s_15 t_15 C1_15 P1_15 C2_15 P2_15
      refine hK _ _ ⟨rt_16, mg_16, s_16, t_16⟩ ?_
      clear hK K
      repeat (refine plan_take _ rfl ?_; (first | (refine wpQuiet_valueG (o := ⟨some 31, _, _, _, _, _⟩) rfl _ (by intro _ h; exact exec_load16 _ _ rfl _ rfl rt HT.out h.1.cells) (wpQuiet_nil ?_); simp only [Act.put, List.setIfInBounds_toArray, List.set_cons_zero, List.set_cons_succ]) | (refine wpQuiet_valueG (o := ⟨some 33, _, _, _, _, _⟩) rfl _ (by intro _ h; exact exec_load16 _ _ rfl _ rfl msg HM.out h.2.1.cells) (wpQuiet_nil ?_); simp only [Act.put, List.setIfInBounds_toArray, List.set_cons_zero, List.set_cons_succ]) | (refine wpQuiet_valueG (o := ⟨some 34, _, _, _, _, _⟩) rfl _ (by intro _ h; exact exec_load_sig _ _ rfl _ rfl _ _ _ h.2.2.1.cells) (wpQuiet_nil ?_); simp only [Act.put, List.setIfInBounds_toArray, List.set_cons_zero, List.set_cons_succ]) | (refine wpQuiet_valueG (o := ⟨some 36, _, _, _, _, _⟩) rfl _ (by intro _ h; exact exec_load16 _ _ rfl _ rfl rt HT.out h.1.cells) (wpQuiet_nil ?_); simp only [Act.put, List.setIfInBounds_toArray, List.set_cons_zero, List.set_cons_succ]) | (refine wpQuiet_valueG (o := ⟨some 38, _, _, _, _, _⟩) rfl _ (by intro _ h; exact exec_load16 _ _ rfl _ rfl msg HM.out h.2.1.cells) (wpQuiet_nil ?_); simp only [Act.put, List.setIfInBounds_toArray, List.set_cons_zero, List.set_cons_succ]) | (refine wpQuiet_valueG (o := ⟨some 39, _, _, _, _, _⟩) rfl _ (by intro _ h; exact exec_load_sig _ _ rfl _ rfl _ _ _ h.2.2.1.cells) (wpQuiet_nil ?_); simp only [Act.put, List.setIfInBounds_toArray, List.set_cons_zero, List.set_cons_succ]) | (refine wpQuiet_valueG (o := ⟨some 44, _, _, _, _, _⟩) rfl _ (by intro _ h; exact exec_load_sig _ _ rfl _ rfl _ _ _ h.2.2.1.cells) (wpQuiet_nil ?_); simp only [Act.put, List.setIfInBounds_toArray, List.set_cons_zero, List.set_cons_succ]) | (refine wpQuiet_valueG (o := ⟨some 45, _, _, _, _, _⟩) rfl _ (by intro _ h; exact exec_load_sig _ _ rfl _ rfl _ _ _ h.2.2.2.cells) (wpQuiet_nil ?_); simp only [Act.put, List.setIfInBounds_toArray, List.set_cons_zero, List.set_cons_succ]) | (refine wpQuiet_valueG (o := ⟨some 47, _, _, _, _, _⟩) rfl _ (by intro _ h; exact exec_load_sig _ _ rfl _ rfl _ _ _ h.2.2.1.cells) (wpQuiet_nil ?_); simp only [Act.put, List.setIfInBounds_toArray, List.set_cons_zero, List.set_cons_succ]) | (refine wpQuiet_valueG (o := ⟨some 48, _, _, _, _, _⟩) rfl _ (by intro _ h; exact exec_load_sig _ _ rfl _ rfl _ _ _ h.2.2.2.cells) (wpQuiet_nil ?_); simp only [Act.put, List.setIfInBounds_toArray, List.set_cons_zero, List.set_cons_succ]) | (go_big_quiet_step ((intros; rfl)); refine wpQuiet_nil ?_)))
      refine plan_done ?_
      go_wp2_with fail
      go_ret
      exact ⟨rfl, B16⟩
end Go.Proofs.YtfmcgcdppbcfjaaDoor
