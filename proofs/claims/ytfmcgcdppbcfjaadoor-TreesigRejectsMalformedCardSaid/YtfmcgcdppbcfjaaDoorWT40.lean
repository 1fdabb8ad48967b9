/-
  TreesigRejectsMalformed's walk, case 0. Condition: the table of constants as laid.
-/
import Derived.Test.YtfmcgcdppbcfjaaDoorTown
namespace Go.Proofs.YtfmcgcdppbcfjaaDoor
open Go.RowKit

set_option maxRecDepth 100000 in
set_option maxHeartbeats 4000000 in
theorem walkT4_0 (seed msg : List UInt8) (hs : seed.length = 16) (hm : msg.length = 16) (x y z : Nat) (hx : x ≤ 255) (hy : y ≤ 255) (hz : z ≤ 255) (hzr : (z : Int) % 5 = 0) (odd : Int) (o1 : -9223372036854775808 ≤ odd) (o2 : odd ≤ 9223372036854775807) (w : World) (hCo : Consts w) :
    Calls Tryd.prog 6 #[.agg (bvs seed ++ ([Value.int .u8 (x : Int), Value.int .u8 (y : Int)] ++ (bvs msg ++ [Value.int .i64 odd, Value.int .u8 (z : Int)]))).toArray] w (TellsB true w) := by
  have HS := Lib.hid hs
  have HM := Lib.hid hm
  obtain ⟨k, hkx⟩ : ∃ k : Nat, (x : Int) % 5 = (k : Int) := ⟨x % 5, by omega⟩
  have hk4 : k ≤ 4 := by omega
  obtain ⟨i, hiy⟩ : ∃ i : Nat, (y : Int) % ((2 ^ k : Nat) : Int) = (i : Int) := ⟨y % 2 ^ k, by rw [Int.natCast_emod]⟩
  have hp := Nat.two_pow_pos k
  have hi : i < 2 ^ k := by
    have := Int.emod_lt_of_pos (y : Int) (show (0 : Int) < ((2 ^ k : Nat) : Int) by omega)
    omega
  have h16 := two_le16 hk4
  have HMY := fun W => Lib.hid (refMany_two k hk4 W)
  have HRO := fun W hW => Lib.hid (troot_own seed hs k hk4 W hW)
  have HSO := fun W hW => Lib.hid (tsign_own seed msg hs hm k i hk4 hi W hW)
  have HSA := fun W hW => Lib.hid (sanity5_any W hW)
  have HDL := Lib.hid (root_len (tKeys seed (2 ^ k)))
  have HMN := Lib.hid (tMany_nat k hk4)
  have HV := fun (ho : ¬ (0 ≤ odd ∧ odd < ((2 ^ k : Nat) : Int))) A B c d W hW hC hP hc hd => Lib.hid (tverify_no (root (tKeys seed (2 ^ k))) msg HDL.out hm (k : Int) odd (by omega) (by omega) o1 o2 A B 68 c k d (wSign seed (i : Int) msg) (mProof (tKeys seed (2 ^ k)) i) W hW hC hP hc hd (by omega) (by omega) (tVerify_out (by rw [HMN.out]; exact ho)))
  generalize root (tKeys seed (2 ^ k)) = D at *
  generalize wSign seed (i : Int) msg = C at *
  generalize mProof (tKeys seed (2 ^ k)) i = P at *
  obtain ⟨cs, hcs⟩ : ∃ cs : List Value, cs = bvs seed ++ ([Value.int .u8 (x : Int), Value.int .u8 (y : Int)] ++ (bvs msg ++ [Value.int .i64 odd, Value.int .u8 (z : Int)])) := ⟨_, rfl⟩
  have hl16 : (bvs seed).length = 16 := by rw [bvs_length, hs]
  have hm16 : (bvs msg).length = 16 := by rw [bvs_length, hm]
  have HA1 : ∀ w g t, Row w g t cs → Hid (∀ j u, (bvs seed)[j]? = some u → w.cell? ((⟨g, 0, none⟩ : Addr).add j) = some u) := fun w g t hr => Row.part hr (pre := []) hcs rfl
  have HA4 : ∀ w g t, Row w g t cs → Hid (∀ j u, (bvs msg)[j]? = some u → w.cell? ((⟨g, 18, none⟩ : Addr).add j) = some u) := fun w g t hr => Row.part hr (pre := bvs seed ++ [Value.int .u8 (x : Int), Value.int .u8 (y : Int)]) (by rw [hcs, List.append_assoc]) (by rw [List.length_append, hl16]; rfl)
  have HA2 : Hid (cs[16]? = some (.int .u8 (x : Int))) := by show _ = _; rw [hcs, List.getElem?_append_right (by omega), hl16]; rfl
  have HA3 : Hid (cs[17]? = some (.int .u8 (y : Int))) := by show _ = _; rw [hcs, List.getElem?_append_right (by omega), hl16]; rfl
  have HA5 : Hid (cs[34]? = some (.int .i64 odd)) := by show _ = _; rw [hcs, List.getElem?_append_right (by omega), hl16, List.getElem?_append_right (by show 2 ≤ _; omega), show (34 - 16 - [Value.int .u8 (x : Int), Value.int .u8 (y : Int)].length) = 16 from rfl, List.getElem?_append_right (by omega), hm16]; rfl
  have HA6 : Hid (cs[35]? = some (.int .u8 (z : Int))) := by show _ = _; rw [hcs, List.getElem?_append_right (by omega), hl16, List.getElem?_append_right (by show 2 ≤ _; omega), show (35 - 16 - [Value.int .u8 (x : Int), Value.int .u8 (y : Int)].length) = 17 from rfl, List.getElem?_append_right (by omega), hm16]; rfl
  rw [← hcs]
  clear hcs hl16 hm16 hs hm
  have HPW : Hid (∀ q : Nat, q = 2 ^ k → (y : Int) % (q : Int) = (i : Int)) := fun q hq => by rw [hq]; exact hiy
  clear hiy
  generalize 2 ^ k = M at *
  have hiy := HPW.out M rfl
  clear HPW
  go_enter Tryd.func6, Tryd.ntmps6
  go_wp2_with (first
    | (with_reducible refine wpList_box_row (o := ⟨some 1, _, _, _, _, _⟩) rfl _ _ rfl (cs) rfl ?_; intro w1 In_1 s1 g1; have k1 : Below w.heap.size w w1 := grown_below g1 (Nat.le_refl _) (by simp); have B1 : Below w.heap.size w w1 := k1; have K_1 := hCo.on k1)
    | (refine wpList_valueG (o := ⟨some 18, _, _, _, _, _⟩) rfl _ (by exact exec_load16 _ _ rfl _ rfl seed HS.out (HA1 _ _ _ In_1).out) ?_)
    | (with_reducible refine wpList_alloc_row (o := ⟨some 3, _, _, _, _, _⟩) rfl _ rfl zeros16 zero_b16 ?_; intro w2 r2 s2 g2)
    | (with_reducible refine wpList_at ⟨none, .store _ (.tmp 3) _, _, _, _, _⟩ ?_; refine wpList_store_all rfl _ _ _ rfl w1.heap.size rfl _ _ r2 (bvs seed) rfl (bvs_one _) (b16_zeros _ HS.out) (b16_size _ HS.out) ?_; intro w3 sd_3 g3; have k3 : Below w1.heap.size w1 w3 := below_kept (grown_below g2 (Nat.le_refl _) (by simp)) g3 (Nat.le_of_lt s2) (by rintro q hq; cases hq; exact Nat.le_refl _); have B3 := B1.trans (k3.mono B1.size); have K_3 := K_1.on k3; have In_3 := In_1.on k3; clear K_1 In_1; clear r2 g2 g3)
    | (refine wpList_valueG (o := ⟨some 20, _, _, _, _, _⟩) rfl _ (by exact exec_load1 _ 5 _ rfl ⟨w.heap.size, 16, none⟩ rfl _ (In_3.cell (j := 16) HA2.out) _ Tryd.underlying5 rfl) ?_)
    | (refine wpList_valueG (o := ⟨some 22, _, _, _, _, _⟩) rfl _ (by exact exec_load1 _ 5 _ rfl ⟨w.heap.size, 17, none⟩ rfl _ (In_3.cell (j := 17) HA3.out) _ Tryd.underlying5 rfl) ?_)
    | (refine wpList_valueG (o := ⟨some 24, _, _, _, _, _⟩) rfl _ (by exact exec_load16 _ _ rfl _ rfl msg HM.out (HA4 _ _ _ In_3).out) ?_)
    | (with_reducible refine wpList_alloc_row (o := ⟨some 6, _, _, _, _, _⟩) rfl _ rfl zeros16 zero_b16 ?_; intro w4 r4 s4 g4)
    | (with_reducible refine wpList_at ⟨none, .store _ (.tmp 6) _, _, _, _, _⟩ ?_; refine wpList_store_all rfl _ _ _ rfl w3.heap.size rfl _ _ r4 (bvs msg) rfl (bvs_one _) (b16_zeros _ HM.out) (b16_size _ HM.out) ?_; intro w5 mg_5 g5; have k5 : Below w3.heap.size w3 w5 := below_kept (grown_below g4 (Nat.le_refl _) (by simp)) g5 (Nat.le_of_lt s4) (by rintro q hq; cases hq; exact Nat.le_refl _); have B5 := B3.trans (k5.mono B3.size); have K_5 := K_3.on k5; have In_5 := In_3.on k5; have sd_5 := sd_3.on k5; clear K_3 In_3 sd_3; clear r4 g4 g5)
    | (refine wpList_valueG (o := ⟨some 26, _, _, _, _, _⟩) rfl _ (by exact exec_load1 _ 3 _ rfl ⟨w.heap.size, 34, none⟩ rfl _ (In_5.cell (j := 34) HA5.out) _ Tryd.underlying3 rfl) ?_)
    | (refine wpList_valueG (o := ⟨some 28, _, _, _, _, _⟩) rfl _ (by exact exec_load1 _ 5 _ rfl ⟨w.heap.size, 35, none⟩ rfl _ (In_5.cell (j := 35) HA6.out) _ Tryd.underlying5 rfl) ?_))
  refine ((HSA _ K_5).out).mono ?_
  rintro e w6 ⟨rfl, h6⟩
  have B6 := B5.trans (h6.mono B5.size)
  have K_6 := K_5.on h6
  have In_6 := In_5.on h6
  have sd_6 := sd_5.on h6
  have mg_6 := mg_5.on h6
  clear K_5 In_5 sd_5 mg_5
  go_wp2_with fail
  refine ((HMY _).out).mono ?_
  rintro e _ ⟨rfl, rfl⟩
  go_wp2_with (refine wpList_valueG (o := ⟨some 36, _, _, _, _, _⟩) rfl _ (by exact exec_load16 _ _ rfl _ rfl seed HS.out sd_6.cells) ?_)
  refine ((HRO _ K_6).out).mono ?_
  rintro e w7 ⟨rfl, h7⟩
  have B7 := B6.trans (h7.mono B6.size)
  have K_7 := K_6.on h7
  have In_7 := In_6.on h7
  have sd_7 := sd_6.on h7
  have mg_7 := mg_6.on h7
  clear K_6 In_6 sd_6 mg_6
  go_wp2_with (first
    | (with_reducible refine wpList_alloc_row (o := ⟨some 12, _, _, _, _, _⟩) rfl _ rfl zeros16 zero_b16 ?_; intro w8 r8 s8 g8)
    | (with_reducible refine wpList_at ⟨none, .store _ (.tmp 12) _, _, _, _, _⟩ ?_; refine wpList_store_all rfl _ _ _ rfl w7.heap.size rfl _ _ r8 (bvs D) rfl (bvs_one _) (b16_zeros _ HDL.out) (b16_size _ HDL.out) ?_; intro w9 a_9 g9; have k9 : Below w7.heap.size w7 w9 := below_kept (grown_below g8 (Nat.le_refl _) (by simp)) g9 (Nat.le_of_lt s8) (by rintro q hq; cases hq; exact Nat.le_refl _); have B9 := B7.trans (k9.mono B7.size); have K_9 := K_7.on k9; have In_9 := In_7.on k9; have sd_9 := sd_7.on k9; have mg_9 := mg_7.on k9; clear K_7 In_7 sd_7 mg_7; clear r8 g8 g9))
  have zz := B9.size
  go_cut [14, 15] (fun s14 s15 wc => ∃ g A1 c1 B1 d1, s14 = .pointer (some ⟨g, 0, none⟩) ∧ s15 = .int .i64 0 ∧ Row wc g 32 [.int .i64 (i : Int), .slice A1 68 c1, .slice B1 k d1] ∧ ReadsD wc A1 68 C ∧ ReadsD wc B1 k P ∧ 68 ≤ c1 ∧ k ≤ d1 ∧ Row wc w7.heap.size 23 (bvs D) ∧ Row wc w3.heap.size 23 (bvs msg) ∧ Below w.heap.size w wc)
  case first =>
    refine wp_region_plan (fun w' => Row w' w1.heap.size 23 (bvs seed) ∧ Row w' w3.heap.size 23 (bvs msg)) (.take 0 <| .take 1 <| .take 2 <| .take 3 <| .take 4 <| .take 5 <| .take 6 <| .two 7 (.take 8 <| .take 9 <| .take 10 <| .one 11 <| .one 12 <| .take 13 <| .done) 11 (.one 7 <| .take 8 <| .take 9 <| .take 10 <| .one 12 <| .take 13 <| .done)) (by kernel_rfl) (by kernel_rfl) (by kernel_rfl) (fun _ _ _ _ _ h => h) ⟨sd_9.drew, mg_9.drew⟩ ?_
    repeat (refine plan_take _ rfl ?_; (first | (refine wpQuiet_valueG (o := ⟨some 42, _, _, _, _, _⟩) rfl _ (by intro _ h; exact exec_load16 _ _ rfl _ rfl seed HS.out h.1.cells) (wpQuiet_nil ?_); simp only [Act.put, List.setIfInBounds_toArray, List.set_cons_zero, List.set_cons_succ]) | (refine wpQuiet_valueG (o := ⟨some 48, _, _, _, _, _⟩) rfl _ (by intro _ h; exact exec_load16 _ _ rfl _ rfl msg HM.out h.2.cells) (wpQuiet_nil ?_); simp only [Act.put, List.setIfInBounds_toArray, List.set_cons_zero, List.set_cons_succ]) | (go_big_quiet_step ((intros; rfl)); refine wpQuiet_nil ?_)))
    have rs := sd_9.drew
    have rm := mg_9.drew
    have ra := a_9.drew
    have B := B9.drew
    generalize w9.drew = wd at *
    refine plan_two ?_ ?_
    · refine step_at _ rfl fun K hK => ?_
      go_simp
      refine (HSO _ (hCo.on B)).out.mono ?_
      rintro e we ⟨A1, c1, B1, d1, rfl, hC1, hP1, hc1, hd1, hbe⟩
      have rs1 := rs.on hbe
      have rm1 := rm.on hbe
      have ra1 := ra.on hbe
      have BE := B.trans (hbe.mono B.size)
      refine hK _ _ ⟨rs1, rm1⟩ ?_
      clear hK K
      repeat (refine plan_take _ rfl ?_; go_big_quiet_step ((intros; rfl)); refine wpQuiet_nil ?_)
      refine plan_one _ rfl fun K hK => ?_
      refine step_alloc rfl _ rfl sgz zero_sig ?_
      intro wf rf sf gf
      refine hK _ _ ⟨rs1.kept gf (by simp), rm1.kept gf (by simp)⟩ ?_
      clear hK K
      simp only [Act.put, List.setIfInBounds_toArray, List.set_cons_zero, List.set_cons_succ]
      refine plan_one _ rfl fun K hK => ?_
      refine step_store_all rfl _ _ _ rfl we.heap.size rfl _ _ rf [.int .i64 (i : Int), .slice A1 68 c1, .slice B1 k d1] rfl (by simp [Value.oneCell']) rfl (sig_size _ _ _) ?_
      intro wg rg gg
      have kg : Below we.heap.size we wg := below_kept (grown_below gf (Nat.le_refl _) (by simp)) gg (Nat.le_of_lt sf) (by rintro q hq; cases hq; exact Nat.le_refl _)
      refine hK _ _ ⟨rs1.on kg, rm1.on kg⟩ ?_
      clear hK K
      simp only [Act.put]
      repeat (refine plan_take _ rfl ?_; go_big_quiet_step ((intros; rfl)); refine wpQuiet_nil ?_)
      refine plan_done ?_
      go_wp2_with fail
      go_meet
      exact ⟨we.heap.size, A1, c1, B1, d1, rfl, rfl, rg, hC1.on kg, hP1.on kg, hc1, hd1, ra1.on kg, rm1.on kg, BE.trans (kg.mono BE.size)⟩
    · refine step_at _ rfl fun K hK => ?_
      refine step_alloc rfl _ rfl sgz zero_sig ?_
      intro wf rf sf gf
      have kf : Below wd.heap.size wd wf := grown_below gf (Nat.le_refl _) (by simp)
      have rs1 := rs.on kf
      have rm1 := rm.on kf
      have ra1 := ra.on kf
      have BF := B.trans (kf.mono B.size)
      refine hK _ _ ⟨rs1, rm1⟩ ?_
      clear hK K
      simp only [Act.put, List.setIfInBounds_toArray, List.set_cons_zero, List.set_cons_succ]
      refine plan_one _ rfl fun K hK => ?_
      go_simp
      refine (HSO _ (hCo.on BF)).out.mono ?_
      rintro e we ⟨A1, c1, B1, d1, rfl, hC1, hP1, hc1, hd1, hbe⟩
      have rs2 := rs1.on hbe
      have rm2 := rm1.on hbe
      have ra2 := ra1.on hbe
      have rf2 := rf.on hbe
      have BE := BF.trans (hbe.mono BF.size)
      refine hK _ _ ⟨rs2, rm2⟩ ?_
      clear hK K
      repeat (refine plan_take _ rfl ?_; go_big_quiet_step ((intros; rfl)); refine wpQuiet_nil ?_)
      refine plan_one _ rfl fun K hK => ?_
      refine step_store_all rfl _ _ _ rfl wd.heap.size rfl _ _ rf2 [.int .i64 (i : Int), .slice A1 68 c1, .slice B1 k d1] rfl (by simp [Value.oneCell']) rfl (sig_size _ _ _) ?_
      intro wg rg gg
      have zl := rs.lt
      have ml := rm.lt
      have al := ra.lt
      have BG := below_kept BE gg BE.size (by rintro q hq; cases hq; have := B.size; omega)
      refine hK _ _ ⟨rs2.kept gg (by simp; omega), rm2.kept gg (by simp; omega)⟩ ?_
      clear hK K
      simp only [Act.put]
      repeat (refine plan_take _ rfl ?_; go_big_quiet_step ((intros; rfl)); refine wpQuiet_nil ?_)
      refine plan_done ?_
      go_wp2_with fail
      go_meet
      exact ⟨wd.heap.size, A1, c1, B1, d1, rfl, rfl, rg, hC1.apart rf2 gg, hP1.apart rf2 gg, hc1, hd1, ra2.kept gg (by simp; omega), rm2.kept gg (by simp; omega), BG⟩
  case rest =>
    obtain ⟨g, A1, c1, B1, d1, rfl, rfl, hsr, hC1, hP1, hc1, hd1, hra, hrm, hbc⟩ := hcut
    by_cases q1 : 0 ≤ odd
    · by_cases q2 : odd < (M : Int)
      · go_wp2_with (first
          | (refine wpList_valueG (o := ⟨some 56, _, _, _, _, _⟩) rfl _ (by exact exec_load1 _ 30 _ rfl ⟨g, 1, none⟩ rfl _ (hsr.cell (j := 1) rfl) _ Tryd.underlying30 rfl) ?_)
          | (refine wpList_valueG (o := ⟨some 60, _, _, _, _, _⟩) rfl _ (by exact exec_load_sig _ _ rfl _ rfl _ _ _ hsr.cells) ?_)
          | (with_reducible refine wpList_alloc_row (o := ⟨some 16, _, _, _, _, _⟩) rfl _ rfl sgz zero_sig ?_; intro w8 r8 s8 g8)
          | (with_reducible refine wpList_at ⟨none, .store _ (.tmp 16) _, _, _, _, _⟩ ?_; refine wpList_store_all rfl _ _ _ rfl wc.heap.size rfl _ _ r8 [.int .i64 (i : Int), .slice A1 68 c1, .slice B1 k d1] rfl (by simp [Value.oneCell']) rfl (sig_size _ _ _) ?_; intro w9 r9 g9; have k9 : Below wc.heap.size wc w9 := below_kept (grown_below g8 (Nat.le_refl _) (by simp)) g9 (Nat.le_of_lt s8) (by rintro q hq; cases hq; exact Nat.le_refl _); have s9 := hsr.on k9; clear r8 g8 g9))
        go_ret
        exact ⟨rfl, hbc.trans (k9.mono hbc.size)⟩
      · have HO : ¬ (0 ≤ odd ∧ odd < (M : Int)) := fun h => q2 h.2
        go_wp2_with (first
          | (refine wpList_valueG (o := ⟨some 56, _, _, _, _, _⟩) rfl _ (by exact exec_load1 _ 30 _ rfl ⟨g, 1, none⟩ rfl _ (hsr.cell (j := 1) rfl) _ Tryd.underlying30 rfl) ?_)
          | (refine wpList_valueG (o := ⟨some 60, _, _, _, _, _⟩) rfl _ (by exact exec_load_sig _ _ rfl _ rfl _ _ _ hsr.cells) ?_)
          | (with_reducible refine wpList_alloc_row (o := ⟨some 16, _, _, _, _, _⟩) rfl _ rfl sgz zero_sig ?_; intro w8 r8 s8 g8)
          | (with_reducible refine wpList_at ⟨none, .store _ (.tmp 16) _, _, _, _, _⟩ ?_; refine wpList_store_all rfl _ _ _ rfl wc.heap.size rfl _ _ r8 [.int .i64 (i : Int), .slice A1 68 c1, .slice B1 k d1] rfl (by simp [Value.oneCell']) rfl (sig_size _ _ _) ?_; intro w9 r9 g9; have k9 : Below wc.heap.size wc w9 := below_kept (grown_below g8 (Nat.le_refl _) (by simp)) g9 (Nat.le_of_lt s8) (by rintro q hq; cases hq; exact Nat.le_refl _); have s9 := hsr.on k9; clear r8 g8 g9)
          | (refine wpList_at ⟨none, .store 3 _ _, _, _, _, _⟩ ?_; refine wpList_store_elem rfl _ _ _ rfl wc.heap.size 0 rfl _ _ r9 (.int .i64 odd) rfl rfl (by simp) (by kernel_rfl) ?_; intro w10 r10' g10; have r10 : Row w10 wc.heap.size 32 [.int .i64 odd, .slice A1 68 c1, .slice B1 k d1] := r10'; have k10 := below_kept k9 g10 k9.size (by rintro q hq; cases hq; exact Nat.le_refl _))
          | (refine wpList_valueG (o := ⟨some 117, _, _, _, _, _⟩) rfl _ (by exact exec_load16 _ _ rfl _ rfl D HDL.out (hra.on k10).cells) ?_)
          | (refine wpList_valueG (o := ⟨some 119, _, _, _, _, _⟩) rfl _ (by exact exec_load16 _ _ rfl _ rfl msg HM.out (hrm.on k10).cells) ?_)
          | (refine wpList_valueG (o := ⟨some 120, _, _, _, _, _⟩) rfl _ (by exact exec_load_sig _ _ rfl _ rfl _ _ _ r10.cells) ?_))
        have Bt := hbc.trans (k10.mono hbc.size)
        refine (HV HO _ _ _ _ _ (hCo.on Bt) (hC1.on k10) (hP1.on k10) hc1 hd1).out.mono ?_
        rintro e wl ⟨rfl, hbl⟩
        go_wp2_with fail
        go_ret
        exact ⟨rfl, Bt.trans (hbl.mono Bt.size)⟩
    · have HO : ¬ (0 ≤ odd ∧ odd < (M : Int)) := fun h => q1 h.1
      go_wp2_with (first
        | (refine wpList_valueG (o := ⟨some 56, _, _, _, _, _⟩) rfl _ (by exact exec_load1 _ 30 _ rfl ⟨g, 1, none⟩ rfl _ (hsr.cell (j := 1) rfl) _ Tryd.underlying30 rfl) ?_)
        | (refine wpList_valueG (o := ⟨some 60, _, _, _, _, _⟩) rfl _ (by exact exec_load_sig _ _ rfl _ rfl _ _ _ hsr.cells) ?_)
        | (with_reducible refine wpList_alloc_row (o := ⟨some 16, _, _, _, _, _⟩) rfl _ rfl sgz zero_sig ?_; intro w8 r8 s8 g8)
        | (with_reducible refine wpList_at ⟨none, .store _ (.tmp 16) _, _, _, _, _⟩ ?_; refine wpList_store_all rfl _ _ _ rfl wc.heap.size rfl _ _ r8 [.int .i64 (i : Int), .slice A1 68 c1, .slice B1 k d1] rfl (by simp [Value.oneCell']) rfl (sig_size _ _ _) ?_; intro w9 r9 g9; have k9 : Below wc.heap.size wc w9 := below_kept (grown_below g8 (Nat.le_refl _) (by simp)) g9 (Nat.le_of_lt s8) (by rintro q hq; cases hq; exact Nat.le_refl _); have s9 := hsr.on k9; clear r8 g8 g9)
        | (refine wpList_at ⟨none, .store 3 _ _, _, _, _, _⟩ ?_; refine wpList_store_elem rfl _ _ _ rfl wc.heap.size 0 rfl _ _ r9 (.int .i64 odd) rfl rfl (by simp) (by kernel_rfl) ?_; intro w10 r10' g10; have r10 : Row w10 wc.heap.size 32 [.int .i64 odd, .slice A1 68 c1, .slice B1 k d1] := r10'; have k10 := below_kept k9 g10 k9.size (by rintro q hq; cases hq; exact Nat.le_refl _))
        | (refine wpList_valueG (o := ⟨some 117, _, _, _, _, _⟩) rfl _ (by exact exec_load16 _ _ rfl _ rfl D HDL.out (hra.on k10).cells) ?_)
        | (refine wpList_valueG (o := ⟨some 119, _, _, _, _, _⟩) rfl _ (by exact exec_load16 _ _ rfl _ rfl msg HM.out (hrm.on k10).cells) ?_)
        | (refine wpList_valueG (o := ⟨some 120, _, _, _, _, _⟩) rfl _ (by exact exec_load_sig _ _ rfl _ rfl _ _ _ r10.cells) ?_))
      have Bt := hbc.trans (k10.mono hbc.size)
      refine (HV HO _ _ _ _ _ (hCo.on Bt) (hC1.on k10) (hP1.on k10) hc1 hd1).out.mono ?_
      rintro e wl ⟨rfl, hbl⟩
      go_wp2_with fail
      go_ret
      exact ⟨rfl, Bt.trans (hbl.mono Bt.size)⟩
end Go.Proofs.YtfmcgcdppbcfjaaDoor
