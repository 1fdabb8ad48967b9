/-
  TreesigSharesPaths' walk: each signature verifies under the root, with the one-time key of its index. Condition: the table of constants as laid.
-/
import Derived.Test.YtfmcgcdppbcfjaaDoorTown
namespace Go.Proofs.YtfmcgcdppbcfjaaDoor
open Go.RowKit

set_option maxRecDepth 100000 in
set_option maxHeartbeats 4000000 in
theorem walkT6 (seed msg : List UInt8) (hs : seed.length = 16) (hm : msg.length = 16) (a : Int) (_a1 : 0 ≤ a) (_a2 : a ≤ 255) (w : World) (hCo : Consts w) :
    Calls Tryd.prog 8 #[.agg (bvs seed).toArray, .int .u8 a, .agg (bvs msg).toArray] w (TellsB true w) := by
  have HS := Lib.hid hs
  have HM := Lib.hid hm
  obtain ⟨r, hr⟩ : ∃ r : Nat, a % 3 = (r : Int) := ⟨(a % 3).toNat, by omega⟩
  obtain ⟨k, hk1⟩ : ∃ k : Nat, 1 + (r : Int) = (k : Int) := ⟨r + 1, by omega⟩
  have hk4 : k ≤ 4 := by omega
  have hp := Nat.two_pow_pos k
  have h16 := two_le16 hk4
  have HMY := fun W => Lib.hid (refMany_two k hk4 W)
  have HRO := fun W hW => Lib.hid (troot_own seed hs k hk4 W hW)
  have HSO := fun (q : Nat) (hq : q < 2 ^ k) W hW => Lib.hid (tsign_own seed msg hs hm k q hk4 hq W hW)
  have HSA := fun W hW => Lib.hid (sanity5_any W hW)
  have HDL := Lib.hid (root_len (tKeys seed (2 ^ k)))
  have HRE := fun (q : Nat) A c W hW hr hc => Lib.hid (recover_any A c msg (wSign seed (q : Int) msg) W hW hm hr hc)
  have HPU := fun q : Nat => fun a b W hW => Lib.hid (public_any seed hs (q : Int) a b W hW)
  have HPL := fun q : Nat => Lib.hid (wPub_len seed (q : Int))
  have HV0 := fun (q : Nat) (hq : q < 2 ^ k) A B c d W hW hC hP hc hd => Lib.hid (tverify_any (root (tKeys seed (2 ^ k))) msg HDL.out hm (k : Int) (q : Int) (by omega) (by omega) (by omega) (by omega) A B 68 c k d (wSign seed (q : Int) msg) (mProof (tKeys seed (2 ^ k)) q) W hW hC hP hc hd (by omega) (by omega))
  have HTV := fun (q : Nat) (hq : q < 2 ^ k) => tVerify_two seed msg (k := k) (i := q) hk4 hq
  simp only [wKey_sign] at HRE
  have HVF : ∀ (q : Nat) (_ : q < 2 ^ k) A B c d W, Consts W → ReadsD W A 68 (wSign seed (q : Int) msg) → ReadsD W B k (mProof (tKeys seed (2 ^ k)) q) → 68 ≤ c → k ≤ d → Hid (Calls Tryd.prog 16 #[.agg (bvs (root (tKeys seed (2 ^ k)))).toArray, .int .i64 (k : Int), .agg (bvs msg).toArray, .agg #[.int .i64 (q : Int), .slice A 68 c, .slice B k d]] W (TellsB true W)) := fun q hq A B c d W hW hC hP hc hd => by
    have h := HV0 q hq A B c d W hW hC hP hc hd
    rw [HTV q hq] at h
    exact h
  clear HTV HV0 hs hm
  have HPP : ∀ q : Nat, ∃ P, P = mProof (tKeys seed (2 ^ k)) q := fun q => ⟨_, rfl⟩
  generalize root (tKeys seed (2 ^ k)) = D at *
  obtain ⟨fP, hfP⟩ : ∃ f : Nat → List (List UInt8), f = fun q => mProof (tKeys seed (2 ^ k)) q := ⟨_, rfl⟩
  obtain ⟨fC, hfC⟩ : ∃ f : Nat → List (List UInt8), f = fun q : Nat => wSign seed (q : Int) msg := ⟨_, rfl⟩
  obtain ⟨fK, hfK⟩ : ∃ f : Nat → List UInt8, f = fun q : Nat => wPub seed (q : Int) := ⟨_, rfl⟩
  have eP : ∀ q, mProof (tKeys seed (2 ^ k)) q = fP q := fun q => by rw [hfP]
  have eC : ∀ q : Nat, wSign seed (q : Int) msg = fC q := fun q => by rw [hfC]
  have eK : ∀ q : Nat, wPub seed (q : Int) = fK q := fun q => by rw [hfK]
  simp only [eP, eC] at HVF HSO
  simp only [eC, eK] at HRE
  simp only [eK] at HPU HPL
  clear eP eC eK hfP hfC hfK HPP
  generalize 2 ^ k = M at *
  go_enter Tryd.func8, Tryd.ntmps8
  go_wp2_with (first
    | (with_reducible refine wpList_box_row (o := ⟨some 3, _, _, _, _, _⟩) rfl _ _ rfl (bvs seed) rfl ?_; intro w1 hrow1 hs1 hg1)
    | (with_reducible refine wpList_box_row (o := ⟨some 5, _, _, _, _, _⟩) rfl _ _ rfl (bvs msg) rfl ?_; intro w2 hrow2 hs2 hg2))
  have sd_2 := hrow1.kept hg2 (by simp)
  have mg_2 := hrow2
  have B2 : Below w.heap.size w w2 := below_kept (grown_below hg1 (Nat.le_refl _) (by simp)) hg2 (by omega) (by simp)
  have K_2 := hCo.on B2
  clear hrow1 hrow2 hg1 hg2
  refine ((HSA _ K_2).out).mono ?_
  rintro e w3 ⟨rfl, h3⟩
  have B3 := B2.trans (h3.mono B2.size)
  have K_3 := K_2.on h3
  have sd_3 := sd_2.on h3
  have mg_3 := mg_2.on h3
  clear K_2 sd_2 mg_2
  go_wp2_with (refine wpList_valueG (o := ⟨some 22, _, _, _, _, _⟩) rfl _ (by exact exec_load16 _ _ rfl _ rfl seed HS.out sd_3.cells) ?_)
  refine ((HRO _ K_3).out).mono ?_
  rintro e w4 ⟨rfl, h4⟩
  have B4 := B3.trans (h4.mono B3.size)
  have K_4 := K_3.on h4
  have sd_4 := sd_3.on h4
  have mg_4 := mg_3.on h4
  clear K_3 sd_3 mg_3
  go_wp2_with (first
    | (with_reducible refine wpList_alloc_row (o := ⟨some 9, _, _, _, _, _⟩) rfl _ rfl zeros16 zero_b16 ?_; intro w5 r5 s5 g5)
    | (with_reducible refine wpList_at ⟨none, .store _ (.tmp 9) _, _, _, _, _⟩ ?_; refine wpList_store_all rfl _ _ _ rfl w4.heap.size rfl _ _ r5 (bvs D) rfl (bvs_one _) (b16_zeros _ HDL.out) (b16_size _ HDL.out) ?_; intro w6 rt_6 g6; have k6 : Below w4.heap.size w4 w6 := below_kept (grown_below g5 (Nat.le_refl _) (by simp)) g6 (Nat.le_of_lt s5) (by rintro q hq; cases hq; exact Nat.le_refl _)))
  have B6 := B4.trans (k6.mono B4.size)
  have K_6 := K_4.on k6
  have sd_6 := sd_4.on k6
  have mg_6 := mg_4.on k6
  clear K_4 sd_4 mg_4 r5 g5 g6
  have zsd := sd_6
  have zmg := mg_6
  have zrt := rt_6
  have zK := K_6
  go_loopg [11, 12, 13, 14, 15] M (fun g s11 s12 s13 s14 s15 wr => ∃ q : Nat, s11 = .int .i64 (q : Int) ∧ q ≤ M ∧ M ≤ g + q ∧ Below w6.heap.size w6 wr)
  case atStart => exact ⟨0, rfl, by omega, by omega, Below.refl _ _⟩
  case round =>
    obtain ⟨q, rfl, hq, hg, hbr⟩ := hrel
    have Br := B6.trans (hbr.mono B6.size)
    have K_r := zK.on hbr
    have sd_r := zsd.on hbr
    have mg_r := zmg.on hbr
    have rt_r := zrt.on hbr
    go_wp2_with fail
    refine (HMY _).out.mono ?_
    rintro e wr' ⟨rfl, hwr⟩
    obtain rfl : wr = wr' := hwr.symm
    by_cases hlt : q < M
    · have HS1 := HSO q hlt
      have HV1 := HVF q hlt
      have HR1 := HRE q
      have HP1 := fun W hW => HPU q (by omega) (by omega) W hW
      have HL1 := HPL q
      generalize fP q = P at *
      generalize fC q = C at *
      generalize fK q = V at *
      clear HSO HVF HRE HPU HPL
      go_wp2_with (first
        | (refine wpList_valueG (o := ⟨some 36, _, _, _, _, _⟩) rfl _ (by exact exec_load16 _ _ rfl _ rfl seed HS.out sd_r.cells) ?_)
        | (refine wpList_valueG (o := ⟨some 39, _, _, _, _, _⟩) rfl _ (by exact exec_load16 _ _ rfl _ rfl msg HM.out mg_r.cells) ?_))
      refine ((HS1 _ K_r).out).mono ?_
      rintro e w7 ⟨A1, c1, B1, d1, rfl, hC1, hP1, hc1, hd1, h7⟩
      have B7 := Br.trans (h7.mono Br.size)
      have D7 := hbr.trans (h7.mono hbr.size)
      have K_7 := K_r.on h7
      have sd_7 := sd_r.on h7
      have mg_7 := mg_r.on h7
      have rt_7 := rt_r.on h7
      clear K_r sd_r mg_r rt_r
      go_wp2_with (first
        | (with_reducible refine wpList_alloc_row (o := ⟨some 12, _, _, _, _, _⟩) rfl _ rfl sgz zero_sig ?_; intro w8 r8 s8 g8)
        | (with_reducible refine wpList_at ⟨none, .store _ (.tmp 12) _, _, _, _, _⟩ ?_; refine wpList_store_all rfl _ _ _ rfl w7.heap.size rfl _ _ r8 [.int .i64 (q : Int), .slice A1 68 c1, .slice B1 k d1] rfl (by simp [Value.oneCell']) rfl (sig_size _ _ _) ?_; intro w9 x_9 g9; have k9 : Below w7.heap.size w7 w9 := below_kept (grown_below g8 (Nat.le_refl _) (by simp)) g9 (Nat.le_of_lt s8) (by rintro q hq; cases hq; exact Nat.le_refl _); have B9 := B7.trans (k9.mono B7.size); have D9 := D7.trans (k9.mono D7.size); have K_9 := K_7.on k9; have sd_9 := sd_7.on k9; have mg_9 := mg_7.on k9; have rt_9 := rt_7.on k9; have C_9 := hC1.on k9; have P_9 := hP1.on k9; clear K_7 sd_7 mg_7 rt_7 hC1 hP1; clear r8 g8 g9)
        | (refine wpList_valueG (o := ⟨some 44, _, _, _, _, _⟩) rfl _ (by exact exec_load16 _ _ rfl _ rfl msg HM.out mg_9.cells) ?_)
        | (refine wpList_valueG (o := ⟨some 46, _, _, _, _, _⟩) rfl _ (by exact exec_load1 _ 30 _ rfl ⟨w7.heap.size, 1, none⟩ rfl _ (x_9.cell (j := 1) rfl) _ Tryd.underlying30 rfl) ?_))
      refine ((HR1 _ _ _ K_9 C_9 hc1).out).mono ?_
      rintro e w10 ⟨rfl, h10⟩
      have B10 := B9.trans (h10.mono B9.size)
      have D10 := D9.trans (h10.mono D9.size)
      have K_10 := K_9.on h10
      have sd_10 := sd_9.on h10
      have mg_10 := mg_9.on h10
      have rt_10 := rt_9.on h10
      have C_10 := C_9.on h10
      have P_10 := P_9.on h10
      have x_10 := x_9.on h10
      clear K_9 sd_9 mg_9 rt_9 C_9 P_9 x_9
      go_wp2_with (first
        | (with_reducible refine wpList_alloc_row (o := ⟨some 14, _, _, _, _, _⟩) rfl _ rfl zeros16 zero_b16 ?_; intro w11 r11 s11 g11)
        | (with_reducible refine wpList_at ⟨none, .store _ (.tmp 14) _, _, _, _, _⟩ ?_; refine wpList_store_all rfl _ _ _ rfl w10.heap.size rfl _ _ r11 (bvs V) rfl (bvs_one _) (b16_zeros _ HL1.out) (b16_size _ HL1.out) ?_; intro w12 ky_12 g12; have k12 : Below w10.heap.size w10 w12 := below_kept (grown_below g11 (Nat.le_refl _) (by simp)) g12 (Nat.le_of_lt s11) (by rintro q hq; cases hq; exact Nat.le_refl _)))
      have B12 := B10.trans (k12.mono B10.size)
      have D12 := D10.trans (k12.mono D10.size)
      have K_12 := K_10.on k12
      have sd_12 := sd_10.on k12
      have mg_12 := mg_10.on k12
      have rt_12 := rt_10.on k12
      have C_12 := C_10.on k12
      have P_12 := P_10.on k12
      have x_12 := x_10.on k12
      clear K_10 sd_10 mg_10 rt_10 C_10 P_10 x_10 r11 g11 g12
      refine wp_region_plan (fun w' => Row w' w.heap.size 23 (bvs seed) ∧ Row w' w1.heap.size 23 (bvs msg) ∧ Row w' w4.heap.size 23 (bvs D) ∧ Row w' w7.heap.size 32 [.int .i64 (q : Int), .slice A1 68 c1, .slice B1 k d1] ∧ Row w' w10.heap.size 23 (bvs V)) (.take 0 <| .take 1 <| .take 2 <| .take 3 <| .take 4 <| .take 5 <| .take 6 <| .take 7 <| .take 8 <| .take 9 <| .one 10 <| .take 11 <| .take 12 <| .take 13 <| .take 14 <| .take 15 <| .take 16 <| .take 17 <| .one 18 <| .take 19 <| .take 20 <| .done) (by kernel_rfl) (by kernel_rfl) (by kernel_rfl) (fun _ _ _ _ _ h => h) ⟨sd_12.drew, mg_12.drew, rt_12.drew, x_12.drew, ky_12.drew⟩ ?_
      repeat (refine plan_take _ rfl ?_; (first | (refine wpQuiet_valueG (o := ⟨some 57, _, _, _, _, _⟩) rfl _ (by intro _ h; exact exec_load16 _ _ rfl _ rfl V HL1.out h.2.2.2.2.cells) (wpQuiet_nil ?_); simp only [Act.put, List.setIfInBounds_toArray, List.set_cons_zero, List.set_cons_succ]) | (refine wpQuiet_valueG (o := ⟨some 58, _, _, _, _, _⟩) rfl _ (by intro _ h; exact exec_load16 _ _ rfl _ rfl seed HS.out h.1.cells) (wpQuiet_nil ?_); simp only [Act.put, List.setIfInBounds_toArray, List.set_cons_zero, List.set_cons_succ]) | (refine wpQuiet_valueG (o := ⟨some 61, _, _, _, _, _⟩) rfl (.bool false) (by intro _ h; rw [show (false : Bool) = !(V == V) by simp]; exact exec_neq16 _ _ _ rfl V V HL1.out HL1.out rfl rfl) (wpQuiet_nil ?_); simp only [Act.put, List.setIfInBounds_toArray, List.set_cons_zero, List.set_cons_succ]) | (refine wpQuiet_valueG (o := ⟨some 64, _, _, _, _, _⟩) rfl _ (by intro _ h; exact exec_load16 _ _ rfl _ rfl D HDL.out h.2.2.1.cells) (wpQuiet_nil ?_); simp only [Act.put, List.setIfInBounds_toArray, List.set_cons_zero, List.set_cons_succ]) | (refine wpQuiet_valueG (o := ⟨some 66, _, _, _, _, _⟩) rfl _ (by intro _ h; exact exec_load16 _ _ rfl _ rfl msg HM.out h.2.1.cells) (wpQuiet_nil ?_); simp only [Act.put, List.setIfInBounds_toArray, List.set_cons_zero, List.set_cons_succ]) | (refine wpQuiet_valueG (o := ⟨some 67, _, _, _, _, _⟩) rfl _ (by intro _ h; exact exec_load_sig _ _ rfl _ rfl _ _ _ h.2.2.2.1.cells) (wpQuiet_nil ?_); simp only [Act.put, List.setIfInBounds_toArray, List.set_cons_zero, List.set_cons_succ]) | (go_big_quiet_step ((intros; rfl)); refine wpQuiet_nil ?_)))
      refine plan_one _ rfl fun K hK => ?_
      go_simp
      refine ((HP1 _ (K_12.on (Below.refl _ _).drew)).out).mono ?_
      rintro e w13 ⟨rfl, h13⟩
      have k13 : Below w12.heap.size w12 w13 := (Below.refl _ w12).drew.trans h13
      have B13 := B12.trans (k13.mono B12.size)
      have D13 := D12.trans (k13.mono D12.size)
      have K_13 := K_12.on k13
      have sd_13 := sd_12.on k13
      have mg_13 := mg_12.on k13
      have rt_13 := rt_12.on k13
      have C_13 := C_12.on k13
      have P_13 := P_12.on k13
      have x_13 := x_12.on k13
      have ky_13 := ky_12.on k13
      refine hK _ _ ⟨sd_13, mg_13, rt_13, x_13, ky_13⟩ ?_
      clear hK K K_12 sd_12 mg_12 rt_12 C_12 P_12 x_12 ky_12
      repeat (refine plan_take _ rfl ?_; (first | (refine wpQuiet_valueG (o := ⟨some 57, _, _, _, _, _⟩) rfl _ (by intro _ h; exact exec_load16 _ _ rfl _ rfl V HL1.out h.2.2.2.2.cells) (wpQuiet_nil ?_); simp only [Act.put, List.setIfInBounds_toArray, List.set_cons_zero, List.set_cons_succ]) | (refine wpQuiet_valueG (o := ⟨some 58, _, _, _, _, _⟩) rfl _ (by intro _ h; exact exec_load16 _ _ rfl _ rfl seed HS.out h.1.cells) (wpQuiet_nil ?_); simp only [Act.put, List.setIfInBounds_toArray, List.set_cons_zero, List.set_cons_succ]) | (refine wpQuiet_valueG (o := ⟨some 61, _, _, _, _, _⟩) rfl (.bool false) (by intro _ h; rw [show (false : Bool) = !(V == V) by simp]; exact exec_neq16 _ _ _ rfl V V HL1.out HL1.out rfl rfl) (wpQuiet_nil ?_); simp only [Act.put, List.setIfInBounds_toArray, List.set_cons_zero, List.set_cons_succ]) | (refine wpQuiet_valueG (o := ⟨some 64, _, _, _, _, _⟩) rfl _ (by intro _ h; exact exec_load16 _ _ rfl _ rfl D HDL.out h.2.2.1.cells) (wpQuiet_nil ?_); simp only [Act.put, List.setIfInBounds_toArray, List.set_cons_zero, List.set_cons_succ]) | (refine wpQuiet_valueG (o := ⟨some 66, _, _, _, _, _⟩) rfl _ (by intro _ h; exact exec_load16 _ _ rfl _ rfl msg HM.out h.2.1.cells) (wpQuiet_nil ?_); simp only [Act.put, List.setIfInBounds_toArray, List.set_cons_zero, List.set_cons_succ]) | (refine wpQuiet_valueG (o := ⟨some 67, _, _, _, _, _⟩) rfl _ (by intro _ h; exact exec_load_sig _ _ rfl _ rfl _ _ _ h.2.2.2.1.cells) (wpQuiet_nil ?_); simp only [Act.put, List.setIfInBounds_toArray, List.set_cons_zero, List.set_cons_succ]) | (go_big_quiet_step ((intros; rfl)); refine wpQuiet_nil ?_)))
      refine plan_one _ rfl fun K hK => ?_
      go_simp
      refine ((HV1 _ _ _ _ _ K_13 C_13 P_13 hc1 hd1).out).mono ?_
      rintro e w14 ⟨rfl, k14⟩
      refine hK _ _ ⟨sd_13.on k14, mg_13.on k14, rt_13.on k14, x_13.on k14, ky_13.on k14⟩ ?_
      clear hK K
      repeat (refine plan_take _ rfl ?_; (first | (refine wpQuiet_valueG (o := ⟨some 57, _, _, _, _, _⟩) rfl _ (by intro _ h; exact exec_load16 _ _ rfl _ rfl V HL1.out h.2.2.2.2.cells) (wpQuiet_nil ?_); simp only [Act.put, List.setIfInBounds_toArray, List.set_cons_zero, List.set_cons_succ]) | (refine wpQuiet_valueG (o := ⟨some 58, _, _, _, _, _⟩) rfl _ (by intro _ h; exact exec_load16 _ _ rfl _ rfl seed HS.out h.1.cells) (wpQuiet_nil ?_); simp only [Act.put, List.setIfInBounds_toArray, List.set_cons_zero, List.set_cons_succ]) | (refine wpQuiet_valueG (o := ⟨some 61, _, _, _, _, _⟩) rfl (.bool false) (by intro _ h; rw [show (false : Bool) = !(V == V) by simp]; exact exec_neq16 _ _ _ rfl V V HL1.out HL1.out rfl rfl) (wpQuiet_nil ?_); simp only [Act.put, List.setIfInBounds_toArray, List.set_cons_zero, List.set_cons_succ]) | (refine wpQuiet_valueG (o := ⟨some 64, _, _, _, _, _⟩) rfl _ (by intro _ h; exact exec_load16 _ _ rfl _ rfl D HDL.out h.2.2.1.cells) (wpQuiet_nil ?_); simp only [Act.put, List.setIfInBounds_toArray, List.set_cons_zero, List.set_cons_succ]) | (refine wpQuiet_valueG (o := ⟨some 66, _, _, _, _, _⟩) rfl _ (by intro _ h; exact exec_load16 _ _ rfl _ rfl msg HM.out h.2.1.cells) (wpQuiet_nil ?_); simp only [Act.put, List.setIfInBounds_toArray, List.set_cons_zero, List.set_cons_succ]) | (refine wpQuiet_valueG (o := ⟨some 67, _, _, _, _, _⟩) rfl _ (by intro _ h; exact exec_load_sig _ _ rfl _ rfl _ _ _ h.2.2.2.1.cells) (wpQuiet_nil ?_); simp only [Act.put, List.setIfInBounds_toArray, List.set_cons_zero, List.set_cons_succ]) | (go_big_quiet_step ((intros; rfl)); refine wpQuiet_nil ?_)))
      refine plan_done ?_
      go_wp2_with fail
      go_roundg (gk - 1)
      case measure => omega
      case rel => exact ⟨q + 1, by go_num, by omega, by omega, D13.trans (k14.mono D13.size)⟩
    · obtain rfl : q = M := by omega
      go_wp2_with fail
      go_ret
      exact ⟨rfl, Br⟩
end Go.Proofs.YtfmcgcdppbcfjaaDoor
