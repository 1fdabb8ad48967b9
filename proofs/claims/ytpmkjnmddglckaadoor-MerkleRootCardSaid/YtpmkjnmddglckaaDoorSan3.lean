/-
  What the chapter's examples come to, and what the law's sanity returns: a contract by a walk. Condition: the table of constants as laid.
-/
import Derived.Test.YtpmkjnmddglckaaDoorMerk
import Derived.Test.YtpmkjnmddglckaaDoorBuild3
namespace Go.Proofs.YtpmkjnmddglckaaDoor
open Go.RowKit

def dA : List UInt8 := 1 :: List.replicate 15 0
def dB : List UInt8 := 2 :: List.replicate 15 0
def dC : List UInt8 := 3 :: List.replicate 15 0
def dL : List UInt8 := mNode (mLeaf dA) (mLeaf dB)
def dR : List UInt8 := mNode dL (mLeaf dC)
theorem dL_len : dL.length = 16 := mNode_len _ _
theorem dR_len : dR.length = 16 := mNode_len _ _
theorem split2 : split 2 = 1 := by decide +kernel
theorem split3 : split 3 = 2 := by decide +kernel
theorem root_ab : root [dA, dB] = dL := by
  rw [root_more (by simp)]
  show mNode (root (List.take (split 2) [dA, dB])) (root (List.drop (split 2) [dA, dB])) = _
  rw [split2]
  simp only [List.take_succ_cons, List.take_zero, List.drop_succ_cons, List.drop_zero, root_one]
  rfl
theorem root_abc : root [dA, dB, dC] = dR := by
  rw [root_more (by simp)]
  show mNode (root (List.take (split 3) [dA, dB, dC])) (root (List.drop (split 3) [dA, dB, dC])) = _
  rw [split3]
  simp only [List.take_succ_cons, List.take_zero, List.drop_succ_cons, List.drop_zero, root_one, root_ab]
  rfl
theorem proof_abc : mProof [dA, dB, dC] 2 = [dL] := by
  unfold mProof
  rw [proveR_right (by simp) (show ¬ 2 < split [dA, dB, dC].length by show ¬ 2 < split 3; rw [split3]; omega)]
  show (root (List.take (split 3) [dA, dB, dC]) :: proveR (List.drop (split 3) [dA, dB, dC]) (2 - split 3)).reverse = _
  rw [split3]
  simp only [List.take_succ_cons, List.take_zero, List.drop_succ_cons, List.drop_zero, root_ab]
  rw [proveR_less (by simp)]
  rfl
theorem comb_c (leaf : List UInt8) : combL leaf [dL] 3 2 = (mNode dL (mLeaf leaf), true) := by
  rw [combL_right leaf (q := 0) (s := dL) (by omega) rfl rfl (by rw [split3]; omega), split3]
  simp only [List.take_zero]
  rw [combL_one]
  rfl
theorem ver_c : mVerify dR dC [dL] 3 2 = true := by
  unfold mVerify
  rw [comb_c]
  show (true && mNode dL (mLeaf dC) == dR) = true
  simp [dR]
theorem ne_ac : mNode dL (mLeaf dA) ≠ dR := by decide +kernel
theorem ver_a : mVerify dR dA [dL] 3 2 = false := by
  unfold mVerify
  rw [comb_c]
  show (true && mNode dL (mLeaf dA) == dR) = false
  simp [ne_ac]
theorem ver_1 : mVerify dR dC [dL] 3 1 = false := by
  unfold mVerify
  rw [combL_left dC (q := 0) (s := dL) (by omega) rfl rfl (by rw [split3]; omega), split3, List.take_zero, combL_nil dC (by omega)]
  rfl
set_option maxRecDepth 100000 in
set_option maxHeartbeats 1000000 in
theorem one_any (d : List UInt8) (hd : d.length = 16) (w : World) (hK : Consts w) : Calls Tryd.prog 20 #[.agg (bvs d).toArray] w fun e w' =>
    ∃ g, e = .returned (.slice (some ⟨g, 0, none⟩) 16 16) ∧ Row w' g 28 (bvs (mLeaf d)) ∧ Below w.heap.size w w' := by
  have HD := Lib.hid hd
  have HL := Lib.hid (mLeaf_len d)
  have HH : ∀ A c, Hid (dig 1 [⟨A, 16, c, d⟩] = mLeaf d) := fun _ _ => rfl
  clear hd
  generalize mLeaf d = D at *
  go_enter Tryd.func20, Tryd.ntmps20
  go_wp2_with (with_reducible refine wpList_box_row (o := ⟨some 1, _, _, _, _, _⟩) rfl _ _ rfl (bvs d) rfl ?_; intro w1 hrow1 hs1 hg1)
  have hb1 : Below w.heap.size w w1 := grown_below hg1 (Nat.le_refl _) (by simp)
  have hrp := readsP_one w1 39 (some ⟨w.heap.size, 0, none⟩) 16 16 d (hrow1.reads16 HD.out) (Nat.le_refl _)
  have hb1a : Below w.heap.size w (w1.alloc (.cells #[.slice (some ⟨w.heap.size, 0, none⟩) 16 16] 39)) := hb1.alloc hb1.size _
  refine (digest_any 1 _ _ _ _ _ (hK.on hb1a) hrp (by omega) (parts_one_le _ 300 (show 16 ≤ 300 by omega))).mono ?_
  rintro e w3 ⟨rfl, hb3⟩
  rw [(HH _ _).out]
  have hb3' := hb1a.trans (hb3.mono hb1a.size)
  go_wp2_with (first
    | (with_reducible refine wpList_alloc_row (o := ⟨some 3, _, _, _, _, _⟩) rfl _ rfl zeros16 zero_b16 ?_; intro w4 hrow4 hs4 hg4)
    | (with_reducible refine wpList_store_all (o := ⟨none, _, _, _, _, _⟩) rfl _ _ _ rfl w3.heap.size rfl _ _ hrow4 (bvs D) rfl (bvs_one _) (b16_zeros _ HL.out) (b16_size _ HL.out) ?_; intro wz hrowz hgz))
  go_ret
  exact ⟨w3.heap.size, rfl, hrowz, below_kept (below_kept hb3' hg4 hb3'.size (by simp)) hgz (by have := hb3'.size; omega) (by rintro k hk; cases hk; exact hb3'.size)⟩

theorem readsD_new (w : World) (t : TypeId) (n : Nat) (ds : List (List UInt8)) (h16 : Len16 ds) (hn : ds.length = n) (cs : List Value) (hcs : cs = bvs ds.flatten) :
    ReadsD (w.alloc (.cells cs.toArray t)) (some ⟨w.heap.size, 0, none⟩) n ds := by
  subst hcs
  exact ⟨(row_alloc w t _).reads (by rw [bvs_length, flatten_len ds h16, hn]), h16⟩
theorem len16_1 {a : List UInt8} (ha : a.length = 16) : Len16 [a] := fun d hd => by
  simp only [List.mem_cons, List.not_mem_nil, or_false] at hd
  subst hd; exact ha
theorem len16_3 {a b c : List UInt8} (ha : a.length = 16) (hb : b.length = 16) (hc : c.length = 16) : Len16 [a, b, c] := fun d hd => by
  simp only [List.mem_cons, List.not_mem_nil, or_false] at hd
  rcases hd with rfl | rfl | rfl
  · exact ha
  · exact hb
  · exact hc
theorem flat3 (a b c : List UInt8) : bvs a ++ (bvs b ++ bvs c) = bvs [a, b, c].flatten := by simp [bvs]
theorem flat1 (a : List UInt8) : bvs a = bvs [a].flatten := by simp [bvs]
set_option maxRecDepth 100000 in
set_option maxHeartbeats 4000000 in
theorem sanity_any (w : World) (hCo : Consts w) : Calls Tryd.prog 9 #[] w (TellsB true w) := by
  have HA : Hid (dA.length = 16) := rfl
  have HB : Hid (dB.length = 16) := rfl
  have HC : Hid (dC.length = 16) := rfl
  have hA0 : (#[.int .u8 1, .int .u8 0, .int .u8 0, .int .u8 0, .int .u8 0, .int .u8 0, .int .u8 0, .int .u8 0, .int .u8 0, .int .u8 0, .int .u8 0, .int .u8 0, .int .u8 0, .int .u8 0, .int .u8 0, .int .u8 0] : Array Value) = (bvs dA).toArray := rfl
  have hB0 : (#[.int .u8 2, .int .u8 0, .int .u8 0, .int .u8 0, .int .u8 0, .int .u8 0, .int .u8 0, .int .u8 0, .int .u8 0, .int .u8 0, .int .u8 0, .int .u8 0, .int .u8 0, .int .u8 0, .int .u8 0, .int .u8 0] : Array Value) = (bvs dB).toArray := rfl
  have hC0 : (#[.int .u8 3, .int .u8 0, .int .u8 0, .int .u8 0, .int .u8 0, .int .u8 0, .int .u8 0, .int .u8 0, .int .u8 0, .int .u8 0, .int .u8 0, .int .u8 0, .int .u8 0, .int .u8 0, .int .u8 0, .int .u8 0] : Array Value) = (bvs dC).toArray := rfl
  go_enter Tryd.func9, Tryd.ntmps9
  go_wp2_with (first
    | (with_reducible refine wpList_alloc_row (o := ⟨some 1, _, _, _, _, _⟩) rfl _ rfl zeros16 zero_b16 ?_; intro w1 hr1 hs1 hg1)
    | (with_reducible refine wpList_at ⟨none, .store _ (.tmp 1) _, _, _, _, _⟩ ?_; refine wpList_store_all rfl _ _ _ rfl w.heap.size rfl _ _ hr1 (bvs dA) rfl (bvs_one _) (b16_zeros _ HA.out) (b16_size _ HA.out) ?_; intro w2 hr2 hg2)
    | (with_reducible refine wpList_alloc_row (o := ⟨some 2, _, _, _, _, _⟩) rfl _ rfl zeros16 zero_b16 ?_; intro w3 hr3 hs3 hg3)
    | (with_reducible refine wpList_at ⟨none, .store _ (.tmp 2) _, _, _, _, _⟩ ?_; refine wpList_store_all rfl _ _ _ rfl w2.heap.size rfl _ _ hr3 (bvs dB) rfl (bvs_one _) (b16_zeros _ HB.out) (b16_size _ HB.out) ?_; intro w4 hr4 hg4)
    | (with_reducible refine wpList_alloc_row (o := ⟨some 3, _, _, _, _, _⟩) rfl _ rfl zeros16 zero_b16 ?_; intro w5 hr5 hs5 hg5)
    | (with_reducible refine wpList_at ⟨none, .store _ (.tmp 3) _, _, _, _, _⟩ ?_; refine wpList_store_all rfl _ _ _ rfl w4.heap.size rfl _ _ hr5 (bvs dC) rfl (bvs_one _) (b16_zeros _ HC.out) (b16_size _ HC.out) ?_; intro w6 hr6 hg6))
  have z2 := hr2.lt
  have z4 := hr4.lt
  have ra := (((hr2.kept hg3 (by simp)).kept hg4 (by simp; omega)).kept hg5 (by simp)).kept hg6 (by simp; omega)
  have rb := (hr4.kept hg5 (by simp)).kept hg6 (by simp; omega)
  have rc := hr6
  have b2 : Below w.heap.size w w2 := below_kept (grown_below hg1 (Nat.le_refl _) (by simp)) hg2 (by omega) (by rintro k hk; cases hk; exact Nat.le_refl _)
  have b4 := below_kept (below_kept b2 hg3 b2.size (by simp)) hg4 (by have := b2.size; omega) (by rintro k hk; cases hk; exact b2.size)
  have b6 := below_kept (below_kept b4 hg5 b4.size (by simp)) hg6 (by have := b4.size; omega) (by rintro k hk; cases hk; exact b4.size)
  clear hr1 hr2 hr3 hr4 hr5 hr6 hg1 hg2 hg3 hg4 hg5 hg6 hs1 hs3 hs5
  have HH1 : ∀ A c B b, Hid (dig 2 [⟨A, 16, c, mLeaf dA⟩, ⟨B, 16, b, mLeaf dB⟩] = dL) := fun _ _ _ _ => rfl
  have HL := Lib.hid dL_len
  clear hA0 hB0 hC0
  simp only [Act.put, List.setIfInBounds_toArray, List.set_cons_zero, List.set_cons_succ]
  go_cut [4] (fun s4 wc => ∃ g, s4 = .pointer (some ⟨g, 0, none⟩) ∧ Row wc g 28 (bvs dL) ∧ Row wc w.heap.size 28 (bvs dA) ∧ Row wc w2.heap.size 28 (bvs dB) ∧ Row wc w4.heap.size 28 (bvs dC) ∧ Below w.heap.size w wc)
  case first =>
    have zd : w6.drew.heap.size = w6.heap.size := rfl
    refine wp_region_plan (fun w' => Row w' w.heap.size 28 (bvs dA) ∧ Row w' w2.heap.size 28 (bvs dB)) (.take 0 <| .take 2 <| .two 1 (.two 3 (.two 4 (.two 5 (.one 6 <| .one 7 <| .done) 6 (.one 5 <| .one 7 <| .done)) 6 (.one 4 <| .one 5 <| .one 7 <| .done)) 6 (.one 3 <| .one 4 <| .one 5 <| .one 7 <| .done)) 6 (.one 1 <| .one 3 <| .one 4 <| .one 5 <| .one 7 <| .done)) (by kernel_rfl) (by kernel_rfl) (by kernel_rfl) (fun _ _ _ _ _ h => h) ⟨ra.drew, rb.drew⟩ ?_
    repeat (refine plan_take _ rfl ?_; (first | (refine wpQuiet_valueG (o := ⟨some 13, _, _, _, _, _⟩) rfl _ (by intro _ h; exact exec_load16 _ _ rfl _ rfl dA HA.out h.1.cells) (wpQuiet_nil ?_); simp only [Act.put, List.setIfInBounds_toArray, List.set_cons_zero, List.set_cons_succ]) | (refine wpQuiet_valueG (o := ⟨some 15, _, _, _, _, _⟩) rfl _ (by intro _ h; exact exec_load16 _ _ rfl _ rfl dB HB.out h.2.cells) (wpQuiet_nil ?_); simp only [Act.put, List.setIfInBounds_toArray, List.set_cons_zero, List.set_cons_succ]) | (go_big_quiet_step ((intros; rfl)); refine wpQuiet_nil ?_)))
    refine plan_two ?_ ?_
    · refine step_at _ rfl fun K hK => ?_
      go_simp
      refine (one_any dA HA.out _ (hCo.on b6.drew)).mono ?_
      rintro e wx1 ⟨gx1, rfl, rx1, hx1⟩
      have Bx2 := b6.drew.trans (hx1.mono b6.drew.size)
      have rax2 := ra.drew.on hx1
      have rbx2 := rb.drew.on hx1
      have rcx2 := rc.drew.on hx1
      have Kx2 := (hCo.on b6.drew).on hx1
      refine hK _ _ ⟨rax2, rbx2⟩ ?_
      clear hK K
      refine plan_two ?_ ?_
      · refine step_at _ rfl fun K hK => ?_
        go_simp
        refine (one_any dB HB.out _ Kx2).mono ?_
        rintro e wx3 ⟨gx3, rfl, rx3, hx3⟩
        have Bx4 := Bx2.trans (hx3.mono Bx2.size)
        have rax4 := rax2.on hx3
        have rbx4 := rbx2.on hx3
        have rcx4 := rcx2.on hx3
        have Kx4 := Kx2.on hx3
        have lax4 := rx1.on hx3
        refine hK _ _ ⟨rax4, rbx4⟩ ?_
        clear hK K
        refine plan_two ?_ ?_
        · refine step_at _ rfl fun K hK => ?_
          go_simp
          have Px5 := readsP_two wx3 39 (some ⟨gx1, 0, none⟩) (some ⟨gx3, 0, none⟩) 16 16 16 16 _ _ (lax4.reads16 (mLeaf_len _)) (Nat.le_refl _) (rx3.reads16 (mLeaf_len _)) (Nat.le_refl _)
          have hx5 : Below wx3.heap.size wx3 (wx3.alloc (.cells #[.slice (some ⟨gx1, 0, none⟩) 16 16, .slice (some ⟨gx3, 0, none⟩) 16 16] 39)) := (Below.refl _ _).alloc (Nat.le_refl _) _
          generalize wx3.alloc (.cells #[.slice (some ⟨gx1, 0, none⟩) 16 16, .slice (some ⟨gx3, 0, none⟩) 16 16] 39) = wx5 at *
          have Bx6 := Bx4.trans (hx5.mono Bx4.size)
          have rax6 := rax4.on hx5
          have rbx6 := rbx4.on hx5
          have rcx6 := rcx4.on hx5
          have Kx6 := Kx4.on hx5
          have lax6 := lax4.on hx5
          have lbx6 := rx3.on hx5
          refine hK _ _ ⟨rax6, rbx6⟩ ?_
          clear hK K
          refine plan_two ?_ ?_
          · refine step_at _ rfl fun K hK => ?_
            go_simp
            refine (digest_any 2 _ _ _ _ _ Kx6 Px5 (by omega) (parts_two_le _ _ 300 (show 16 ≤ 300 by omega) (show 16 ≤ 300 by omega))).mono ?_
            rintro e wx7 ⟨rfl, hx7⟩
            rw [(HH1 _ _ _ _).out]
            have Bx8 := Bx6.trans (hx7.mono Bx6.size)
            have rax8 := rax6.on hx7
            have rbx8 := rbx6.on hx7
            have rcx8 := rcx6.on hx7
            have Kx8 := Kx6.on hx7
            have lax8 := lax6.on hx7
            have lbx8 := lbx6.on hx7
            have Px8 := Px5.on hx7
            refine hK _ _ ⟨rax8, rbx8⟩ ?_
            clear hK K
            refine plan_one _ rfl fun K hK => ?_
            refine step_alloc rfl _ rfl zeros16 zero_b16 ?_
            intro wx9 rx9 sx9 kx9
            have hx9 : Below wx7.heap.size wx7 wx9 := grown_below kx9 (Nat.le_refl _) (by simp)
            have zrax9 := rax8.lt
            have zrbx9 := rbx8.lt
            have zrcx9 := rcx8.lt
            have zzx9 := Bx8.size
            have Bx10 := Bx8.trans (hx9.mono Bx8.size)
            have rax10 := rax8.on hx9
            have rbx10 := rbx8.on hx9
            have rcx10 := rcx8.on hx9
            have Kx10 := Kx8.on hx9
            have lax10 := lax8.on hx9
            have lbx10 := lbx8.on hx9
            have Px10 := Px8.on hx9
            refine hK _ _ ⟨rax10, rbx10⟩ ?_
            clear hK K
            simp only [Act.put, List.setIfInBounds_toArray, List.set_cons_zero, List.set_cons_succ]
            refine plan_one _ rfl fun K hK => ?_
            refine step_store_all rfl _ _ _ rfl wx7.heap.size rfl _ _ rx9 (bvs dL) rfl (bvs_one _) (b16_zeros _ HL.out) (b16_size _ HL.out) ?_
            intro wx11 rx11 kx11
            have Bx11 := below_kept Bx10 kx11 Bx10.size (by rintro k hk; cases hk; exact zzx9)
            have rax11 := rax10.kept kx11 (by simp; omega)
            have rbx11 := rbx10.kept kx11 (by simp; omega)
            have rcx11 := rcx10.kept kx11 (by simp; omega)
            refine hK _ _ ⟨rax11, rbx11⟩ ?_
            clear hK K
            simp only [Act.put]
            refine plan_done ?_
            go_wp2_with fail
            go_meet
            exact ⟨_, rfl, rx11, rax11, rbx11, rcx11, Bx11⟩
          · refine step_at _ rfl fun K hK => ?_
            refine step_alloc rfl _ rfl zeros16 zero_b16 ?_
            intro wx12 rx12 sx12 kx12
            have hx12 : Below wx5.heap.size wx5 wx12 := grown_below kx12 (Nat.le_refl _) (by simp)
            have zrax12 := rax6.lt
            have zrbx12 := rbx6.lt
            have zrcx12 := rcx6.lt
            have zzx12 := Bx6.size
            have Bx13 := Bx6.trans (hx12.mono Bx6.size)
            have rax13 := rax6.on hx12
            have rbx13 := rbx6.on hx12
            have rcx13 := rcx6.on hx12
            have Kx13 := Kx6.on hx12
            have lax13 := lax6.on hx12
            have lbx13 := lbx6.on hx12
            have Px13 := Px5.on hx12
            refine hK _ _ ⟨rax13, rbx13⟩ ?_
            clear hK K
            simp only [Act.put, List.setIfInBounds_toArray, List.set_cons_zero, List.set_cons_succ]
            refine plan_one _ rfl fun K hK => ?_
            go_simp
            refine (digest_any 2 _ _ _ _ _ Kx13 Px13 (by omega) (parts_two_le _ _ 300 (show 16 ≤ 300 by omega) (show 16 ≤ 300 by omega))).mono ?_
            rintro e wx14 ⟨rfl, hx14⟩
            rw [(HH1 _ _ _ _).out]
            have Bx15 := Bx13.trans (hx14.mono Bx13.size)
            have rax15 := rax13.on hx14
            have rbx15 := rbx13.on hx14
            have rcx15 := rcx13.on hx14
            have Kx15 := Kx13.on hx14
            have lax15 := lax13.on hx14
            have lbx15 := lbx13.on hx14
            have Px15 := Px13.on hx14
            have r6x15 := rx12.on hx14
            refine hK _ _ ⟨rax15, rbx15⟩ ?_
            clear hK K
            refine plan_one _ rfl fun K hK => ?_
            refine step_store_all rfl _ _ _ rfl wx5.heap.size rfl _ _ r6x15 (bvs dL) rfl (bvs_one _) (b16_zeros _ HL.out) (b16_size _ HL.out) ?_
            intro wx16 rx16 kx16
            have Bx16 := below_kept Bx15 kx16 Bx15.size (by rintro k hk; cases hk; exact zzx12)
            have rax16 := rax15.kept kx16 (by simp; omega)
            have rbx16 := rbx15.kept kx16 (by simp; omega)
            have rcx16 := rcx15.kept kx16 (by simp; omega)
            refine hK _ _ ⟨rax16, rbx16⟩ ?_
            clear hK K
            simp only [Act.put]
            refine plan_done ?_
            go_wp2_with fail
            go_meet
            exact ⟨_, rfl, rx16, rax16, rbx16, rcx16, Bx16⟩
        · refine step_at _ rfl fun K hK => ?_
          refine step_alloc rfl _ rfl zeros16 zero_b16 ?_
          intro wx17 rx17 sx17 kx17
          have hx17 : Below wx3.heap.size wx3 wx17 := grown_below kx17 (Nat.le_refl _) (by simp)
          have zrax17 := rax4.lt
          have zrbx17 := rbx4.lt
          have zrcx17 := rcx4.lt
          have zzx17 := Bx4.size
          have Bx18 := Bx4.trans (hx17.mono Bx4.size)
          have rax18 := rax4.on hx17
          have rbx18 := rbx4.on hx17
          have rcx18 := rcx4.on hx17
          have Kx18 := Kx4.on hx17
          have lax18 := lax4.on hx17
          have lbx18 := rx3.on hx17
          refine hK _ _ ⟨rax18, rbx18⟩ ?_
          clear hK K
          simp only [Act.put, List.setIfInBounds_toArray, List.set_cons_zero, List.set_cons_succ]
          refine plan_one _ rfl fun K hK => ?_
          go_simp
          have Px19 := readsP_two wx17 39 (some ⟨gx1, 0, none⟩) (some ⟨gx3, 0, none⟩) 16 16 16 16 _ _ (lax18.reads16 (mLeaf_len _)) (Nat.le_refl _) (lbx18.reads16 (mLeaf_len _)) (Nat.le_refl _)
          have hx19 : Below wx17.heap.size wx17 (wx17.alloc (.cells #[.slice (some ⟨gx1, 0, none⟩) 16 16, .slice (some ⟨gx3, 0, none⟩) 16 16] 39)) := (Below.refl _ _).alloc (Nat.le_refl _) _
          generalize wx17.alloc (.cells #[.slice (some ⟨gx1, 0, none⟩) 16 16, .slice (some ⟨gx3, 0, none⟩) 16 16] 39) = wx19 at *
          have Bx20 := Bx18.trans (hx19.mono Bx18.size)
          have rax20 := rax18.on hx19
          have rbx20 := rbx18.on hx19
          have rcx20 := rcx18.on hx19
          have Kx20 := Kx18.on hx19
          have lax20 := lax18.on hx19
          have lbx20 := lbx18.on hx19
          have r6x20 := rx17.on hx19
          refine hK _ _ ⟨rax20, rbx20⟩ ?_
          clear hK K
          refine plan_one _ rfl fun K hK => ?_
          go_simp
          refine (digest_any 2 _ _ _ _ _ Kx20 Px19 (by omega) (parts_two_le _ _ 300 (show 16 ≤ 300 by omega) (show 16 ≤ 300 by omega))).mono ?_
          rintro e wx21 ⟨rfl, hx21⟩
          rw [(HH1 _ _ _ _).out]
          have Bx22 := Bx20.trans (hx21.mono Bx20.size)
          have rax22 := rax20.on hx21
          have rbx22 := rbx20.on hx21
          have rcx22 := rcx20.on hx21
          have Kx22 := Kx20.on hx21
          have lax22 := lax20.on hx21
          have lbx22 := lbx20.on hx21
          have r6x22 := r6x20.on hx21
          have Px22 := Px19.on hx21
          refine hK _ _ ⟨rax22, rbx22⟩ ?_
          clear hK K
          refine plan_one _ rfl fun K hK => ?_
          refine step_store_all rfl _ _ _ rfl wx3.heap.size rfl _ _ r6x22 (bvs dL) rfl (bvs_one _) (b16_zeros _ HL.out) (b16_size _ HL.out) ?_
          intro wx23 rx23 kx23
          have Bx23 := below_kept Bx22 kx23 Bx22.size (by rintro k hk; cases hk; exact zzx17)
          have rax23 := rax22.kept kx23 (by simp; omega)
          have rbx23 := rbx22.kept kx23 (by simp; omega)
          have rcx23 := rcx22.kept kx23 (by simp; omega)
          refine hK _ _ ⟨rax23, rbx23⟩ ?_
          clear hK K
          simp only [Act.put]
          refine plan_done ?_
          go_wp2_with fail
          go_meet
          exact ⟨_, rfl, rx23, rax23, rbx23, rcx23, Bx23⟩
      · refine step_at _ rfl fun K hK => ?_
        refine step_alloc rfl _ rfl zeros16 zero_b16 ?_
        intro wx24 rx24 sx24 kx24
        have hx24 : Below wx1.heap.size wx1 wx24 := grown_below kx24 (Nat.le_refl _) (by simp)
        have zrax24 := rax2.lt
        have zrbx24 := rbx2.lt
        have zrcx24 := rcx2.lt
        have zzx24 := Bx2.size
        have Bx25 := Bx2.trans (hx24.mono Bx2.size)
        have rax25 := rax2.on hx24
        have rbx25 := rbx2.on hx24
        have rcx25 := rcx2.on hx24
        have Kx25 := Kx2.on hx24
        have lax25 := rx1.on hx24
        refine hK _ _ ⟨rax25, rbx25⟩ ?_
        clear hK K
        simp only [Act.put, List.setIfInBounds_toArray, List.set_cons_zero, List.set_cons_succ]
        refine plan_one _ rfl fun K hK => ?_
        go_simp
        refine (one_any dB HB.out _ Kx25).mono ?_
        rintro e wx26 ⟨gx26, rfl, rx26, hx26⟩
        have Bx27 := Bx25.trans (hx26.mono Bx25.size)
        have rax27 := rax25.on hx26
        have rbx27 := rbx25.on hx26
        have rcx27 := rcx25.on hx26
        have Kx27 := Kx25.on hx26
        have lax27 := lax25.on hx26
        have r6x27 := rx24.on hx26
        refine hK _ _ ⟨rax27, rbx27⟩ ?_
        clear hK K
        refine plan_one _ rfl fun K hK => ?_
        go_simp
        have Px28 := readsP_two wx26 39 (some ⟨gx1, 0, none⟩) (some ⟨gx26, 0, none⟩) 16 16 16 16 _ _ (lax27.reads16 (mLeaf_len _)) (Nat.le_refl _) (rx26.reads16 (mLeaf_len _)) (Nat.le_refl _)
        have hx28 : Below wx26.heap.size wx26 (wx26.alloc (.cells #[.slice (some ⟨gx1, 0, none⟩) 16 16, .slice (some ⟨gx26, 0, none⟩) 16 16] 39)) := (Below.refl _ _).alloc (Nat.le_refl _) _
        generalize wx26.alloc (.cells #[.slice (some ⟨gx1, 0, none⟩) 16 16, .slice (some ⟨gx26, 0, none⟩) 16 16] 39) = wx28 at *
        have Bx29 := Bx27.trans (hx28.mono Bx27.size)
        have rax29 := rax27.on hx28
        have rbx29 := rbx27.on hx28
        have rcx29 := rcx27.on hx28
        have Kx29 := Kx27.on hx28
        have lax29 := lax27.on hx28
        have r6x29 := r6x27.on hx28
        have lbx29 := rx26.on hx28
        refine hK _ _ ⟨rax29, rbx29⟩ ?_
        clear hK K
        refine plan_one _ rfl fun K hK => ?_
        go_simp
        refine (digest_any 2 _ _ _ _ _ Kx29 Px28 (by omega) (parts_two_le _ _ 300 (show 16 ≤ 300 by omega) (show 16 ≤ 300 by omega))).mono ?_
        rintro e wx30 ⟨rfl, hx30⟩
        rw [(HH1 _ _ _ _).out]
        have Bx31 := Bx29.trans (hx30.mono Bx29.size)
        have rax31 := rax29.on hx30
        have rbx31 := rbx29.on hx30
        have rcx31 := rcx29.on hx30
        have Kx31 := Kx29.on hx30
        have lax31 := lax29.on hx30
        have r6x31 := r6x29.on hx30
        have lbx31 := lbx29.on hx30
        have Px31 := Px28.on hx30
        refine hK _ _ ⟨rax31, rbx31⟩ ?_
        clear hK K
        refine plan_one _ rfl fun K hK => ?_
        refine step_store_all rfl _ _ _ rfl wx1.heap.size rfl _ _ r6x31 (bvs dL) rfl (bvs_one _) (b16_zeros _ HL.out) (b16_size _ HL.out) ?_
        intro wx32 rx32 kx32
        have Bx32 := below_kept Bx31 kx32 Bx31.size (by rintro k hk; cases hk; exact zzx24)
        have rax32 := rax31.kept kx32 (by simp; omega)
        have rbx32 := rbx31.kept kx32 (by simp; omega)
        have rcx32 := rcx31.kept kx32 (by simp; omega)
        refine hK _ _ ⟨rax32, rbx32⟩ ?_
        clear hK K
        simp only [Act.put]
        refine plan_done ?_
        go_wp2_with fail
        go_meet
        exact ⟨_, rfl, rx32, rax32, rbx32, rcx32, Bx32⟩
    · refine step_at _ rfl fun K hK => ?_
      refine step_alloc rfl _ rfl zeros16 zero_b16 ?_
      intro wx33 rx33 sx33 kx33
      have hx33 : Below w6.drew.heap.size w6.drew wx33 := grown_below kx33 (Nat.le_refl _) (by simp)
      have zrax33 := ra.drew.lt
      have zrbx33 := rb.drew.lt
      have zrcx33 := rc.drew.lt
      have zzx33 := b6.drew.size
      have Bx34 := b6.drew.trans (hx33.mono b6.drew.size)
      have rax34 := ra.drew.on hx33
      have rbx34 := rb.drew.on hx33
      have rcx34 := rc.drew.on hx33
      have Kx34 := (hCo.on b6.drew).on hx33
      refine hK _ _ ⟨rax34, rbx34⟩ ?_
      clear hK K
      simp only [Act.put, List.setIfInBounds_toArray, List.set_cons_zero, List.set_cons_succ]
      refine plan_one _ rfl fun K hK => ?_
      go_simp
      refine (one_any dA HA.out _ Kx34).mono ?_
      rintro e wx35 ⟨gx35, rfl, rx35, hx35⟩
      have Bx36 := Bx34.trans (hx35.mono Bx34.size)
      have rax36 := rax34.on hx35
      have rbx36 := rbx34.on hx35
      have rcx36 := rcx34.on hx35
      have Kx36 := Kx34.on hx35
      have r6x36 := rx33.on hx35
      refine hK _ _ ⟨rax36, rbx36⟩ ?_
      clear hK K
      refine plan_one _ rfl fun K hK => ?_
      go_simp
      refine (one_any dB HB.out _ Kx36).mono ?_
      rintro e wx37 ⟨gx37, rfl, rx37, hx37⟩
      have Bx38 := Bx36.trans (hx37.mono Bx36.size)
      have rax38 := rax36.on hx37
      have rbx38 := rbx36.on hx37
      have rcx38 := rcx36.on hx37
      have Kx38 := Kx36.on hx37
      have r6x38 := r6x36.on hx37
      have lax38 := rx35.on hx37
      refine hK _ _ ⟨rax38, rbx38⟩ ?_
      clear hK K
      refine plan_one _ rfl fun K hK => ?_
      go_simp
      have Px39 := readsP_two wx37 39 (some ⟨gx35, 0, none⟩) (some ⟨gx37, 0, none⟩) 16 16 16 16 _ _ (lax38.reads16 (mLeaf_len _)) (Nat.le_refl _) (rx37.reads16 (mLeaf_len _)) (Nat.le_refl _)
      have hx39 : Below wx37.heap.size wx37 (wx37.alloc (.cells #[.slice (some ⟨gx35, 0, none⟩) 16 16, .slice (some ⟨gx37, 0, none⟩) 16 16] 39)) := (Below.refl _ _).alloc (Nat.le_refl _) _
      generalize wx37.alloc (.cells #[.slice (some ⟨gx35, 0, none⟩) 16 16, .slice (some ⟨gx37, 0, none⟩) 16 16] 39) = wx39 at *
      have Bx40 := Bx38.trans (hx39.mono Bx38.size)
      have rax40 := rax38.on hx39
      have rbx40 := rbx38.on hx39
      have rcx40 := rcx38.on hx39
      have Kx40 := Kx38.on hx39
      have r6x40 := r6x38.on hx39
      have lax40 := lax38.on hx39
      have lbx40 := rx37.on hx39
      refine hK _ _ ⟨rax40, rbx40⟩ ?_
      clear hK K
      refine plan_one _ rfl fun K hK => ?_
      go_simp
      refine (digest_any 2 _ _ _ _ _ Kx40 Px39 (by omega) (parts_two_le _ _ 300 (show 16 ≤ 300 by omega) (show 16 ≤ 300 by omega))).mono ?_
      rintro e wx41 ⟨rfl, hx41⟩
      rw [(HH1 _ _ _ _).out]
      have Bx42 := Bx40.trans (hx41.mono Bx40.size)
      have rax42 := rax40.on hx41
      have rbx42 := rbx40.on hx41
      have rcx42 := rcx40.on hx41
      have Kx42 := Kx40.on hx41
      have r6x42 := r6x40.on hx41
      have lax42 := lax40.on hx41
      have lbx42 := lbx40.on hx41
      have Px42 := Px39.on hx41
      refine hK _ _ ⟨rax42, rbx42⟩ ?_
      clear hK K
      refine plan_one _ rfl fun K hK => ?_
      refine step_store_all rfl _ _ _ rfl w6.drew.heap.size rfl _ _ r6x42 (bvs dL) rfl (bvs_one _) (b16_zeros _ HL.out) (b16_size _ HL.out) ?_
      intro wx43 rx43 kx43
      have Bx43 := below_kept Bx42 kx43 Bx42.size (by rintro k hk; cases hk; exact zzx33)
      have rax43 := rax42.kept kx43 (by simp; omega)
      have rbx43 := rbx42.kept kx43 (by simp; omega)
      have rcx43 := rcx42.kept kx43 (by simp; omega)
      refine hK _ _ ⟨rax43, rbx43⟩ ?_
      clear hK K
      simp only [Act.put]
      refine plan_done ?_
      go_wp2_with fail
      go_meet
      exact ⟨_, rfl, rx43, rax43, rbx43, rcx43, Bx43⟩
  case rest =>
    obtain ⟨g4, rfl, rl, ra, rb, rc, bc⟩ := hcut
    clear HH1
    have HH2 : ∀ A c B b, Hid (dig 2 [⟨A, 16, c, dL⟩, ⟨B, 16, b, mLeaf dC⟩] = dR) := fun _ _ _ _ => rfl
    have HR := Lib.hid dR_len
    go_wp2_with fail
    go_cut [5] (fun s5 wd => ∃ g, s5 = .pointer (some ⟨g, 0, none⟩) ∧ Row wd g 28 (bvs dR) ∧ Row wd w.heap.size 28 (bvs dA) ∧ Row wd w2.heap.size 28 (bvs dB) ∧ Row wd w4.heap.size 28 (bvs dC) ∧ Row wd g4 28 (bvs dL) ∧ Below w.heap.size w wd)
    case first =>
      have zd : wc.drew.heap.size = wc.heap.size := rfl
      refine wp_region_plan (fun w' => Row w' w4.heap.size 28 (bvs dC)) (.take 0 <| .take 1 <| .two 2 (.two 3 (.two 4 (.one 5 <| .one 6 <| .done) 5 (.one 4 <| .one 6 <| .done)) 5 (.one 3 <| .one 4 <| .one 6 <| .done)) 5 (.one 2 <| .one 3 <| .one 4 <| .one 6 <| .done)) (by kernel_rfl) (by kernel_rfl) (by kernel_rfl) (fun _ _ _ _ _ h => h) rc.drew ?_
      repeat (refine plan_take _ rfl ?_; (first | (refine wpQuiet_valueG (o := ⟨some 20, _, _, _, _, _⟩) rfl _ (by intro _ h; exact exec_load16 _ _ rfl _ rfl dC HC.out h.cells) (wpQuiet_nil ?_); simp only [Act.put, List.setIfInBounds_toArray, List.set_cons_zero, List.set_cons_succ]) | (go_big_quiet_step ((intros; rfl)); refine wpQuiet_nil ?_)))
      refine plan_two ?_ ?_
      · refine step_at _ rfl fun K hK => ?_
        go_simp
        refine (one_any dC HC.out _ (hCo.on bc.drew)).mono ?_
        rintro e wx44 ⟨gx44, rfl, rx44, hx44⟩
        have Bx45 := bc.drew.trans (hx44.mono bc.drew.size)
        have rax45 := ra.drew.on hx44
        have rbx45 := rb.drew.on hx44
        have rcx45 := rc.drew.on hx44
        have rlx45 := rl.drew.on hx44
        have Kx45 := (hCo.on bc.drew).on hx44
        refine hK _ _ rcx45 ?_
        clear hK K
        refine plan_two ?_ ?_
        · refine step_at _ rfl fun K hK => ?_
          go_simp
          have Px46 := readsP_two wx44 39 (some ⟨g4, 0, none⟩) (some ⟨gx44, 0, none⟩) 16 16 16 16 _ _ (rlx45.reads16 dL_len) (Nat.le_refl _) (rx44.reads16 (mLeaf_len _)) (Nat.le_refl _)
          have hx46 : Below wx44.heap.size wx44 (wx44.alloc (.cells #[.slice (some ⟨g4, 0, none⟩) 16 16, .slice (some ⟨gx44, 0, none⟩) 16 16] 39)) := (Below.refl _ _).alloc (Nat.le_refl _) _
          generalize wx44.alloc (.cells #[.slice (some ⟨g4, 0, none⟩) 16 16, .slice (some ⟨gx44, 0, none⟩) 16 16] 39) = wx46 at *
          have Bx47 := Bx45.trans (hx46.mono Bx45.size)
          have rax47 := rax45.on hx46
          have rbx47 := rbx45.on hx46
          have rcx47 := rcx45.on hx46
          have rlx47 := rlx45.on hx46
          have Kx47 := Kx45.on hx46
          have lcx47 := rx44.on hx46
          refine hK _ _ rcx47 ?_
          clear hK K
          refine plan_two ?_ ?_
          · refine step_at _ rfl fun K hK => ?_
            go_simp
            refine (digest_any 2 _ _ _ _ _ Kx47 Px46 (by omega) (parts_two_le _ _ 300 (show 16 ≤ 300 by omega) (show 16 ≤ 300 by omega))).mono ?_
            rintro e wx48 ⟨rfl, hx48⟩
            rw [(HH2 _ _ _ _).out]
            have Bx49 := Bx47.trans (hx48.mono Bx47.size)
            have rax49 := rax47.on hx48
            have rbx49 := rbx47.on hx48
            have rcx49 := rcx47.on hx48
            have rlx49 := rlx47.on hx48
            have Kx49 := Kx47.on hx48
            have lcx49 := lcx47.on hx48
            have Px49 := Px46.on hx48
            refine hK _ _ rcx49 ?_
            clear hK K
            refine plan_one _ rfl fun K hK => ?_
            refine step_alloc rfl _ rfl zeros16 zero_b16 ?_
            intro wx50 rx50 sx50 kx50
            have hx50 : Below wx48.heap.size wx48 wx50 := grown_below kx50 (Nat.le_refl _) (by simp)
            have zrax50 := rax49.lt
            have zrbx50 := rbx49.lt
            have zrcx50 := rcx49.lt
            have zrlx50 := rlx49.lt
            have zzx50 := Bx49.size
            have Bx51 := Bx49.trans (hx50.mono Bx49.size)
            have rax51 := rax49.on hx50
            have rbx51 := rbx49.on hx50
            have rcx51 := rcx49.on hx50
            have rlx51 := rlx49.on hx50
            have Kx51 := Kx49.on hx50
            have lcx51 := lcx49.on hx50
            have Px51 := Px49.on hx50
            refine hK _ _ rcx51 ?_
            clear hK K
            simp only [Act.put, List.setIfInBounds_toArray, List.set_cons_zero, List.set_cons_succ]
            refine plan_one _ rfl fun K hK => ?_
            refine step_store_all rfl _ _ _ rfl wx48.heap.size rfl _ _ rx50 (bvs dR) rfl (bvs_one _) (b16_zeros _ HR.out) (b16_size _ HR.out) ?_
            intro wx52 rx52 kx52
            have Bx52 := below_kept Bx51 kx52 Bx51.size (by rintro k hk; cases hk; exact zzx50)
            have rax52 := rax51.kept kx52 (by simp; omega)
            have rbx52 := rbx51.kept kx52 (by simp; omega)
            have rcx52 := rcx51.kept kx52 (by simp; omega)
            have rlx52 := rlx51.kept kx52 (by simp; omega)
            refine hK _ _ rcx52 ?_
            clear hK K
            simp only [Act.put]
            refine plan_done ?_
            go_wp2_with fail
            go_meet
            exact ⟨_, rfl, rx52, rax52, rbx52, rcx52, rlx52, Bx52⟩
          · refine step_at _ rfl fun K hK => ?_
            refine step_alloc rfl _ rfl zeros16 zero_b16 ?_
            intro wx53 rx53 sx53 kx53
            have hx53 : Below wx46.heap.size wx46 wx53 := grown_below kx53 (Nat.le_refl _) (by simp)
            have zrax53 := rax47.lt
            have zrbx53 := rbx47.lt
            have zrcx53 := rcx47.lt
            have zrlx53 := rlx47.lt
            have zzx53 := Bx47.size
            have Bx54 := Bx47.trans (hx53.mono Bx47.size)
            have rax54 := rax47.on hx53
            have rbx54 := rbx47.on hx53
            have rcx54 := rcx47.on hx53
            have rlx54 := rlx47.on hx53
            have Kx54 := Kx47.on hx53
            have lcx54 := lcx47.on hx53
            have Px54 := Px46.on hx53
            refine hK _ _ rcx54 ?_
            clear hK K
            simp only [Act.put, List.setIfInBounds_toArray, List.set_cons_zero, List.set_cons_succ]
            refine plan_one _ rfl fun K hK => ?_
            go_simp
            refine (digest_any 2 _ _ _ _ _ Kx54 Px54 (by omega) (parts_two_le _ _ 300 (show 16 ≤ 300 by omega) (show 16 ≤ 300 by omega))).mono ?_
            rintro e wx55 ⟨rfl, hx55⟩
            rw [(HH2 _ _ _ _).out]
            have Bx56 := Bx54.trans (hx55.mono Bx54.size)
            have rax56 := rax54.on hx55
            have rbx56 := rbx54.on hx55
            have rcx56 := rcx54.on hx55
            have rlx56 := rlx54.on hx55
            have Kx56 := Kx54.on hx55
            have lcx56 := lcx54.on hx55
            have Px56 := Px54.on hx55
            have r5x56 := rx53.on hx55
            refine hK _ _ rcx56 ?_
            clear hK K
            refine plan_one _ rfl fun K hK => ?_
            refine step_store_all rfl _ _ _ rfl wx46.heap.size rfl _ _ r5x56 (bvs dR) rfl (bvs_one _) (b16_zeros _ HR.out) (b16_size _ HR.out) ?_
            intro wx57 rx57 kx57
            have Bx57 := below_kept Bx56 kx57 Bx56.size (by rintro k hk; cases hk; exact zzx53)
            have rax57 := rax56.kept kx57 (by simp; omega)
            have rbx57 := rbx56.kept kx57 (by simp; omega)
            have rcx57 := rcx56.kept kx57 (by simp; omega)
            have rlx57 := rlx56.kept kx57 (by simp; omega)
            refine hK _ _ rcx57 ?_
            clear hK K
            simp only [Act.put]
            refine plan_done ?_
            go_wp2_with fail
            go_meet
            exact ⟨_, rfl, rx57, rax57, rbx57, rcx57, rlx57, Bx57⟩
        · refine step_at _ rfl fun K hK => ?_
          refine step_alloc rfl _ rfl zeros16 zero_b16 ?_
          intro wx58 rx58 sx58 kx58
          have hx58 : Below wx44.heap.size wx44 wx58 := grown_below kx58 (Nat.le_refl _) (by simp)
          have zrax58 := rax45.lt
          have zrbx58 := rbx45.lt
          have zrcx58 := rcx45.lt
          have zrlx58 := rlx45.lt
          have zzx58 := Bx45.size
          have Bx59 := Bx45.trans (hx58.mono Bx45.size)
          have rax59 := rax45.on hx58
          have rbx59 := rbx45.on hx58
          have rcx59 := rcx45.on hx58
          have rlx59 := rlx45.on hx58
          have Kx59 := Kx45.on hx58
          have lcx59 := rx44.on hx58
          refine hK _ _ rcx59 ?_
          clear hK K
          simp only [Act.put, List.setIfInBounds_toArray, List.set_cons_zero, List.set_cons_succ]
          refine plan_one _ rfl fun K hK => ?_
          go_simp
          have Px60 := readsP_two wx58 39 (some ⟨g4, 0, none⟩) (some ⟨gx44, 0, none⟩) 16 16 16 16 _ _ (rlx59.reads16 dL_len) (Nat.le_refl _) (lcx59.reads16 (mLeaf_len _)) (Nat.le_refl _)
          have hx60 : Below wx58.heap.size wx58 (wx58.alloc (.cells #[.slice (some ⟨g4, 0, none⟩) 16 16, .slice (some ⟨gx44, 0, none⟩) 16 16] 39)) := (Below.refl _ _).alloc (Nat.le_refl _) _
          generalize wx58.alloc (.cells #[.slice (some ⟨g4, 0, none⟩) 16 16, .slice (some ⟨gx44, 0, none⟩) 16 16] 39) = wx60 at *
          have Bx61 := Bx59.trans (hx60.mono Bx59.size)
          have rax61 := rax59.on hx60
          have rbx61 := rbx59.on hx60
          have rcx61 := rcx59.on hx60
          have rlx61 := rlx59.on hx60
          have Kx61 := Kx59.on hx60
          have lcx61 := lcx59.on hx60
          have r5x61 := rx58.on hx60
          refine hK _ _ rcx61 ?_
          clear hK K
          refine plan_one _ rfl fun K hK => ?_
          go_simp
          refine (digest_any 2 _ _ _ _ _ Kx61 Px60 (by omega) (parts_two_le _ _ 300 (show 16 ≤ 300 by omega) (show 16 ≤ 300 by omega))).mono ?_
          rintro e wx62 ⟨rfl, hx62⟩
          rw [(HH2 _ _ _ _).out]
          have Bx63 := Bx61.trans (hx62.mono Bx61.size)
          have rax63 := rax61.on hx62
          have rbx63 := rbx61.on hx62
          have rcx63 := rcx61.on hx62
          have rlx63 := rlx61.on hx62
          have Kx63 := Kx61.on hx62
          have lcx63 := lcx61.on hx62
          have r5x63 := r5x61.on hx62
          have Px63 := Px60.on hx62
          refine hK _ _ rcx63 ?_
          clear hK K
          refine plan_one _ rfl fun K hK => ?_
          refine step_store_all rfl _ _ _ rfl wx44.heap.size rfl _ _ r5x63 (bvs dR) rfl (bvs_one _) (b16_zeros _ HR.out) (b16_size _ HR.out) ?_
          intro wx64 rx64 kx64
          have Bx64 := below_kept Bx63 kx64 Bx63.size (by rintro k hk; cases hk; exact zzx58)
          have rax64 := rax63.kept kx64 (by simp; omega)
          have rbx64 := rbx63.kept kx64 (by simp; omega)
          have rcx64 := rcx63.kept kx64 (by simp; omega)
          have rlx64 := rlx63.kept kx64 (by simp; omega)
          refine hK _ _ rcx64 ?_
          clear hK K
          simp only [Act.put]
          refine plan_done ?_
          go_wp2_with fail
          go_meet
          exact ⟨_, rfl, rx64, rax64, rbx64, rcx64, rlx64, Bx64⟩
      · refine step_at _ rfl fun K hK => ?_
        refine step_alloc rfl _ rfl zeros16 zero_b16 ?_
        intro wx65 rx65 sx65 kx65
        have hx65 : Below wc.drew.heap.size wc.drew wx65 := grown_below kx65 (Nat.le_refl _) (by simp)
        have zrax65 := ra.drew.lt
        have zrbx65 := rb.drew.lt
        have zrcx65 := rc.drew.lt
        have zrlx65 := rl.drew.lt
        have zzx65 := bc.drew.size
        have Bx66 := bc.drew.trans (hx65.mono bc.drew.size)
        have rax66 := ra.drew.on hx65
        have rbx66 := rb.drew.on hx65
        have rcx66 := rc.drew.on hx65
        have rlx66 := rl.drew.on hx65
        have Kx66 := (hCo.on bc.drew).on hx65
        refine hK _ _ rcx66 ?_
        clear hK K
        simp only [Act.put, List.setIfInBounds_toArray, List.set_cons_zero, List.set_cons_succ]
        refine plan_one _ rfl fun K hK => ?_
        go_simp
        refine (one_any dC HC.out _ Kx66).mono ?_
        rintro e wx67 ⟨gx67, rfl, rx67, hx67⟩
        have Bx68 := Bx66.trans (hx67.mono Bx66.size)
        have rax68 := rax66.on hx67
        have rbx68 := rbx66.on hx67
        have rcx68 := rcx66.on hx67
        have rlx68 := rlx66.on hx67
        have Kx68 := Kx66.on hx67
        have r5x68 := rx65.on hx67
        refine hK _ _ rcx68 ?_
        clear hK K
        refine plan_one _ rfl fun K hK => ?_
        go_simp
        have Px69 := readsP_two wx67 39 (some ⟨g4, 0, none⟩) (some ⟨gx67, 0, none⟩) 16 16 16 16 _ _ (rlx68.reads16 dL_len) (Nat.le_refl _) (rx67.reads16 (mLeaf_len _)) (Nat.le_refl _)
        have hx69 : Below wx67.heap.size wx67 (wx67.alloc (.cells #[.slice (some ⟨g4, 0, none⟩) 16 16, .slice (some ⟨gx67, 0, none⟩) 16 16] 39)) := (Below.refl _ _).alloc (Nat.le_refl _) _
        generalize wx67.alloc (.cells #[.slice (some ⟨g4, 0, none⟩) 16 16, .slice (some ⟨gx67, 0, none⟩) 16 16] 39) = wx69 at *
        have Bx70 := Bx68.trans (hx69.mono Bx68.size)
        have rax70 := rax68.on hx69
        have rbx70 := rbx68.on hx69
        have rcx70 := rcx68.on hx69
        have rlx70 := rlx68.on hx69
        have Kx70 := Kx68.on hx69
        have r5x70 := r5x68.on hx69
        have lcx70 := rx67.on hx69
        refine hK _ _ rcx70 ?_
        clear hK K
        refine plan_one _ rfl fun K hK => ?_
        go_simp
        refine (digest_any 2 _ _ _ _ _ Kx70 Px69 (by omega) (parts_two_le _ _ 300 (show 16 ≤ 300 by omega) (show 16 ≤ 300 by omega))).mono ?_
        rintro e wx71 ⟨rfl, hx71⟩
        rw [(HH2 _ _ _ _).out]
        have Bx72 := Bx70.trans (hx71.mono Bx70.size)
        have rax72 := rax70.on hx71
        have rbx72 := rbx70.on hx71
        have rcx72 := rcx70.on hx71
        have rlx72 := rlx70.on hx71
        have Kx72 := Kx70.on hx71
        have r5x72 := r5x70.on hx71
        have lcx72 := lcx70.on hx71
        have Px72 := Px69.on hx71
        refine hK _ _ rcx72 ?_
        clear hK K
        refine plan_one _ rfl fun K hK => ?_
        refine step_store_all rfl _ _ _ rfl wc.drew.heap.size rfl _ _ r5x72 (bvs dR) rfl (bvs_one _) (b16_zeros _ HR.out) (b16_size _ HR.out) ?_
        intro wx73 rx73 kx73
        have Bx73 := below_kept Bx72 kx73 Bx72.size (by rintro k hk; cases hk; exact zzx65)
        have rax73 := rax72.kept kx73 (by simp; omega)
        have rbx73 := rbx72.kept kx73 (by simp; omega)
        have rcx73 := rcx72.kept kx73 (by simp; omega)
        have rlx73 := rlx72.kept kx73 (by simp; omega)
        refine hK _ _ rcx73 ?_
        clear hK K
        simp only [Act.put]
        refine plan_done ?_
        go_wp2_with fail
        go_meet
        exact ⟨_, rfl, rx73, rax73, rbx73, rcx73, rlx73, Bx73⟩
    case rest =>
      obtain ⟨g5, rfl, rR, ra, rb, rc, rl, bd⟩ := hcut
      clear HH2
      obtain ⟨i0, hi0, hz0, hi1, hi2⟩ := info_parts info_dig
      go_wp2_with (first
        | (refine wpList_valueG (o := ⟨some 25, _, _, _, _, _⟩) rfl _ (by exact exec_load16 _ _ rfl _ rfl dA HA.out ra.cells) ?_)
        | (refine wpList_valueG (o := ⟨some 26, _, _, _, _, _⟩) rfl _ (by exact exec_load16 _ _ rfl _ rfl dB HB.out rb.cells) ?_)
        | (refine wpList_valueG (o := ⟨some 27, _, _, _, _, _⟩) rfl _ (by exact exec_load16 _ _ rfl _ rfl dC HC.out rc.cells) ?_)
        | (refine wpList_valueW (o := ⟨some 28, _, _, _, _, _⟩) rfl _ (by exact exec_slice3 _ 22 28 _ _ _ rfl Tryd.underlying22 i0 _ hi0 hz0 (bvs dA) (bvs dB) (bvs dC) 16 hi1 (by omega) (by omega) ((bvs_length _).trans HA.out) ((bvs_length _).trans HB.out) ((bvs_length _).trans HC.out) rfl rfl rfl) ?_))
      have hp1 := readsD_new wc 28 3 [dA, dB, dC] (len16_3 HA.out HB.out HC.out) rfl _ (flat3 dA dB dC)
      have ba1 : Below wc.heap.size wc (wc.alloc (.cells (bvs dA ++ (bvs dB ++ bvs dC)).toArray 28)) := (Below.refl _ _).alloc (Nat.le_refl _) _
      generalize wc.alloc (.cells (bvs dA ++ (bvs dB ++ bvs dC)).toArray 28) = we at *
      have be := bd.trans (ba1.mono bd.size)
      refine (prove_any _ 3 3 2 _ _ (hCo.on be) hp1 (by omega) (by omega) (by omega)).mono ?_
      rintro e wf ⟨vp, rfl, hown, hbf⟩
      rw [proof_abc] at hown
      obtain ⟨Ap, cp, rfl, hcp, _, hrp⟩ := own_form hown
      have hrp : ReadsD wf Ap 1 [dL] := ⟨hrp, len16_1 HL.out⟩
      have bf := be.trans (hbf.mono be.size)
      have bdf := ba1.trans (hbf.mono ba1.size)
      have raf := ra.on bdf
      have rbf := rb.on bdf
      have rcf := rc.on bdf
      have rlf := rl.on bdf
      have rRf := rR.on bdf
      clear ba1 hp1 hown ra rb rc rl rR
      go_wp2_with (first
        | (refine wpList_valueG (o := ⟨some 33, _, _, _, _, _⟩) rfl _ (by exact exec_load16 _ _ rfl _ rfl dA HA.out raf.cells) ?_)
        | (refine wpList_valueW (o := ⟨some 34, _, _, _, _, _⟩) rfl _ (by exact exec_slice1 _ 22 28 _ rfl Tryd.underlying22 i0 _ hi0 hz0 (bvs dA) (hi1.trans ((bvs_length _).trans HA.out).symm) (by rw [bvs_length, HA.out]; omega) (by rw [bvs_length, HA.out]; omega) rfl) ?_))
      have ba2 : Below wf.heap.size wf (wf.alloc (.cells (bvs dA).toArray 28)) := (Below.refl _ _).alloc (Nat.le_refl _) _
      generalize wf.alloc (.cells (bvs dA).toArray 28) = wg at *
      refine (prove_bad _ 1 1 1 wg (.inr (by omega))).mono ?_
      rintro e wh ⟨vq, rfl, hownq, hbh⟩
      have bfh := ba2.trans (hbh.mono ba2.size)
      have bh := bf.trans (bfh.mono bf.size)
      have rah := raf.on bfh
      have rbh := rbf.on bfh
      have rch := rcf.on bfh
      have rlh := rlf.on bfh
      have rRh := rRf.on bfh
      have hrph := hrp.on bfh
      clear ba2 raf rbf rcf rlf rRf hrp hownq
      go_wp2_with fail
      have eRR : (dR == dR) = true := by simp
      have eNN : (root [] == root []) = true := by simp
      have eAB : (dA == dB) = false := by decide +kernel
      have eLL : ([dL] == [dL]) = true := by simp
      have eD1 : Hid (dig 1 [] = root []) := root_nil.symm
      refine wp_region_plan (fun w' => Row w' w.heap.size 28 (bvs dA) ∧ Row w' w2.heap.size 28 (bvs dB) ∧ Row w' w4.heap.size 28 (bvs dC) ∧ Row w' g4 28 (bvs dL) ∧ Row w' g5 28 (bvs dR)) (.take 0 <| .take 1 <| .take 2 <| .take 3 <| .take 4 <| .take 5 <| .take 6 <| .take 7 <| .take 8 <| .take 9 <| .take 12 <| .one 10 <| .one 11 <| .take 13 <| .take 14 <| .take 15 <| .take 16 <| .take 17 <| .one 18 <| .one 19 <| .take 20 <| .take 21 <| .take 22 <| .take 23 <| .take 24 <| .one 25 <| .take 26 <| .take 27 <| .take 28 <| .take 29 <| .take 30 <| .one 31 <| .take 32 <| .take 33 <| .take 34 <| .take 35 <| .take 36 <| .take 37 <| .one 38 <| .take 39 <| .take 40 <| .take 41 <| .one 42 <| .one 43 <| .take 44 <| .take 45 <| .take 46 <| .take 47 <| .take 48 <| .take 49 <| .take 50 <| .take 51 <| .done) (by kernel_rfl) (by kernel_rfl) (by kernel_rfl) (fun _ _ _ _ _ h => h) ⟨rah.drew, rbh.drew, rch.drew, rlh.drew, rRh.drew⟩ ?_
      repeat (refine plan_take _ rfl ?_; (first | (refine wpQuiet_valueG (o := ⟨some 45, _, _, _, _, _⟩) rfl _ (by intro _ h; exact exec_load16 _ _ rfl _ rfl dA HA.out h.1.cells) (wpQuiet_nil ?_); simp only [Act.put, List.setIfInBounds_toArray, List.set_cons_zero, List.set_cons_succ]) | (refine wpQuiet_valueG (o := ⟨some 46, _, _, _, _, _⟩) rfl _ (by intro _ h; exact exec_load16 _ _ rfl _ rfl dB HB.out h.2.1.cells) (wpQuiet_nil ?_); simp only [Act.put, List.setIfInBounds_toArray, List.set_cons_zero, List.set_cons_succ]) | (refine wpQuiet_valueG (o := ⟨some 47, _, _, _, _, _⟩) rfl _ (by intro _ h; exact exec_load16 _ _ rfl _ rfl dC HC.out h.2.2.1.cells) (wpQuiet_nil ?_); simp only [Act.put, List.setIfInBounds_toArray, List.set_cons_zero, List.set_cons_succ]) | (refine wpQuiet_valueG (o := ⟨some 50, _, _, _, _, _⟩) rfl _ (by intro _ h; exact exec_load16 _ _ rfl _ rfl dR HR.out h.2.2.2.2.cells) (wpQuiet_nil ?_); simp only [Act.put, List.setIfInBounds_toArray, List.set_cons_zero, List.set_cons_succ]) | (refine wpQuiet_valueG (o := ⟨some 55, _, _, _, _, _⟩) rfl _ (by intro _ h; exact exec_load16 _ _ rfl _ rfl dL HL.out h.2.2.2.1.cells) (wpQuiet_nil ?_); simp only [Act.put, List.setIfInBounds_toArray, List.set_cons_zero, List.set_cons_succ]) | (refine wpQuiet_valueG (o := ⟨some 60, _, _, _, _, _⟩) rfl _ (by intro _ h; exact exec_load16 _ _ rfl _ rfl dR HR.out h.2.2.2.2.cells) (wpQuiet_nil ?_); simp only [Act.put, List.setIfInBounds_toArray, List.set_cons_zero, List.set_cons_succ]) | (refine wpQuiet_valueG (o := ⟨some 61, _, _, _, _, _⟩) rfl _ (by intro _ h; exact exec_load16 _ _ rfl _ rfl dC HC.out h.2.2.1.cells) (wpQuiet_nil ?_); simp only [Act.put, List.setIfInBounds_toArray, List.set_cons_zero, List.set_cons_succ]) | (refine wpQuiet_valueG (o := ⟨some 66, _, _, _, _, _⟩) rfl _ (by intro _ h; exact exec_load16 _ _ rfl _ rfl dR HR.out h.2.2.2.2.cells) (wpQuiet_nil ?_); simp only [Act.put, List.setIfInBounds_toArray, List.set_cons_zero, List.set_cons_succ]) | (refine wpQuiet_valueG (o := ⟨some 67, _, _, _, _, _⟩) rfl _ (by intro _ h; exact exec_load16 _ _ rfl _ rfl dA HA.out h.1.cells) (wpQuiet_nil ?_); simp only [Act.put, List.setIfInBounds_toArray, List.set_cons_zero, List.set_cons_succ]) | (refine wpQuiet_valueG (o := ⟨some 73, _, _, _, _, _⟩) rfl _ (by intro _ h; exact exec_load16 _ _ rfl _ rfl dR HR.out h.2.2.2.2.cells) (wpQuiet_nil ?_); simp only [Act.put, List.setIfInBounds_toArray, List.set_cons_zero, List.set_cons_succ]) | (refine wpQuiet_valueG (o := ⟨some 74, _, _, _, _, _⟩) rfl _ (by intro _ h; exact exec_load16 _ _ rfl _ rfl dC HC.out h.2.2.1.cells) (wpQuiet_nil ?_); simp only [Act.put, List.setIfInBounds_toArray, List.set_cons_zero, List.set_cons_succ]) | (refine wpQuiet_valueG (o := ⟨some 85, _, _, _, _, _⟩) rfl _ (by intro _ h; exact exec_load16 _ _ rfl _ rfl dA HA.out h.1.cells) (wpQuiet_nil ?_); simp only [Act.put, List.setIfInBounds_toArray, List.set_cons_zero, List.set_cons_succ]) | (refine wpQuiet_valueG (o := ⟨some 86, _, _, _, _, _⟩) rfl _ (by intro _ h; exact exec_load16 _ _ rfl _ rfl dB HB.out h.2.1.cells) (wpQuiet_nil ?_); simp only [Act.put, List.setIfInBounds_toArray, List.set_cons_zero, List.set_cons_succ]) | (refine wpQuiet_valueG (o := ⟨some 51, _, _, _, _, _⟩) rfl _ (by intro _ h; exact exec_eql16 _ _ _ rfl dR dR HR.out HR.out rfl rfl) (wpQuiet_nil ?_); simp only [eRR, Act.put, List.setIfInBounds_toArray, List.set_cons_zero, List.set_cons_succ]) | (refine wpQuiet_valueG (o := ⟨some 82, _, _, _, _, _⟩) rfl _ (by intro _ h; exact exec_eql16 _ _ _ rfl (root []) (root []) (root_len _) (root_len _) rfl rfl) (wpQuiet_nil ?_); simp only [eNN, Act.put, List.setIfInBounds_toArray, List.set_cons_zero, List.set_cons_succ]) | (refine wpQuiet_valueG (o := ⟨some 87, _, _, _, _, _⟩) rfl _ (by intro _ h; exact exec_neq16 _ _ _ rfl dA dB HA.out HB.out rfl rfl) (wpQuiet_nil ?_); simp only [eAB, Bool.not_false, Act.put, List.setIfInBounds_toArray, List.set_cons_zero, List.set_cons_succ]) | (go_big_quiet_step ((intros; rfl)); refine wpQuiet_nil ?_)))
      refine plan_one _ rfl fun K hK => ?_
      refine step_valueG rfl _ _ (by exact exec_slice3 _ 22 28 _ _ _ rfl Tryd.underlying22 i0 _ hi0 hz0 (bvs dA) (bvs dB) (bvs dC) 16 hi1 (by omega) (by omega) ((bvs_length _).trans HA.out) ((bvs_length _).trans HB.out) ((bvs_length _).trans HC.out) rfl rfl rfl) ?_
      have Px74 := readsD_new wh.drew 28 3 [dA, dB, dC] (len16_3 HA.out HB.out HC.out) rfl _ (flat3 dA dB dC)
      have hx74 : Below wh.drew.heap.size wh.drew (wh.drew.alloc (.cells (bvs dA ++ (bvs dB ++ bvs dC)).toArray 28)) := (Below.refl _ _).alloc (Nat.le_refl _) _
      generalize wh.drew.alloc (.cells (bvs dA ++ (bvs dB ++ bvs dC)).toArray 28) = wx74 at *
      have Bx75 := bh.drew.trans (hx74.mono bh.drew.size)
      have rax75 := rah.drew.on hx74
      have rbx75 := rbh.drew.on hx74
      have rcx75 := rch.drew.on hx74
      have rlx75 := rlh.drew.on hx74
      have rRx75 := rRh.drew.on hx74
      have Px75 := (show ReadsD wh.drew Ap 1 [dL] from hrph).on hx74
      have Kx75 := (hCo.on bh.drew).on hx74
      refine hK _ _ ⟨rax75, rbx75, rcx75, rlx75, rRx75⟩ ?_
      clear hK K
      simp only [Act.put, List.setIfInBounds_toArray, List.set_cons_zero, List.set_cons_succ]
      refine plan_one _ rfl fun K hK => ?_
      go_simp
      refine (root_any _ 3 3 _ _ Kx75 Px74 (by omega) (by omega)).mono ?_
      rintro e wx76 ⟨rfl, hx76⟩
      rw [root_abc]
      have Bx77 := Bx75.trans (hx76.mono Bx75.size)
      have rax77 := rax75.on hx76
      have rbx77 := rbx75.on hx76
      have rcx77 := rcx75.on hx76
      have rlx77 := rlx75.on hx76
      have rRx77 := rRx75.on hx76
      have Px77 := Px75.on hx76
      have Kx77 := Kx75.on hx76
      have Qx77 := Px74.on hx76
      refine hK _ _ ⟨rax77, rbx77, rcx77, rlx77, rRx77⟩ ?_
      clear hK K
      repeat (refine plan_take _ rfl ?_; (first | (refine wpQuiet_valueG (o := ⟨some 45, _, _, _, _, _⟩) rfl _ (by intro _ h; exact exec_load16 _ _ rfl _ rfl dA HA.out h.1.cells) (wpQuiet_nil ?_); simp only [Act.put, List.setIfInBounds_toArray, List.set_cons_zero, List.set_cons_succ]) | (refine wpQuiet_valueG (o := ⟨some 46, _, _, _, _, _⟩) rfl _ (by intro _ h; exact exec_load16 _ _ rfl _ rfl dB HB.out h.2.1.cells) (wpQuiet_nil ?_); simp only [Act.put, List.setIfInBounds_toArray, List.set_cons_zero, List.set_cons_succ]) | (refine wpQuiet_valueG (o := ⟨some 47, _, _, _, _, _⟩) rfl _ (by intro _ h; exact exec_load16 _ _ rfl _ rfl dC HC.out h.2.2.1.cells) (wpQuiet_nil ?_); simp only [Act.put, List.setIfInBounds_toArray, List.set_cons_zero, List.set_cons_succ]) | (refine wpQuiet_valueG (o := ⟨some 50, _, _, _, _, _⟩) rfl _ (by intro _ h; exact exec_load16 _ _ rfl _ rfl dR HR.out h.2.2.2.2.cells) (wpQuiet_nil ?_); simp only [Act.put, List.setIfInBounds_toArray, List.set_cons_zero, List.set_cons_succ]) | (refine wpQuiet_valueG (o := ⟨some 55, _, _, _, _, _⟩) rfl _ (by intro _ h; exact exec_load16 _ _ rfl _ rfl dL HL.out h.2.2.2.1.cells) (wpQuiet_nil ?_); simp only [Act.put, List.setIfInBounds_toArray, List.set_cons_zero, List.set_cons_succ]) | (refine wpQuiet_valueG (o := ⟨some 60, _, _, _, _, _⟩) rfl _ (by intro _ h; exact exec_load16 _ _ rfl _ rfl dR HR.out h.2.2.2.2.cells) (wpQuiet_nil ?_); simp only [Act.put, List.setIfInBounds_toArray, List.set_cons_zero, List.set_cons_succ]) | (refine wpQuiet_valueG (o := ⟨some 61, _, _, _, _, _⟩) rfl _ (by intro _ h; exact exec_load16 _ _ rfl _ rfl dC HC.out h.2.2.1.cells) (wpQuiet_nil ?_); simp only [Act.put, List.setIfInBounds_toArray, List.set_cons_zero, List.set_cons_succ]) | (refine wpQuiet_valueG (o := ⟨some 66, _, _, _, _, _⟩) rfl _ (by intro _ h; exact exec_load16 _ _ rfl _ rfl dR HR.out h.2.2.2.2.cells) (wpQuiet_nil ?_); simp only [Act.put, List.setIfInBounds_toArray, List.set_cons_zero, List.set_cons_succ]) | (refine wpQuiet_valueG (o := ⟨some 67, _, _, _, _, _⟩) rfl _ (by intro _ h; exact exec_load16 _ _ rfl _ rfl dA HA.out h.1.cells) (wpQuiet_nil ?_); simp only [Act.put, List.setIfInBounds_toArray, List.set_cons_zero, List.set_cons_succ]) | (refine wpQuiet_valueG (o := ⟨some 73, _, _, _, _, _⟩) rfl _ (by intro _ h; exact exec_load16 _ _ rfl _ rfl dR HR.out h.2.2.2.2.cells) (wpQuiet_nil ?_); simp only [Act.put, List.setIfInBounds_toArray, List.set_cons_zero, List.set_cons_succ]) | (refine wpQuiet_valueG (o := ⟨some 74, _, _, _, _, _⟩) rfl _ (by intro _ h; exact exec_load16 _ _ rfl _ rfl dC HC.out h.2.2.1.cells) (wpQuiet_nil ?_); simp only [Act.put, List.setIfInBounds_toArray, List.set_cons_zero, List.set_cons_succ]) | (refine wpQuiet_valueG (o := ⟨some 85, _, _, _, _, _⟩) rfl _ (by intro _ h; exact exec_load16 _ _ rfl _ rfl dA HA.out h.1.cells) (wpQuiet_nil ?_); simp only [Act.put, List.setIfInBounds_toArray, List.set_cons_zero, List.set_cons_succ]) | (refine wpQuiet_valueG (o := ⟨some 86, _, _, _, _, _⟩) rfl _ (by intro _ h; exact exec_load16 _ _ rfl _ rfl dB HB.out h.2.1.cells) (wpQuiet_nil ?_); simp only [Act.put, List.setIfInBounds_toArray, List.set_cons_zero, List.set_cons_succ]) | (refine wpQuiet_valueG (o := ⟨some 51, _, _, _, _, _⟩) rfl _ (by intro _ h; exact exec_eql16 _ _ _ rfl dR dR HR.out HR.out rfl rfl) (wpQuiet_nil ?_); simp only [eRR, Act.put, List.setIfInBounds_toArray, List.set_cons_zero, List.set_cons_succ]) | (refine wpQuiet_valueG (o := ⟨some 82, _, _, _, _, _⟩) rfl _ (by intro _ h; exact exec_eql16 _ _ _ rfl (root []) (root []) (root_len _) (root_len _) rfl rfl) (wpQuiet_nil ?_); simp only [eNN, Act.put, List.setIfInBounds_toArray, List.set_cons_zero, List.set_cons_succ]) | (refine wpQuiet_valueG (o := ⟨some 87, _, _, _, _, _⟩) rfl _ (by intro _ h; exact exec_neq16 _ _ _ rfl dA dB HA.out HB.out rfl rfl) (wpQuiet_nil ?_); simp only [eAB, Bool.not_false, Act.put, List.setIfInBounds_toArray, List.set_cons_zero, List.set_cons_succ]) | (go_big_quiet_step ((intros; rfl)); refine wpQuiet_nil ?_)))
      refine plan_one _ rfl fun K hK => ?_
      refine step_valueG rfl _ _ (by exact exec_slice1 _ 22 28 _ rfl Tryd.underlying22 i0 _ hi0 hz0 (bvs dL) (hi1.trans ((bvs_length _).trans HL.out).symm) (by rw [bvs_length, HL.out]; omega) (by rw [bvs_length, HL.out]; omega) rfl) ?_
      have Px78 := readsD_new wx76 28 1 [dL] (len16_1 HL.out) rfl _ (flat1 dL)
      have hx78 : Below wx76.heap.size wx76 (wx76.alloc (.cells (bvs dL).toArray 28)) := (Below.refl _ _).alloc (Nat.le_refl _) _
      generalize wx76.alloc (.cells (bvs dL).toArray 28) = wx78 at *
      have Bx79 := Bx77.trans (hx78.mono Bx77.size)
      have rax79 := rax77.on hx78
      have rbx79 := rbx77.on hx78
      have rcx79 := rcx77.on hx78
      have rlx79 := rlx77.on hx78
      have rRx79 := rRx77.on hx78
      have Px79 := Px77.on hx78
      have Kx79 := Kx77.on hx78
      have Qx79 := Qx77.on hx78
      refine hK _ _ ⟨rax79, rbx79, rcx79, rlx79, rRx79⟩ ?_
      clear hK K
      simp only [Act.put, List.setIfInBounds_toArray, List.set_cons_zero, List.set_cons_succ]
      refine plan_one _ rfl fun K hK => ?_
      go_simp
      refine (refSame_any _ _ _ _ [dL] [dL] 1 1 _ _ _ Px79.1 Px78.1 (len16_1 HL.out) (len16_1 HL.out) (by omega) (by omega)).mono ?_
      rintro e wx80 ⟨rfl, mx80, qx80⟩
      have hx80 : Below wx78.heap.size wx78 wx80 := by rw [qx80]; exact below_drewN (Below.refl _ _) _
      clear qx80
      rw [eLL]
      have Bx81 := Bx79.trans (hx80.mono Bx79.size)
      have rax81 := rax79.on hx80
      have rbx81 := rbx79.on hx80
      have rcx81 := rcx79.on hx80
      have rlx81 := rlx79.on hx80
      have rRx81 := rRx79.on hx80
      have Px81 := Px79.on hx80
      have Kx81 := Kx79.on hx80
      have Qx81 := Px78.on hx80
      refine hK _ _ ⟨rax81, rbx81, rcx81, rlx81, rRx81⟩ ?_
      clear hK K
      repeat (refine plan_take _ rfl ?_; (first | (refine wpQuiet_valueG (o := ⟨some 45, _, _, _, _, _⟩) rfl _ (by intro _ h; exact exec_load16 _ _ rfl _ rfl dA HA.out h.1.cells) (wpQuiet_nil ?_); simp only [Act.put, List.setIfInBounds_toArray, List.set_cons_zero, List.set_cons_succ]) | (refine wpQuiet_valueG (o := ⟨some 46, _, _, _, _, _⟩) rfl _ (by intro _ h; exact exec_load16 _ _ rfl _ rfl dB HB.out h.2.1.cells) (wpQuiet_nil ?_); simp only [Act.put, List.setIfInBounds_toArray, List.set_cons_zero, List.set_cons_succ]) | (refine wpQuiet_valueG (o := ⟨some 47, _, _, _, _, _⟩) rfl _ (by intro _ h; exact exec_load16 _ _ rfl _ rfl dC HC.out h.2.2.1.cells) (wpQuiet_nil ?_); simp only [Act.put, List.setIfInBounds_toArray, List.set_cons_zero, List.set_cons_succ]) | (refine wpQuiet_valueG (o := ⟨some 50, _, _, _, _, _⟩) rfl _ (by intro _ h; exact exec_load16 _ _ rfl _ rfl dR HR.out h.2.2.2.2.cells) (wpQuiet_nil ?_); simp only [Act.put, List.setIfInBounds_toArray, List.set_cons_zero, List.set_cons_succ]) | (refine wpQuiet_valueG (o := ⟨some 55, _, _, _, _, _⟩) rfl _ (by intro _ h; exact exec_load16 _ _ rfl _ rfl dL HL.out h.2.2.2.1.cells) (wpQuiet_nil ?_); simp only [Act.put, List.setIfInBounds_toArray, List.set_cons_zero, List.set_cons_succ]) | (refine wpQuiet_valueG (o := ⟨some 60, _, _, _, _, _⟩) rfl _ (by intro _ h; exact exec_load16 _ _ rfl _ rfl dR HR.out h.2.2.2.2.cells) (wpQuiet_nil ?_); simp only [Act.put, List.setIfInBounds_toArray, List.set_cons_zero, List.set_cons_succ]) | (refine wpQuiet_valueG (o := ⟨some 61, _, _, _, _, _⟩) rfl _ (by intro _ h; exact exec_load16 _ _ rfl _ rfl dC HC.out h.2.2.1.cells) (wpQuiet_nil ?_); simp only [Act.put, List.setIfInBounds_toArray, List.set_cons_zero, List.set_cons_succ]) | (refine wpQuiet_valueG (o := ⟨some 66, _, _, _, _, _⟩) rfl _ (by intro _ h; exact exec_load16 _ _ rfl _ rfl dR HR.out h.2.2.2.2.cells) (wpQuiet_nil ?_); simp only [Act.put, List.setIfInBounds_toArray, List.set_cons_zero, List.set_cons_succ]) | (refine wpQuiet_valueG (o := ⟨some 67, _, _, _, _, _⟩) rfl _ (by intro _ h; exact exec_load16 _ _ rfl _ rfl dA HA.out h.1.cells) (wpQuiet_nil ?_); simp only [Act.put, List.setIfInBounds_toArray, List.set_cons_zero, List.set_cons_succ]) | (refine wpQuiet_valueG (o := ⟨some 73, _, _, _, _, _⟩) rfl _ (by intro _ h; exact exec_load16 _ _ rfl _ rfl dR HR.out h.2.2.2.2.cells) (wpQuiet_nil ?_); simp only [Act.put, List.setIfInBounds_toArray, List.set_cons_zero, List.set_cons_succ]) | (refine wpQuiet_valueG (o := ⟨some 74, _, _, _, _, _⟩) rfl _ (by intro _ h; exact exec_load16 _ _ rfl _ rfl dC HC.out h.2.2.1.cells) (wpQuiet_nil ?_); simp only [Act.put, List.setIfInBounds_toArray, List.set_cons_zero, List.set_cons_succ]) | (refine wpQuiet_valueG (o := ⟨some 85, _, _, _, _, _⟩) rfl _ (by intro _ h; exact exec_load16 _ _ rfl _ rfl dA HA.out h.1.cells) (wpQuiet_nil ?_); simp only [Act.put, List.setIfInBounds_toArray, List.set_cons_zero, List.set_cons_succ]) | (refine wpQuiet_valueG (o := ⟨some 86, _, _, _, _, _⟩) rfl _ (by intro _ h; exact exec_load16 _ _ rfl _ rfl dB HB.out h.2.1.cells) (wpQuiet_nil ?_); simp only [Act.put, List.setIfInBounds_toArray, List.set_cons_zero, List.set_cons_succ]) | (refine wpQuiet_valueG (o := ⟨some 51, _, _, _, _, _⟩) rfl _ (by intro _ h; exact exec_eql16 _ _ _ rfl dR dR HR.out HR.out rfl rfl) (wpQuiet_nil ?_); simp only [eRR, Act.put, List.setIfInBounds_toArray, List.set_cons_zero, List.set_cons_succ]) | (refine wpQuiet_valueG (o := ⟨some 82, _, _, _, _, _⟩) rfl _ (by intro _ h; exact exec_eql16 _ _ _ rfl (root []) (root []) (root_len _) (root_len _) rfl rfl) (wpQuiet_nil ?_); simp only [eNN, Act.put, List.setIfInBounds_toArray, List.set_cons_zero, List.set_cons_succ]) | (refine wpQuiet_valueG (o := ⟨some 87, _, _, _, _, _⟩) rfl _ (by intro _ h; exact exec_neq16 _ _ _ rfl dA dB HA.out HB.out rfl rfl) (wpQuiet_nil ?_); simp only [eAB, Bool.not_false, Act.put, List.setIfInBounds_toArray, List.set_cons_zero, List.set_cons_succ]) | (go_big_quiet_step ((intros; rfl)); refine wpQuiet_nil ?_)))
      refine plan_one _ rfl fun K hK => ?_
      go_simp
      refine (verify_any _ cp 1 3 2 dR dC [dL] _ Kx81 HR.out HC.out Px81 hcp (by omega) (by omega) (by omega)).mono ?_
      rintro e wx82 ⟨rfl, hx82⟩
      rw [ver_c]
      have Bx83 := Bx81.trans (hx82.mono Bx81.size)
      have rax83 := rax81.on hx82
      have rbx83 := rbx81.on hx82
      have rcx83 := rcx81.on hx82
      have rlx83 := rlx81.on hx82
      have rRx83 := rRx81.on hx82
      have Px83 := Px81.on hx82
      have Kx83 := Kx81.on hx82
      have Qx83 := Qx81.on hx82
      refine hK _ _ ⟨rax83, rbx83, rcx83, rlx83, rRx83⟩ ?_
      clear hK K
      repeat (refine plan_take _ rfl ?_; (first | (refine wpQuiet_valueG (o := ⟨some 45, _, _, _, _, _⟩) rfl _ (by intro _ h; exact exec_load16 _ _ rfl _ rfl dA HA.out h.1.cells) (wpQuiet_nil ?_); simp only [Act.put, List.setIfInBounds_toArray, List.set_cons_zero, List.set_cons_succ]) | (refine wpQuiet_valueG (o := ⟨some 46, _, _, _, _, _⟩) rfl _ (by intro _ h; exact exec_load16 _ _ rfl _ rfl dB HB.out h.2.1.cells) (wpQuiet_nil ?_); simp only [Act.put, List.setIfInBounds_toArray, List.set_cons_zero, List.set_cons_succ]) | (refine wpQuiet_valueG (o := ⟨some 47, _, _, _, _, _⟩) rfl _ (by intro _ h; exact exec_load16 _ _ rfl _ rfl dC HC.out h.2.2.1.cells) (wpQuiet_nil ?_); simp only [Act.put, List.setIfInBounds_toArray, List.set_cons_zero, List.set_cons_succ]) | (refine wpQuiet_valueG (o := ⟨some 50, _, _, _, _, _⟩) rfl _ (by intro _ h; exact exec_load16 _ _ rfl _ rfl dR HR.out h.2.2.2.2.cells) (wpQuiet_nil ?_); simp only [Act.put, List.setIfInBounds_toArray, List.set_cons_zero, List.set_cons_succ]) | (refine wpQuiet_valueG (o := ⟨some 55, _, _, _, _, _⟩) rfl _ (by intro _ h; exact exec_load16 _ _ rfl _ rfl dL HL.out h.2.2.2.1.cells) (wpQuiet_nil ?_); simp only [Act.put, List.setIfInBounds_toArray, List.set_cons_zero, List.set_cons_succ]) | (refine wpQuiet_valueG (o := ⟨some 60, _, _, _, _, _⟩) rfl _ (by intro _ h; exact exec_load16 _ _ rfl _ rfl dR HR.out h.2.2.2.2.cells) (wpQuiet_nil ?_); simp only [Act.put, List.setIfInBounds_toArray, List.set_cons_zero, List.set_cons_succ]) | (refine wpQuiet_valueG (o := ⟨some 61, _, _, _, _, _⟩) rfl _ (by intro _ h; exact exec_load16 _ _ rfl _ rfl dC HC.out h.2.2.1.cells) (wpQuiet_nil ?_); simp only [Act.put, List.setIfInBounds_toArray, List.set_cons_zero, List.set_cons_succ]) | (refine wpQuiet_valueG (o := ⟨some 66, _, _, _, _, _⟩) rfl _ (by intro _ h; exact exec_load16 _ _ rfl _ rfl dR HR.out h.2.2.2.2.cells) (wpQuiet_nil ?_); simp only [Act.put, List.setIfInBounds_toArray, List.set_cons_zero, List.set_cons_succ]) | (refine wpQuiet_valueG (o := ⟨some 67, _, _, _, _, _⟩) rfl _ (by intro _ h; exact exec_load16 _ _ rfl _ rfl dA HA.out h.1.cells) (wpQuiet_nil ?_); simp only [Act.put, List.setIfInBounds_toArray, List.set_cons_zero, List.set_cons_succ]) | (refine wpQuiet_valueG (o := ⟨some 73, _, _, _, _, _⟩) rfl _ (by intro _ h; exact exec_load16 _ _ rfl _ rfl dR HR.out h.2.2.2.2.cells) (wpQuiet_nil ?_); simp only [Act.put, List.setIfInBounds_toArray, List.set_cons_zero, List.set_cons_succ]) | (refine wpQuiet_valueG (o := ⟨some 74, _, _, _, _, _⟩) rfl _ (by intro _ h; exact exec_load16 _ _ rfl _ rfl dC HC.out h.2.2.1.cells) (wpQuiet_nil ?_); simp only [Act.put, List.setIfInBounds_toArray, List.set_cons_zero, List.set_cons_succ]) | (refine wpQuiet_valueG (o := ⟨some 85, _, _, _, _, _⟩) rfl _ (by intro _ h; exact exec_load16 _ _ rfl _ rfl dA HA.out h.1.cells) (wpQuiet_nil ?_); simp only [Act.put, List.setIfInBounds_toArray, List.set_cons_zero, List.set_cons_succ]) | (refine wpQuiet_valueG (o := ⟨some 86, _, _, _, _, _⟩) rfl _ (by intro _ h; exact exec_load16 _ _ rfl _ rfl dB HB.out h.2.1.cells) (wpQuiet_nil ?_); simp only [Act.put, List.setIfInBounds_toArray, List.set_cons_zero, List.set_cons_succ]) | (refine wpQuiet_valueG (o := ⟨some 51, _, _, _, _, _⟩) rfl _ (by intro _ h; exact exec_eql16 _ _ _ rfl dR dR HR.out HR.out rfl rfl) (wpQuiet_nil ?_); simp only [eRR, Act.put, List.setIfInBounds_toArray, List.set_cons_zero, List.set_cons_succ]) | (refine wpQuiet_valueG (o := ⟨some 82, _, _, _, _, _⟩) rfl _ (by intro _ h; exact exec_eql16 _ _ _ rfl (root []) (root []) (root_len _) (root_len _) rfl rfl) (wpQuiet_nil ?_); simp only [eNN, Act.put, List.setIfInBounds_toArray, List.set_cons_zero, List.set_cons_succ]) | (refine wpQuiet_valueG (o := ⟨some 87, _, _, _, _, _⟩) rfl _ (by intro _ h; exact exec_neq16 _ _ _ rfl dA dB HA.out HB.out rfl rfl) (wpQuiet_nil ?_); simp only [eAB, Bool.not_false, Act.put, List.setIfInBounds_toArray, List.set_cons_zero, List.set_cons_succ]) | (go_big_quiet_step ((intros; rfl)); refine wpQuiet_nil ?_)))
      refine plan_one _ rfl fun K hK => ?_
      go_simp
      refine (verify_any _ cp 1 3 2 dR dA [dL] _ Kx83 HR.out HA.out Px83 hcp (by omega) (by omega) (by omega)).mono ?_
      rintro e wx84 ⟨rfl, hx84⟩
      rw [ver_a]
      have Bx85 := Bx83.trans (hx84.mono Bx83.size)
      have rax85 := rax83.on hx84
      have rbx85 := rbx83.on hx84
      have rcx85 := rcx83.on hx84
      have rlx85 := rlx83.on hx84
      have rRx85 := rRx83.on hx84
      have Px85 := Px83.on hx84
      have Kx85 := Kx83.on hx84
      have Qx85 := Qx83.on hx84
      refine hK _ _ ⟨rax85, rbx85, rcx85, rlx85, rRx85⟩ ?_
      clear hK K
      repeat (refine plan_take _ rfl ?_; (first | (refine wpQuiet_valueG (o := ⟨some 45, _, _, _, _, _⟩) rfl _ (by intro _ h; exact exec_load16 _ _ rfl _ rfl dA HA.out h.1.cells) (wpQuiet_nil ?_); simp only [Act.put, List.setIfInBounds_toArray, List.set_cons_zero, List.set_cons_succ]) | (refine wpQuiet_valueG (o := ⟨some 46, _, _, _, _, _⟩) rfl _ (by intro _ h; exact exec_load16 _ _ rfl _ rfl dB HB.out h.2.1.cells) (wpQuiet_nil ?_); simp only [Act.put, List.setIfInBounds_toArray, List.set_cons_zero, List.set_cons_succ]) | (refine wpQuiet_valueG (o := ⟨some 47, _, _, _, _, _⟩) rfl _ (by intro _ h; exact exec_load16 _ _ rfl _ rfl dC HC.out h.2.2.1.cells) (wpQuiet_nil ?_); simp only [Act.put, List.setIfInBounds_toArray, List.set_cons_zero, List.set_cons_succ]) | (refine wpQuiet_valueG (o := ⟨some 50, _, _, _, _, _⟩) rfl _ (by intro _ h; exact exec_load16 _ _ rfl _ rfl dR HR.out h.2.2.2.2.cells) (wpQuiet_nil ?_); simp only [Act.put, List.setIfInBounds_toArray, List.set_cons_zero, List.set_cons_succ]) | (refine wpQuiet_valueG (o := ⟨some 55, _, _, _, _, _⟩) rfl _ (by intro _ h; exact exec_load16 _ _ rfl _ rfl dL HL.out h.2.2.2.1.cells) (wpQuiet_nil ?_); simp only [Act.put, List.setIfInBounds_toArray, List.set_cons_zero, List.set_cons_succ]) | (refine wpQuiet_valueG (o := ⟨some 60, _, _, _, _, _⟩) rfl _ (by intro _ h; exact exec_load16 _ _ rfl _ rfl dR HR.out h.2.2.2.2.cells) (wpQuiet_nil ?_); simp only [Act.put, List.setIfInBounds_toArray, List.set_cons_zero, List.set_cons_succ]) | (refine wpQuiet_valueG (o := ⟨some 61, _, _, _, _, _⟩) rfl _ (by intro _ h; exact exec_load16 _ _ rfl _ rfl dC HC.out h.2.2.1.cells) (wpQuiet_nil ?_); simp only [Act.put, List.setIfInBounds_toArray, List.set_cons_zero, List.set_cons_succ]) | (refine wpQuiet_valueG (o := ⟨some 66, _, _, _, _, _⟩) rfl _ (by intro _ h; exact exec_load16 _ _ rfl _ rfl dR HR.out h.2.2.2.2.cells) (wpQuiet_nil ?_); simp only [Act.put, List.setIfInBounds_toArray, List.set_cons_zero, List.set_cons_succ]) | (refine wpQuiet_valueG (o := ⟨some 67, _, _, _, _, _⟩) rfl _ (by intro _ h; exact exec_load16 _ _ rfl _ rfl dA HA.out h.1.cells) (wpQuiet_nil ?_); simp only [Act.put, List.setIfInBounds_toArray, List.set_cons_zero, List.set_cons_succ]) | (refine wpQuiet_valueG (o := ⟨some 73, _, _, _, _, _⟩) rfl _ (by intro _ h; exact exec_load16 _ _ rfl _ rfl dR HR.out h.2.2.2.2.cells) (wpQuiet_nil ?_); simp only [Act.put, List.setIfInBounds_toArray, List.set_cons_zero, List.set_cons_succ]) | (refine wpQuiet_valueG (o := ⟨some 74, _, _, _, _, _⟩) rfl _ (by intro _ h; exact exec_load16 _ _ rfl _ rfl dC HC.out h.2.2.1.cells) (wpQuiet_nil ?_); simp only [Act.put, List.setIfInBounds_toArray, List.set_cons_zero, List.set_cons_succ]) | (refine wpQuiet_valueG (o := ⟨some 85, _, _, _, _, _⟩) rfl _ (by intro _ h; exact exec_load16 _ _ rfl _ rfl dA HA.out h.1.cells) (wpQuiet_nil ?_); simp only [Act.put, List.setIfInBounds_toArray, List.set_cons_zero, List.set_cons_succ]) | (refine wpQuiet_valueG (o := ⟨some 86, _, _, _, _, _⟩) rfl _ (by intro _ h; exact exec_load16 _ _ rfl _ rfl dB HB.out h.2.1.cells) (wpQuiet_nil ?_); simp only [Act.put, List.setIfInBounds_toArray, List.set_cons_zero, List.set_cons_succ]) | (refine wpQuiet_valueG (o := ⟨some 51, _, _, _, _, _⟩) rfl _ (by intro _ h; exact exec_eql16 _ _ _ rfl dR dR HR.out HR.out rfl rfl) (wpQuiet_nil ?_); simp only [eRR, Act.put, List.setIfInBounds_toArray, List.set_cons_zero, List.set_cons_succ]) | (refine wpQuiet_valueG (o := ⟨some 82, _, _, _, _, _⟩) rfl _ (by intro _ h; exact exec_eql16 _ _ _ rfl (root []) (root []) (root_len _) (root_len _) rfl rfl) (wpQuiet_nil ?_); simp only [eNN, Act.put, List.setIfInBounds_toArray, List.set_cons_zero, List.set_cons_succ]) | (refine wpQuiet_valueG (o := ⟨some 87, _, _, _, _, _⟩) rfl _ (by intro _ h; exact exec_neq16 _ _ _ rfl dA dB HA.out HB.out rfl rfl) (wpQuiet_nil ?_); simp only [eAB, Bool.not_false, Act.put, List.setIfInBounds_toArray, List.set_cons_zero, List.set_cons_succ]) | (go_big_quiet_step ((intros; rfl)); refine wpQuiet_nil ?_)))
      refine plan_one _ rfl fun K hK => ?_
      go_simp
      refine (verify_any _ cp 1 3 1 dR dC [dL] _ Kx85 HR.out HC.out Px85 hcp (by omega) (by omega) (by omega)).mono ?_
      rintro e wx86 ⟨rfl, hx86⟩
      rw [ver_1]
      have Bx87 := Bx85.trans (hx86.mono Bx85.size)
      have rax87 := rax85.on hx86
      have rbx87 := rbx85.on hx86
      have rcx87 := rcx85.on hx86
      have rlx87 := rlx85.on hx86
      have rRx87 := rRx85.on hx86
      have Px87 := Px85.on hx86
      have Kx87 := Kx85.on hx86
      have Qx87 := Qx85.on hx86
      refine hK _ _ ⟨rax87, rbx87, rcx87, rlx87, rRx87⟩ ?_
      clear hK K
      repeat (refine plan_take _ rfl ?_; (first | (refine wpQuiet_valueG (o := ⟨some 45, _, _, _, _, _⟩) rfl _ (by intro _ h; exact exec_load16 _ _ rfl _ rfl dA HA.out h.1.cells) (wpQuiet_nil ?_); simp only [Act.put, List.setIfInBounds_toArray, List.set_cons_zero, List.set_cons_succ]) | (refine wpQuiet_valueG (o := ⟨some 46, _, _, _, _, _⟩) rfl _ (by intro _ h; exact exec_load16 _ _ rfl _ rfl dB HB.out h.2.1.cells) (wpQuiet_nil ?_); simp only [Act.put, List.setIfInBounds_toArray, List.set_cons_zero, List.set_cons_succ]) | (refine wpQuiet_valueG (o := ⟨some 47, _, _, _, _, _⟩) rfl _ (by intro _ h; exact exec_load16 _ _ rfl _ rfl dC HC.out h.2.2.1.cells) (wpQuiet_nil ?_); simp only [Act.put, List.setIfInBounds_toArray, List.set_cons_zero, List.set_cons_succ]) | (refine wpQuiet_valueG (o := ⟨some 50, _, _, _, _, _⟩) rfl _ (by intro _ h; exact exec_load16 _ _ rfl _ rfl dR HR.out h.2.2.2.2.cells) (wpQuiet_nil ?_); simp only [Act.put, List.setIfInBounds_toArray, List.set_cons_zero, List.set_cons_succ]) | (refine wpQuiet_valueG (o := ⟨some 55, _, _, _, _, _⟩) rfl _ (by intro _ h; exact exec_load16 _ _ rfl _ rfl dL HL.out h.2.2.2.1.cells) (wpQuiet_nil ?_); simp only [Act.put, List.setIfInBounds_toArray, List.set_cons_zero, List.set_cons_succ]) | (refine wpQuiet_valueG (o := ⟨some 60, _, _, _, _, _⟩) rfl _ (by intro _ h; exact exec_load16 _ _ rfl _ rfl dR HR.out h.2.2.2.2.cells) (wpQuiet_nil ?_); simp only [Act.put, List.setIfInBounds_toArray, List.set_cons_zero, List.set_cons_succ]) | (refine wpQuiet_valueG (o := ⟨some 61, _, _, _, _, _⟩) rfl _ (by intro _ h; exact exec_load16 _ _ rfl _ rfl dC HC.out h.2.2.1.cells) (wpQuiet_nil ?_); simp only [Act.put, List.setIfInBounds_toArray, List.set_cons_zero, List.set_cons_succ]) | (refine wpQuiet_valueG (o := ⟨some 66, _, _, _, _, _⟩) rfl _ (by intro _ h; exact exec_load16 _ _ rfl _ rfl dR HR.out h.2.2.2.2.cells) (wpQuiet_nil ?_); simp only [Act.put, List.setIfInBounds_toArray, List.set_cons_zero, List.set_cons_succ]) | (refine wpQuiet_valueG (o := ⟨some 67, _, _, _, _, _⟩) rfl _ (by intro _ h; exact exec_load16 _ _ rfl _ rfl dA HA.out h.1.cells) (wpQuiet_nil ?_); simp only [Act.put, List.setIfInBounds_toArray, List.set_cons_zero, List.set_cons_succ]) | (refine wpQuiet_valueG (o := ⟨some 73, _, _, _, _, _⟩) rfl _ (by intro _ h; exact exec_load16 _ _ rfl _ rfl dR HR.out h.2.2.2.2.cells) (wpQuiet_nil ?_); simp only [Act.put, List.setIfInBounds_toArray, List.set_cons_zero, List.set_cons_succ]) | (refine wpQuiet_valueG (o := ⟨some 74, _, _, _, _, _⟩) rfl _ (by intro _ h; exact exec_load16 _ _ rfl _ rfl dC HC.out h.2.2.1.cells) (wpQuiet_nil ?_); simp only [Act.put, List.setIfInBounds_toArray, List.set_cons_zero, List.set_cons_succ]) | (refine wpQuiet_valueG (o := ⟨some 85, _, _, _, _, _⟩) rfl _ (by intro _ h; exact exec_load16 _ _ rfl _ rfl dA HA.out h.1.cells) (wpQuiet_nil ?_); simp only [Act.put, List.setIfInBounds_toArray, List.set_cons_zero, List.set_cons_succ]) | (refine wpQuiet_valueG (o := ⟨some 86, _, _, _, _, _⟩) rfl _ (by intro _ h; exact exec_load16 _ _ rfl _ rfl dB HB.out h.2.1.cells) (wpQuiet_nil ?_); simp only [Act.put, List.setIfInBounds_toArray, List.set_cons_zero, List.set_cons_succ]) | (refine wpQuiet_valueG (o := ⟨some 51, _, _, _, _, _⟩) rfl _ (by intro _ h; exact exec_eql16 _ _ _ rfl dR dR HR.out HR.out rfl rfl) (wpQuiet_nil ?_); simp only [eRR, Act.put, List.setIfInBounds_toArray, List.set_cons_zero, List.set_cons_succ]) | (refine wpQuiet_valueG (o := ⟨some 82, _, _, _, _, _⟩) rfl _ (by intro _ h; exact exec_eql16 _ _ _ rfl (root []) (root []) (root_len _) (root_len _) rfl rfl) (wpQuiet_nil ?_); simp only [eNN, Act.put, List.setIfInBounds_toArray, List.set_cons_zero, List.set_cons_succ]) | (refine wpQuiet_valueG (o := ⟨some 87, _, _, _, _, _⟩) rfl _ (by intro _ h; exact exec_neq16 _ _ _ rfl dA dB HA.out HB.out rfl rfl) (wpQuiet_nil ?_); simp only [eAB, Bool.not_false, Act.put, List.setIfInBounds_toArray, List.set_cons_zero, List.set_cons_succ]) | (go_big_quiet_step ((intros; rfl)); refine wpQuiet_nil ?_)))
      refine plan_one _ rfl fun K hK => ?_
      go_simp
      refine (root_any none 0 0 [] _ Kx87 ReadsD.nil_ (by omega) (by omega)).mono ?_
      rintro e wx88 ⟨rfl, hx88⟩
      have Bx89 := Bx87.trans (hx88.mono Bx87.size)
      have rax89 := rax87.on hx88
      have rbx89 := rbx87.on hx88
      have rcx89 := rcx87.on hx88
      have rlx89 := rlx87.on hx88
      have rRx89 := rRx87.on hx88
      have Px89 := Px87.on hx88
      have Kx89 := Kx87.on hx88
      have Qx89 := Qx87.on hx88
      refine hK _ _ ⟨rax89, rbx89, rcx89, rlx89, rRx89⟩ ?_
      clear hK K
      refine plan_one _ rfl fun K hK => ?_
      go_simp
      refine (digest_any 1 none 0 [] 0 _ Kx89 (readsP_none _ _) (by omega) (by simp)).mono ?_
      rintro e wx90 ⟨rfl, hx90⟩
      rw [eD1.out]
      have Bx91 := Bx89.trans (hx90.mono Bx89.size)
      have rax91 := rax89.on hx90
      have rbx91 := rbx89.on hx90
      have rcx91 := rcx89.on hx90
      have rlx91 := rlx89.on hx90
      have rRx91 := rRx89.on hx90
      have Px91 := Px89.on hx90
      have Kx91 := Kx89.on hx90
      have Qx91 := Qx89.on hx90
      refine hK _ _ ⟨rax91, rbx91, rcx91, rlx91, rRx91⟩ ?_
      clear hK K
      repeat (refine plan_take _ rfl ?_; (first | (refine wpQuiet_valueG (o := ⟨some 45, _, _, _, _, _⟩) rfl _ (by intro _ h; exact exec_load16 _ _ rfl _ rfl dA HA.out h.1.cells) (wpQuiet_nil ?_); simp only [Act.put, List.setIfInBounds_toArray, List.set_cons_zero, List.set_cons_succ]) | (refine wpQuiet_valueG (o := ⟨some 46, _, _, _, _, _⟩) rfl _ (by intro _ h; exact exec_load16 _ _ rfl _ rfl dB HB.out h.2.1.cells) (wpQuiet_nil ?_); simp only [Act.put, List.setIfInBounds_toArray, List.set_cons_zero, List.set_cons_succ]) | (refine wpQuiet_valueG (o := ⟨some 47, _, _, _, _, _⟩) rfl _ (by intro _ h; exact exec_load16 _ _ rfl _ rfl dC HC.out h.2.2.1.cells) (wpQuiet_nil ?_); simp only [Act.put, List.setIfInBounds_toArray, List.set_cons_zero, List.set_cons_succ]) | (refine wpQuiet_valueG (o := ⟨some 50, _, _, _, _, _⟩) rfl _ (by intro _ h; exact exec_load16 _ _ rfl _ rfl dR HR.out h.2.2.2.2.cells) (wpQuiet_nil ?_); simp only [Act.put, List.setIfInBounds_toArray, List.set_cons_zero, List.set_cons_succ]) | (refine wpQuiet_valueG (o := ⟨some 55, _, _, _, _, _⟩) rfl _ (by intro _ h; exact exec_load16 _ _ rfl _ rfl dL HL.out h.2.2.2.1.cells) (wpQuiet_nil ?_); simp only [Act.put, List.setIfInBounds_toArray, List.set_cons_zero, List.set_cons_succ]) | (refine wpQuiet_valueG (o := ⟨some 60, _, _, _, _, _⟩) rfl _ (by intro _ h; exact exec_load16 _ _ rfl _ rfl dR HR.out h.2.2.2.2.cells) (wpQuiet_nil ?_); simp only [Act.put, List.setIfInBounds_toArray, List.set_cons_zero, List.set_cons_succ]) | (refine wpQuiet_valueG (o := ⟨some 61, _, _, _, _, _⟩) rfl _ (by intro _ h; exact exec_load16 _ _ rfl _ rfl dC HC.out h.2.2.1.cells) (wpQuiet_nil ?_); simp only [Act.put, List.setIfInBounds_toArray, List.set_cons_zero, List.set_cons_succ]) | (refine wpQuiet_valueG (o := ⟨some 66, _, _, _, _, _⟩) rfl _ (by intro _ h; exact exec_load16 _ _ rfl _ rfl dR HR.out h.2.2.2.2.cells) (wpQuiet_nil ?_); simp only [Act.put, List.setIfInBounds_toArray, List.set_cons_zero, List.set_cons_succ]) | (refine wpQuiet_valueG (o := ⟨some 67, _, _, _, _, _⟩) rfl _ (by intro _ h; exact exec_load16 _ _ rfl _ rfl dA HA.out h.1.cells) (wpQuiet_nil ?_); simp only [Act.put, List.setIfInBounds_toArray, List.set_cons_zero, List.set_cons_succ]) | (refine wpQuiet_valueG (o := ⟨some 73, _, _, _, _, _⟩) rfl _ (by intro _ h; exact exec_load16 _ _ rfl _ rfl dR HR.out h.2.2.2.2.cells) (wpQuiet_nil ?_); simp only [Act.put, List.setIfInBounds_toArray, List.set_cons_zero, List.set_cons_succ]) | (refine wpQuiet_valueG (o := ⟨some 74, _, _, _, _, _⟩) rfl _ (by intro _ h; exact exec_load16 _ _ rfl _ rfl dC HC.out h.2.2.1.cells) (wpQuiet_nil ?_); simp only [Act.put, List.setIfInBounds_toArray, List.set_cons_zero, List.set_cons_succ]) | (refine wpQuiet_valueG (o := ⟨some 85, _, _, _, _, _⟩) rfl _ (by intro _ h; exact exec_load16 _ _ rfl _ rfl dA HA.out h.1.cells) (wpQuiet_nil ?_); simp only [Act.put, List.setIfInBounds_toArray, List.set_cons_zero, List.set_cons_succ]) | (refine wpQuiet_valueG (o := ⟨some 86, _, _, _, _, _⟩) rfl _ (by intro _ h; exact exec_load16 _ _ rfl _ rfl dB HB.out h.2.1.cells) (wpQuiet_nil ?_); simp only [Act.put, List.setIfInBounds_toArray, List.set_cons_zero, List.set_cons_succ]) | (refine wpQuiet_valueG (o := ⟨some 51, _, _, _, _, _⟩) rfl _ (by intro _ h; exact exec_eql16 _ _ _ rfl dR dR HR.out HR.out rfl rfl) (wpQuiet_nil ?_); simp only [eRR, Act.put, List.setIfInBounds_toArray, List.set_cons_zero, List.set_cons_succ]) | (refine wpQuiet_valueG (o := ⟨some 82, _, _, _, _, _⟩) rfl _ (by intro _ h; exact exec_eql16 _ _ _ rfl (root []) (root []) (root_len _) (root_len _) rfl rfl) (wpQuiet_nil ?_); simp only [eNN, Act.put, List.setIfInBounds_toArray, List.set_cons_zero, List.set_cons_succ]) | (refine wpQuiet_valueG (o := ⟨some 87, _, _, _, _, _⟩) rfl _ (by intro _ h; exact exec_neq16 _ _ _ rfl dA dB HA.out HB.out rfl rfl) (wpQuiet_nil ?_); simp only [eAB, Bool.not_false, Act.put, List.setIfInBounds_toArray, List.set_cons_zero, List.set_cons_succ]) | (go_big_quiet_step ((intros; rfl)); refine wpQuiet_nil ?_)))
      refine plan_done ?_
      go_wp2_with fail
      go_ret
      exact ⟨rfl, Bx91⟩
end Go.Proofs.YtpmkjnmddglckaaDoor
