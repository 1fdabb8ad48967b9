/-
  What treesig.Verify returns: a contract by walks. Condition: the table of constants as laid; bounded lengths.
-/
import Derived.Test.YtfmcgcdppbcfjaaDoorTsP
namespace Go.Proofs.YtfmcgcdppbcfjaaDoor
open Go.RowKit

set_option maxRecDepth 100000 in
set_option maxHeartbeats 1000000 in
theorem tverify_any (rt msg : List UInt8) (ht : rt.length = 16) (hm : msg.length = 16) (h idx : Int) (_h1 : -9223372036854775808 ≤ h) (_h2 : h ≤ 9223372036854775807) (_i1 : -9223372036854775808 ≤ idx) (_i2 : idx ≤ 9223372036854775807) (A B : Option Addr) (n c m d : Nat) (C P : List (List UInt8)) (w : World) (hK : Consts w)
    (hC : ReadsD w A n C) (hP : ReadsD w B m P) (hnc : n ≤ c) (hmd : m ≤ d) (_hn : n ≤ 1000) (hmm : m ≤ 1000) :
    Calls Tryd.prog 16 #[.agg (bvs rt).toArray, .int .i64 h, .agg (bvs msg).toArray, .agg #[.int .i64 idx, .slice A n c, .slice B m d]] w (TellsB (tVerify rt h msg idx C P) w) := by
  have HT := Lib.hid ht
  have HM := Lib.hid hm
  have HV := fun W => Lib.hid (tvalid_any h idx W)
  by_cases he : tErr h idx = 0
  · obtain ⟨h0, hlt⟩ : 0 ≤ idx ∧ idx < tMany h := by
      rcases tErr_cases h idx with ⟨e, _⟩ | ⟨e, _⟩ | ⟨_, b⟩
      · omega
      · omega
      · exact b
    rw [tVerify_in ⟨h0, hlt⟩]
    obtain ⟨i, rfl⟩ : ∃ i : Nat, idx = (i : Int) := ⟨idx.toNat, by omega⟩
    have hv := tMany_valid (h := h) (by omega)
    obtain ⟨k, rfl⟩ : ∃ k : Nat, h = (k : Int) := ⟨h.toNat, by omega⟩
    have hk4 : k ≤ 4 := by omega
    have h16 := two_le16 hk4
    have hMk := tMany_nat k hk4
    rw [hMk, Int.toNat_natCast]
    rw [hMk] at hlt
    rw [he] at HV
    have HSZ := fun W => Lib.hid (tsize_any k hk4 W)
    have HRB := fun W hne => Lib.hid (recover_bad A c n msg W hne)
    have HVF := fun W (hW : Consts W) leaf hl hr => Lib.hid (verify_any B d m (2 ^ k) i rt leaf P W hW ht hl hr hmd hmm (by omega) (by omega))
    have hlen := hC.len
    have HR1 : n = 68 → Hid (((C.length == 68) && mVerify rt (wKey msg C) P (2 ^ k) i) = mVerify rt (wKey msg C) P (2 ^ k) i) := fun e => by show _ = _; rw [show (C.length == 68) = true by rw [hlen, e]; rfl, Bool.true_and]
    have HR0 : n ≠ 68 → Hid (((C.length == 68) && mVerify rt (wKey msg C) P (2 ^ k) i) = false) := fun e => by show _ = _; rw [show (C.length == 68) = false by rw [hlen]; simpa using e, Bool.false_and]
    generalize ((C.length == 68) && mVerify rt (wKey msg C) P (2 ^ k) i) = R at *
    clear he hMk hv ht
    by_cases hn68 : n = 68
    · subst hn68
      have HR := HR1 rfl
      have HRG := fun W hW hr => Lib.hid (recover_any A c msg C W hW hm hr hnc)
      have HKL := Lib.hid (wKey_len msg C)
      have HVF2 := fun W hW hr => HVF W hW (wKey msg C) HKL.out hr
      clear HR0 HR1 HVF HRB
      generalize mVerify rt (wKey msg C) P (2 ^ k) i = V at *
      generalize wKey msg C = Q at *
      generalize 2 ^ k = M at *
      clear hm
      go_enter Tryd.func16, Tryd.ntmps16
      go_wp2_with (first
        | (with_reducible refine wpList_box_row (o := ⟨some 4, _, _, _, _, _⟩) rfl _ _ rfl (bvs rt) rfl ?_; intro w1 hrow1 hs1 hg1)
        | (with_reducible refine wpList_box_row (o := ⟨some 6, _, _, _, _, _⟩) rfl _ _ rfl (bvs msg) rfl ?_; intro w2 hrow2 hs2 hg2)
        | (with_reducible refine wpList_box_row (o := ⟨some 7, _, _, _, _, _⟩) rfl _ _ rfl [.int .i64 (i : Int), .slice A 68 c, .slice B m d] rfl ?_; intro w3 hrow3 hs3 hg3; have c0 := hrow3.cell (j := 0) rfl))
      have hb3 : Below w.heap.size w w3 := below_kept (below_kept (grown_below hg1 (Nat.le_refl _) (by simp)) hg2 (by omega) (by simp)) hg3 (by omega) (by simp)
      have rt3 : Row w3 w.heap.size 23 (bvs rt) := (hrow1.kept hg2 (by simp)).kept hg3 (by simp)
      have rm3 : Row w3 w1.heap.size 23 (bvs msg) := hrow2.kept hg3 (by simp)
      have rs3 := hrow3
      have hlt3 := rs3.lt
      have c1 := rs3.cell (j := 1) rfl
      clear hrow1 hrow2 hrow3 hg1 hg2 hg3 hs3
      refine (HV _).out.mono ?_
      rintro e w3' ⟨rfl, hw3⟩
      obtain rfl : w3 = w3' := hw3.symm
      go_wp2_with (with_reducible refine wpList_load_all (o := ⟨some 17, _, _, _, _, _⟩) rfl _ _ rfl w1.heap.size rfl _ _ rm3 _ Tryd.underlying23 rfl (b16_size _ HM.out) ?_)
      refine (HRG _ (hK.on hb3) (hC.on hb3)).out.mono ?_
      rintro e w4 ⟨rfl, hb4⟩
      have rt4 := rt3.on hb4
      have rs4 := rs3.on hb4
      have B4 := hb3.trans (hb4.mono hb3.size)
      go_wp2_with (first
        | (with_reducible refine wpList_alloc_row (o := ⟨some 9, _, _, _, _, _⟩) rfl _ rfl zeros16 zero_b16 ?_; intro w5 hrow5 hs5 hg5)
        | (with_reducible refine wpList_store_all (o := ⟨none, _, _, _, _, _⟩) rfl _ _ _ rfl w4.heap.size rfl _ _ hrow5 (bvs Q) rfl (bvs_one _) (b16_zeros _ HKL.out) (b16_size _ HKL.out) ?_; intro w6 hrow6 hg6))
      have hb46 : Below w4.heap.size w4 w6 := below_kept (grown_below hg5 (Nat.le_refl _) (by simp)) hg6 (by omega) (by rintro q hq; cases hq; exact Nat.le_refl _)
      have rt6 := rt4.on hb46
      have rs6 := rs4.on hb46
      have B6 := B4.trans (hb46.mono B4.size)
      clear hrow5 hg5 hg6
      refine wp_region_plan (fun w' => Row w' w2.heap.size 32 [.int .i64 (i : Int), .slice A 68 c, .slice B m d] ∧ Row w' w.heap.size 23 (bvs rt) ∧ Row w' w4.heap.size 23 (bvs Q)) (.take 0 <| .take 1 <| .take 2 <| .take 3 <| .take 4 <| .take 6 <| .take 7 <| .take 8 <| .take 9 <| .take 10 <| .one 5 <| .one 11 <| .take 12 <| .take 13 <| .done) (by kernel_rfl) (by kernel_rfl) (by kernel_rfl) (fun _ _ _ _ _ h => h) ⟨rs6.drew, rt6.drew, hrow6.drew⟩ ?_
      repeat (refine plan_take _ rfl ?_; (first | (refine wpQuiet_valueG (o := ⟨some 26, _, _, _, _, _⟩) rfl _ (by intro _ h; exact exec_load16 _ _ rfl _ rfl rt HT.out h.2.1.cells) (wpQuiet_nil ?_); simp only [Act.put, List.setIfInBounds_toArray, List.set_cons_zero, List.set_cons_succ]) | (refine wpQuiet_valueG (o := ⟨some 30, _, _, _, _, _⟩) rfl _ (by intro _ h; exact exec_load1 _ 3 _ rfl ⟨w2.heap.size, 0, none⟩ rfl _ (h.1.cell (j := 0) rfl) _ Tryd.underlying3 rfl) (wpQuiet_nil ?_); simp only [Act.put, List.setIfInBounds_toArray, List.set_cons_zero, List.set_cons_succ]) | (refine wpQuiet_valueG (o := ⟨some 31, _, _, _, _, _⟩) rfl _ (by intro _ h; exact exec_load16 _ _ rfl _ rfl Q HKL.out h.2.2.cells) (wpQuiet_nil ?_); simp only [Act.put, List.setIfInBounds_toArray, List.set_cons_zero, List.set_cons_succ]) | (refine wpQuiet_valueG (o := ⟨some 33, _, _, _, _, _⟩) rfl _ (by intro _ h; exact exec_load1 _ 30 _ rfl ⟨w2.heap.size, 2, none⟩ rfl _ (h.1.cell (j := 2) rfl) _ Tryd.underlying30 rfl) (wpQuiet_nil ?_); simp only [Act.put, List.setIfInBounds_toArray, List.set_cons_zero, List.set_cons_succ]) | (go_big_quiet_step ((intros; rfl)); refine wpQuiet_nil ?_)))
      refine plan_one _ rfl fun K hK' => ?_
      go_simp
      refine (HSZ _).out.mono ?_
      rintro e w7 ⟨rfl, rfl⟩
      refine hK' _ _ ⟨rs6.drew, rt6.drew, hrow6.drew⟩ ?_
      clear hK' K
      refine plan_one _ rfl fun K hK' => ?_
      go_simp
      refine (HVF2 _ (hK.on B6.drew) (hP.on B6.drew)).out.mono ?_
      rintro e w8 ⟨rfl, hb8⟩
      refine hK' _ _ ⟨rs6.drew.on hb8, rt6.drew.on hb8, hrow6.drew.on hb8⟩ ?_
      clear hK' K
      repeat (refine plan_take _ rfl ?_; go_big_quiet_step ((intros; rfl)); refine wpQuiet_nil ?_)
      refine plan_done ?_
      go_wp2_with fail
      go_ret
      exact ⟨by rw [HR.out]; rfl, B6.drew.trans (hb8.mono B6.drew.size)⟩
    · have HR := HR0 hn68
      clear HR0 HR1 HVF hm
      generalize 2 ^ k = M at *
      go_enter Tryd.func16, Tryd.ntmps16
      go_wp2_with (first
        | (with_reducible refine wpList_box_row (o := ⟨some 4, _, _, _, _, _⟩) rfl _ _ rfl (bvs rt) rfl ?_; intro w1 hrow1 hs1 hg1)
        | (with_reducible refine wpList_box_row (o := ⟨some 6, _, _, _, _, _⟩) rfl _ _ rfl (bvs msg) rfl ?_; intro w2 hrow2 hs2 hg2)
        | (with_reducible refine wpList_box_row (o := ⟨some 7, _, _, _, _, _⟩) rfl _ _ rfl [.int .i64 (i : Int), .slice A n c, .slice B m d] rfl ?_; intro w3 hrow3 hs3 hg3; have c0 := hrow3.cell (j := 0) rfl))
      have hb3 : Below w.heap.size w w3 := below_kept (below_kept (grown_below hg1 (Nat.le_refl _) (by simp)) hg2 (by omega) (by simp)) hg3 (by omega) (by simp)
      have rm3 : Row w3 w1.heap.size 23 (bvs msg) := hrow2.kept hg3 (by simp)
      have c1 := hrow3.cell (j := 1) rfl
      clear hrow1 hrow2 hg1 hg2 hg3 hs3
      refine (HV _).out.mono ?_
      rintro e w3' ⟨rfl, hw3⟩
      obtain rfl : w3 = w3' := hw3.symm
      go_wp2_with (with_reducible refine wpList_load_all (o := ⟨some 17, _, _, _, _, _⟩) rfl _ _ rfl w1.heap.size rfl _ _ rm3 _ Tryd.underlying23 rfl (b16_size _ HM.out) ?_)
      refine (HRB _ hn68).out.mono ?_
      rintro e w4 ⟨rfl, hb4⟩
      have B4 := hb3.trans (hb4.mono hb3.size)
      go_wp2_with (first
        | (with_reducible refine wpList_alloc_row (o := ⟨some 9, _, _, _, _, _⟩) rfl _ rfl zeros16 zero_b16 ?_; intro w5 hrow5 hs5 hg5)
        | (with_reducible refine wpList_store_all (o := ⟨none, _, _, _, _, _⟩) rfl _ _ _ rfl w4.heap.size rfl _ _ hrow5 (bvs zero16B') rfl (bvs_one _) (b16_zeros _ rfl) (b16_size _ rfl) ?_; intro w6 hrow6 hg6))
      have hb46 : Below w4.heap.size w4 w6 := below_kept (grown_below hg5 (Nat.le_refl _) (by simp)) hg6 (by omega) (by rintro q hq; cases hq; exact Nat.le_refl _)
      have B6 := B4.trans (hb46.mono B4.size)
      refine wp_region_plan (fun _ => True) (.take 0 <| .take 1 <| .take 2 <| .take 3 <| .take 4 <| .take 6 <| .take 7 <| .take 8 <| .take 9 <| .take 10 <| .one 5 <| .one 11 <| .take 12 <| .take 13 <| .done) (by kernel_rfl) (by kernel_rfl) (by kernel_rfl) (fun _ _ _ _ _ h => h) trivial ?_
      repeat (refine plan_take _ rfl ?_; go_big_quiet_step ((intros; rfl)); refine wpQuiet_nil ?_)
      refine plan_one _ rfl fun K hK' => ?_
      go_simp
      refine hK' _ _ trivial ?_
      clear hK' K
      refine plan_one _ rfl fun K hK' => ?_
      go_simp
      refine hK' _ _ trivial ?_
      clear hK' K
      repeat (refine plan_take _ rfl ?_; go_big_quiet_step ((intros; rfl)); refine wpQuiet_nil ?_)
      refine plan_done ?_
      go_wp2_with fail
      go_ret
      exact ⟨by rw [HR.out]; rfl, B6.drew⟩
  · have ho : ¬ (0 ≤ idx ∧ idx < (tMany h : Int)) := fun ⟨a, b⟩ => he (tErr_ok a b)
    rw [tVerify_out ho]
    have hEb : (tErr h idx != 0) = true := by simpa using he
    generalize tErr h idx = E at *
    clear ho he ht hm
    go_enter Tryd.func16, Tryd.ntmps16
    go_wp2_with (first
      | (with_reducible refine wpList_box_row (o := ⟨some 4, _, _, _, _, _⟩) rfl _ _ rfl (bvs rt) rfl ?_; intro w1 hrow1 hs1 hg1)
      | (with_reducible refine wpList_box_row (o := ⟨some 6, _, _, _, _, _⟩) rfl _ _ rfl (bvs msg) rfl ?_; intro w2 hrow2 hs2 hg2)
      | (with_reducible refine wpList_box_row (o := ⟨some 7, _, _, _, _, _⟩) rfl _ _ rfl [.int .i64 idx, .slice A n c, .slice B m d] rfl ?_; intro w3 hrow3 hs3 hg3; have c0 := hrow3.cell (j := 0) rfl))
    have hb3 : Below w.heap.size w w3 := below_kept (below_kept (grown_below hg1 (Nat.le_refl _) (by simp)) hg2 (by omega) (by simp)) hg3 (by omega) (by simp)
    clear hrow1 hrow2 hg1 hg2 hg3 hs3
    refine (HV _).out.mono ?_
    rintro e w3' ⟨rfl, hw3⟩
    obtain rfl : w3 = w3' := hw3.symm
    go_wp2_with fail
    go_ret
    exact ⟨rfl, hb3⟩
end Go.Proofs.YtfmcgcdppbcfjaaDoor
