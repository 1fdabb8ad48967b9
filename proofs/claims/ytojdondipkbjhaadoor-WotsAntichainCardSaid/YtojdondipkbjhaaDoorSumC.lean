/-
  What sha.Sum returns: a contract by a walk. Conditions: the table of constants as laid; at most 10^9 bytes, within the capacity.
-/
import Derived.Test.YtojdondipkbjhaaDoorSumB
import Derived.Deep.DeepCutAuto
namespace Go.Proofs.YtojdondipkbjhaaDoor
open Go.RowKit

set_option maxRecDepth 100000 in
set_option maxHeartbeats 2000000 in
theorem sum_any (A : Option Addr) (c : Nat) (l : List UInt8) (n : Nat) (w : World) (hk : Consts w) (hr : Reads w w.heap.size 1 A n (bvs l)) (hc : n ≤ c) (hn : n ≤ 1000000000) :
    Calls Tryd.prog 32 #[.slice A n c] w (GivesV (.agg (bvs (sha l)).toArray) w) := by
  have HL := Lib.hid hr.bytes_len
  go_enter Tryd.func32, Tryd.ntmps32
  go_wp2_with (with_reducible refine wpList_alloc_row (o := ⟨some 2, _, _, _, _, _⟩) rfl _ rfl zeros32 zero_b32 ?_; intro w1 hrow1 hs1 hg1)
  have hr1 := (hr.kept hg1 (Nat.le_refl _) (by simp)).more (B' := w1.heap.size) (by omega)
  have hb1 : Below w.heap.size w w1 := grown_below hg1 (Nat.le_refl _) (by simp)
  have hk1 := hk.on hb1
  clear hg1
  obtain ⟨k, hkk⟩ : ∃ k, k = n / 64 := ⟨_, rfl⟩
  have e64 : (n : Int) - (n : Int) % 64 = 64 * (k : Int) := by omega
  have hk1n : 64 * k ≤ n := by omega
  have hk2n : n < 64 * k + 64 := by omega
  have HKK := Lib.hid hkk
  clear hkk
  have hsub := (hr1.take (k := 64 * k) (by omega))
  rw [Nat.mul_one, show (bvs l).take (64 * k) = bvs (l.take (64 * k)) from (List.map_take ..).symm] at hsub
  have hsubd : ∀ wx, Below w1.heap.size w1 wx → Reads wx wx.heap.size 1 A (64 * k) (bvs (l.take (64 * k))) := fun wx hb => hsub.on hb
  have hcb := fun wx (hb : Below w1.heap.size w1 wx) c' (hc' : 64 * k ≤ c') => Lib.hid (blocks_any first8 A c' (l.take (64 * k)) k wx (hk1.on hb) (hsubd wx hb) hc' (by omega))
  clear hsub
  rw [e64]
  go_cut [4] (fun s4 wc => ∃ g4, s4 = .pointer (some ⟨g4, 0, none⟩) ∧ w1.heap.size ≤ g4 ∧ Row wc g4 64 (wvs (blocksN first8 (l.take (64 * k)) k).list) ∧ Below w1.heap.size w1 wc)
  case first =>
    generalize blocksN first8 (l.take (64 * k)) k = T at *
    refine wp_region_plan (fun _ => True) (.take 1 <| .take 2 <| .take 3 <| .two 0 (.two 4 (.one 5 <| .one 6 <| .done) 5 (.one 4 <| .one 6 <| .done)) 5 (.one 0 <| .one 4 <| .one 6 <| .done)) (by kernel_rfl) (by kernel_rfl) (by kernel_rfl) (fun _ _ _ _ _ h => h) trivial ?_
    repeat (refine plan_take _ rfl ?_; go_big_quiet_step ((intros; rfl)); refine wpQuiet_nil ?_)
    have b0 : Below w1.heap.size w1 w1.drew := (Below.refl _ _).drew
    refine plan_two ?_ ?_
    · refine step_at _ rfl fun K hK => ?_
      go_simp
      refine (initial_any _).mono ?_
      rintro e wa ⟨rfl, h_wa⟩
      refine hK _ _ trivial ?_
      clear hK K
      have ba : Below w1.heap.size w1 wa := b0.trans (h_wa.mono b0.size)
      refine plan_two ?_ ?_
      · refine step_at _ rfl fun K hK => ?_
        go_simp
        refine (hcb _ ba _ (by omega)).out.mono ?_
        rintro e wb ⟨rfl, h_wb⟩
        refine hK _ _ trivial ?_
        clear hK K
        have bb : Below w1.heap.size w1 wb := ba.trans (h_wb.mono ba.size)
        refine plan_one _ rfl fun K hK => step_alloc rfl _ rfl zeros8 zero_w8 ?_
        intro wc r_wc s_wc g_wc
        refine hK _ _ trivial ?_
        clear hK K
        have bc : Below w1.heap.size w1 wc := below_kept bb g_wc bb.size (by simp)
        simp only [Act.put, List.setIfInBounds_toArray, List.set_cons_zero, List.set_cons_succ]
        refine plan_one _ rfl fun K hK => step_store_all rfl _ _ _ rfl wb.heap.size rfl _ zeros8 r_wc (wvs T.list) rfl (wvs_one _) rfl (w8_wvs T) ?_
        intro wz rz gz
        refine hK _ _ trivial ?_
        clear hK K
        refine plan_done ?_
        go_wp2_with fail
        go_meet
        exact ⟨wb.heap.size, rfl, bb.size, rz, below_kept bc gz bc.size (by rintro k hk; cases hk; exact bb.size)⟩
      · refine step_at _ rfl fun K hK => step_alloc rfl _ rfl zeros8 zero_w8 ?_
        intro wb r_wb s_wb g_wb
        refine hK _ _ trivial ?_
        clear hK K
        have bb : Below w1.heap.size w1 wb := below_kept ba g_wb ba.size (by simp)
        simp only [Act.put, List.setIfInBounds_toArray, List.set_cons_zero, List.set_cons_succ]
        refine plan_one _ rfl fun K hK => ?_
        go_simp
        refine (hcb _ bb _ (by omega)).out.mono ?_
        rintro e wc ⟨rfl, h_wc⟩
        refine hK _ _ trivial ?_
        clear hK K
        have bc : Below w1.heap.size w1 wc := bb.trans (h_wc.mono bb.size)
        refine plan_one _ rfl fun K hK => step_store_all rfl _ _ _ rfl wa.heap.size rfl _ zeros8 (r_wb.on h_wc) (wvs T.list) rfl (wvs_one _) rfl (w8_wvs T) ?_
        intro wz rz gz
        refine hK _ _ trivial ?_
        clear hK K
        refine plan_done ?_
        go_wp2_with fail
        go_meet
        exact ⟨wa.heap.size, rfl, ba.size, rz, below_kept bc gz bc.size (by rintro k hk; cases hk; exact ba.size)⟩
    · refine step_at _ rfl fun K hK => step_alloc rfl _ rfl zeros8 zero_w8 ?_
      intro wa r_wa s_wa g_wa
      refine hK _ _ trivial ?_
      clear hK K
      have ba : Below w1.heap.size w1 wa := below_kept b0 g_wa b0.size (by simp)
      simp only [Act.put, List.setIfInBounds_toArray, List.set_cons_zero, List.set_cons_succ]
      refine plan_one _ rfl fun K hK => ?_
      go_simp
      refine (initial_any _).mono ?_
      rintro e wb ⟨rfl, h_wb⟩
      refine hK _ _ trivial ?_
      clear hK K
      have bb : Below w1.heap.size w1 wb := ba.trans (h_wb.mono ba.size)
      refine plan_one _ rfl fun K hK => ?_
      go_simp
      refine (hcb _ bb _ (by omega)).out.mono ?_
      rintro e wc ⟨rfl, h_wc⟩
      refine hK _ _ trivial ?_
      clear hK K
      have bc : Below w1.heap.size w1 wc := bb.trans (h_wc.mono bb.size)
      refine plan_one _ rfl fun K hK => step_store_all rfl _ _ _ rfl w1.heap.size rfl _ zeros8 ((r_wa.on h_wb).on h_wc) (wvs T.list) rfl (wvs_one _) rfl (w8_wvs T) ?_
      intro wz rz gz
      refine hK _ _ trivial ?_
      clear hK K
      refine plan_done ?_
      go_wp2_with fail
      go_meet
      exact ⟨w1.heap.size, rfl, b0.size, rz, below_kept bc gz bc.size (by rintro k hk; cases hk; exact b0.size)⟩
  case rest =>
    obtain ⟨g4, rfl, hg4, hrow4, hbc⟩ := hcut
    go_wp2_with fail
    obtain ⟨T, hT⟩ : ∃ T, T = blocksN first8 (l.take (64 * k)) k := ⟨_, rfl⟩
    rw [← hT] at hrow4
    have HT := Lib.hid hT
    clear hT hcb hsubd
    have hkc := hk1.on hbc
    have hrc := (hr1.on hbc)
    have hrd := hrc.cut (k := 64 * k) (cap := c) hk1n hc
    rw [Nat.mul_one] at hrd
    have hrdd : Reads wc wc.heap.size 1 (if c = 64 * k then A else A.map (·.add (64 * k))) (n - 64 * k) (bvs (l.drop (64 * k))) := by
      have e : bvs (l.drop (64 * k)) = (bvs l).drop (64 * k) := List.map_drop ..
      rw [e]; exact hrd
    clear hrd
    have hcl := fun A' c' (hrA : Reads wc wc.heap.size 1 A' (n - 64 * k) (bvs (l.drop (64 * k)))) => Lib.hid (lastBlocks_any A' c' (l.drop (64 * k)) (n - 64 * k) n wc.drew hrA (by omega) (by omega) (by omega))
    have hpl : (l.drop (64 * k) ++ padding n).length % 64 = 0 := by
      rw [List.length_append, padding_len, List.length_drop, HL.out]
      unfold zerosN; omega
    obtain ⟨k2, hk2⟩ : ∃ k2, k2 = (l.drop (64 * k) ++ padding n).length / 64 := ⟨_, rfl⟩
    have hpb : (l.drop (64 * k) ++ padding n).length ≤ 1000 := by
      rw [List.length_append, padding_len, List.length_drop, HL.out]
      have := zeros_lt n; omega
    have HPL : Hid ((l.drop (64 * k) ++ padding n).length = 64 * k2) := by show _ = _; omega
    have hk2b : 64 * k2 ≤ 1000 := by have := HPL.out; omega
    have HSH : Hid ((blocksN T (l.drop (64 * k) ++ padding n) k2).bytes = sha l) := by
      show _ = _
      rw [sha_parts l k (by rw [HL.out]; exact HKK.out), HT.out, HL.out, hk2]
    have HSL := Lib.hid (sha_len l)
    clear hk2 hpl hpb
    by_cases hcap : c = 64 * k
    · rw [if_pos hcap] at hrdd
      have hrd := hrdd
      refine wp_region_plan (fun w' => Row w' g4 64 (wvs T.list)) (.take 0 <| .take 1 <| .take 2 <| .take 3 <| .take 4 <| .one 5 <| .one 6 <| .one 7 <| .one 8 <| .one 9 <| .done) (by kernel_rfl) (by kernel_rfl) (by kernel_rfl) (fun _ _ _ _ _ h => h) hrow4.drew ?_
      refine plan_take _ rfl (wpQuiet_load_all rfl _ _ rfl g4 rfl _ _ (fun _ h => h) _ Tryd.underlying64 rfl (w8_wvs T) (wpQuiet_nil ?_))
      simp only [Act.put, List.setIfInBounds_toArray, List.set_cons_zero, List.set_cons_succ]
      repeat (refine plan_take _ rfl ?_; go_big_quiet_step ((intros; rfl)); refine wpQuiet_nil ?_)
      refine plan_one _ rfl fun K hK => ?_
      go_simp
      refine hK _ _ hrow4.drew ?_
      clear hK K
      refine plan_one _ rfl fun K hK => ?_
      go_simp
      refine (hcl A _ hrd).out.mono ?_
      rintro e wa ⟨va, rfl, howna, hba⟩
      have howna := own_len howna HPL.out
      obtain ⟨Aa, ca, rfl, hca, _, hra⟩ := own_form howna
      have hrowa := hrow4.drew.on hba
      have hka := (hkc.drewN 1).on hba
      refine hK _ _ hrowa ?_
      clear hK K
      refine plan_one _ rfl fun K hK => ?_
      go_simp
      refine (blocks_any T Aa ca _ k2 wa hka hra hca (by omega)).mono ?_
      rintro e wb ⟨rfl, hbb⟩
      refine hK _ _ (hrowa.on hbb) ?_
      clear hK K
      refine plan_one _ rfl fun K hK => ?_
      go_simp
      refine (bytesOf_any _ wb).mono ?_
      rintro e wd ⟨rfl, hbd⟩
      rw [HSH.out]
      refine hK _ _ ((hrowa.on hbb).on hbd) ?_
      clear hK K
      have hrowr := ((((hrow1.below hbc (by omega)).drew).on hba).on hbb).on hbd
      have hbz : Below w.heap.size w wd := (hb1.trans (hbc.mono hb1.size)).drew.trans (((hba.trans (hbb.mono hba.size)).trans (hbd.mono (Nat.le_trans hba.size hbb.size))).mono (Nat.le_trans hb1.size hbc.size))
      refine plan_one _ rfl fun K hK => step_store_all rfl _ _ _ rfl w.heap.size rfl _ zeros32 hrowr (bvs (sha l)) rfl (bvs_one _) (b32_zeros _ HSL.out) (b32_size _ HSL.out) ?_
      intro wz rz gz
      refine hK _ _ (((hrowa.on hbb).on hbd).kept gz (by simp; omega)) ?_
      clear hK K
      refine plan_done ?_
      go_wp2_with fail
      have hload := run_loadVar_at (P := Tryd.prog) wz 56 ⟨w.heap.size, 0, none⟩ (bvs (sha l)) rz.cells _ Tryd.underlying56 rfl (b32_size _ HSL.out)
      exact bodyPost_ret (results_cell1 Tryd.results32 _ _ _ _ rfl hload) rfl ⟨rfl, below_kept hbz gz hbz.size (by rintro k hk; cases hk; exact Nat.le_refl _)⟩
    · rw [if_neg hcap] at hrdd
      rcases A with _ | ad
      · have hrd := hrdd
        simp only [Option.map_none] at hrd
        refine wp_region_plan (fun w' => Row w' g4 64 (wvs T.list)) (.take 0 <| .take 1 <| .take 2 <| .take 3 <| .take 4 <| .one 5 <| .one 6 <| .one 7 <| .one 8 <| .one 9 <| .done) (by kernel_rfl) (by kernel_rfl) (by kernel_rfl) (fun _ _ _ _ _ h => h) hrow4.drew ?_
        refine plan_take _ rfl (wpQuiet_load_all rfl _ _ rfl g4 rfl _ _ (fun _ h => h) _ Tryd.underlying64 rfl (w8_wvs T) (wpQuiet_nil ?_))
        simp only [Act.put, List.setIfInBounds_toArray, List.set_cons_zero, List.set_cons_succ]
        repeat (refine plan_take _ rfl ?_; go_big_quiet_step ((intros; rfl)); refine wpQuiet_nil ?_)
        refine plan_one _ rfl fun K hK => ?_
        go_simp
        refine hK _ _ hrow4.drew ?_
        clear hK K
        refine plan_one _ rfl fun K hK => ?_
        go_simp
        refine (hcl none _ hrd).out.mono ?_
        rintro e wa ⟨va, rfl, howna, hba⟩
        have howna := own_len howna HPL.out
        obtain ⟨Aa, ca, rfl, hca, _, hra⟩ := own_form howna
        have hrowa := hrow4.drew.on hba
        have hka := (hkc.drewN 1).on hba
        refine hK _ _ hrowa ?_
        clear hK K
        refine plan_one _ rfl fun K hK => ?_
        go_simp
        refine (blocks_any T Aa ca _ k2 wa hka hra hca (by omega)).mono ?_
        rintro e wb ⟨rfl, hbb⟩
        refine hK _ _ (hrowa.on hbb) ?_
        clear hK K
        refine plan_one _ rfl fun K hK => ?_
        go_simp
        refine (bytesOf_any _ wb).mono ?_
        rintro e wd ⟨rfl, hbd⟩
        rw [HSH.out]
        refine hK _ _ ((hrowa.on hbb).on hbd) ?_
        clear hK K
        have hrowr := ((((hrow1.below hbc (by omega)).drew).on hba).on hbb).on hbd
        have hbz : Below w.heap.size w wd := (hb1.trans (hbc.mono hb1.size)).drew.trans (((hba.trans (hbb.mono hba.size)).trans (hbd.mono (Nat.le_trans hba.size hbb.size))).mono (Nat.le_trans hb1.size hbc.size))
        refine plan_one _ rfl fun K hK => step_store_all rfl _ _ _ rfl w.heap.size rfl _ zeros32 hrowr (bvs (sha l)) rfl (bvs_one _) (b32_zeros _ HSL.out) (b32_size _ HSL.out) ?_
        intro wz rz gz
        refine hK _ _ (((hrowa.on hbb).on hbd).kept gz (by simp; omega)) ?_
        clear hK K
        refine plan_done ?_
        go_wp2_with fail
        have hload := run_loadVar_at (P := Tryd.prog) wz 56 ⟨w.heap.size, 0, none⟩ (bvs (sha l)) rz.cells _ Tryd.underlying56 rfl (b32_size _ HSL.out)
        exact bodyPost_ret (results_cell1 Tryd.results32 _ _ _ _ rfl hload) rfl ⟨rfl, below_kept hbz gz hbz.size (by rintro k hk; cases hk; exact Nat.le_refl _)⟩
      · have hrd := hrdd
        simp only [Option.map_some] at hrd
        refine wp_region_plan (fun w' => Row w' g4 64 (wvs T.list)) (.take 0 <| .take 1 <| .take 2 <| .take 3 <| .take 4 <| .one 5 <| .one 6 <| .one 7 <| .one 8 <| .one 9 <| .done) (by kernel_rfl) (by kernel_rfl) (by kernel_rfl) (fun _ _ _ _ _ h => h) hrow4.drew ?_
        refine plan_take _ rfl (wpQuiet_load_all rfl _ _ rfl g4 rfl _ _ (fun _ h => h) _ Tryd.underlying64 rfl (w8_wvs T) (wpQuiet_nil ?_))
        simp only [Act.put, List.setIfInBounds_toArray, List.set_cons_zero, List.set_cons_succ]
        repeat (refine plan_take _ rfl ?_; go_big_quiet_step ((intros; rfl)); refine wpQuiet_nil ?_)
        refine plan_one _ rfl fun K hK => ?_
        go_simp
        refine hK _ _ hrow4.drew ?_
        clear hK K
        refine plan_one _ rfl fun K hK => ?_
        go_simp
        refine (hcl (some (ad.add (64 * k))) _ hrd).out.mono ?_
        rintro e wa ⟨va, rfl, howna, hba⟩
        have howna := own_len howna HPL.out
        obtain ⟨Aa, ca, rfl, hca, _, hra⟩ := own_form howna
        have hrowa := hrow4.drew.on hba
        have hka := (hkc.drewN 1).on hba
        refine hK _ _ hrowa ?_
        clear hK K
        refine plan_one _ rfl fun K hK => ?_
        go_simp
        refine (blocks_any T Aa ca _ k2 wa hka hra hca (by omega)).mono ?_
        rintro e wb ⟨rfl, hbb⟩
        refine hK _ _ (hrowa.on hbb) ?_
        clear hK K
        refine plan_one _ rfl fun K hK => ?_
        go_simp
        refine (bytesOf_any _ wb).mono ?_
        rintro e wd ⟨rfl, hbd⟩
        rw [HSH.out]
        refine hK _ _ ((hrowa.on hbb).on hbd) ?_
        clear hK K
        have hrowr := ((((hrow1.below hbc (by omega)).drew).on hba).on hbb).on hbd
        have hbz : Below w.heap.size w wd := (hb1.trans (hbc.mono hb1.size)).drew.trans (((hba.trans (hbb.mono hba.size)).trans (hbd.mono (Nat.le_trans hba.size hbb.size))).mono (Nat.le_trans hb1.size hbc.size))
        refine plan_one _ rfl fun K hK => step_store_all rfl _ _ _ rfl w.heap.size rfl _ zeros32 hrowr (bvs (sha l)) rfl (bvs_one _) (b32_zeros _ HSL.out) (b32_size _ HSL.out) ?_
        intro wz rz gz
        refine hK _ _ (((hrowa.on hbb).on hbd).kept gz (by simp; omega)) ?_
        clear hK K
        refine plan_done ?_
        go_wp2_with fail
        have hload := run_loadVar_at (P := Tryd.prog) wz 56 ⟨w.heap.size, 0, none⟩ (bvs (sha l)) rz.cells _ Tryd.underlying56 rfl (b32_size _ HSL.out)
        exact bodyPost_ret (results_cell1 Tryd.results32 _ _ _ _ rfl hload) rfl ⟨rfl, below_kept hbz gz hbz.size (by rintro k hk; cases hk; exact Nat.le_refl _)⟩
end Go.Proofs.YtojdondipkbjhaaDoor
