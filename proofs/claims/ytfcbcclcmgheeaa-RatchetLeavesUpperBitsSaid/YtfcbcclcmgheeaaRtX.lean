/-
  What Fault of the reference and next of the law file return: contracts by walks. Condition: the bits' range.
-/
import Derived.Test.YtfcbcclcmgheeaaRtV
import Derived.Test.YtfcbcclcmgheeaaRtE
set_option linter.unusedSimpArgs false
set_option linter.unusedVariables false
namespace Go.Proofs.Ytfcbcclcmgheeaa
open Go.RowKit

def rtDvF (p : Bool × Bool) : DvF := ⟨p.1, 0, p.2⟩
theorem rtFl_in {fs : List UInt8} {i : Nat} (h : i < fs.length) : rtFl fs i = ((((cl fs i).toNat : Int) % 2 == 1), (((cl fs i).toNat : Int) / 2 % 2 == 1)) := by
  unfold rtFl
  rw [if_pos h]
  have h1 : (cl fs i % 2 = 1) ↔ ((cl fs i).toNat % 2 = 1) := by
    constructor
    · intro h
      have h1 : (cl fs i % 2).toNat = 1 := by rw [h]; rfl
      rw [UInt8.toNat_mod] at h1
      exact h1
    · intro h
      refine UInt8.toNat.inj ?_
      rw [UInt8.toNat_mod]
      exact h
  have h2 : (cl fs i / 2 % 2 = 1) ↔ ((cl fs i).toNat / 2 % 2 = 1) := by
    constructor
    · intro h
      have h1 : (cl fs i / 2 % 2).toNat = 1 := by rw [h]; rfl
      rw [UInt8.toNat_mod, UInt8.toNat_div] at h1
      exact h1
    · intro h
      refine UInt8.toNat.inj ?_
      rw [UInt8.toNat_mod, UInt8.toNat_div]
      exact h
  rw [Prod.mk.injEq]
  constructor
  · rw [Bool.eq_iff_iff, decide_eq_true_eq, beq_iff_eq, h1]; omega
  · rw [Bool.eq_iff_iff, decide_eq_true_eq, beq_iff_eq, h2]; omega
theorem rtFl_out {fs : List UInt8} {i : Nat} (h : fs.length ≤ i) : rtFl fs i = (false, false) := by unfold rtFl; rw [if_neg (by omega)]
set_option maxRecDepth 100000 in
set_option maxHeartbeats 4000000 in
theorem fault11_any (A : Option Addr) (n c : Nat) (fs : List UInt8) (i : Nat) (w : World) (hr : Reads w w.heap.size 1 A n (bvs fs)) (hi : i ≤ 100000) :
    Calls Try.prog 27 #[.slice A n c, .int .i64 (i : Int)] w (GivesX (rtDvF (rtFl fs i)).v w) := by
  have hln := hr.bytes_len
  by_cases hlt : i < n
  · obtain ⟨ad, rfl, hlta, hcl⟩ := hr.byte_at (cl_get (by omega : i < fs.length))
    have HE := Lib.hid (rtFl_in (fs := fs) (i := i) (by omega))
    unfold bv at hcl
    obtain ⟨v, hv⟩ : ∃ v, v = (cl fs i).toNat := ⟨_, rfl⟩
    have hv255 : (cl fs i).toNat ≤ 255 := by have := (cl fs i).toNat_lt; omega
    rw [← hv] at hcl HE hv255
    generalize rtFl fs i = E at *
    have q0 : decide ((n : Int) ≤ (i : Int)) = false := decide_eq_false (by omega)
    clear hr hv
    go_enter Try.func27, Try.ntmps27
    go_wp2_with (with_reducible refine wpList_alloc_row (o := ⟨some 4, _, _, _, _, _⟩) rfl _ rfl zeroT zero_ft ?_; intro w1 zf_1 s1 g1; have k1 : Below w.heap.size w w1 := grown_below g1 (Nat.le_refl _) (by simp); have B1 : Below w.heap.size w w1 := k1)
    try simp only [Act.put, List.setIfInBounds_toArray, List.set_cons_zero, List.set_cons_succ]
    have hcd := ((B1).cell (p := ad.add i) (by rw [block_of_add]; exact hlta)).trans hcl
    have zfe := zf_1.drew
    have b0 := B1.drew
    have hcd2 : w1.drew.cell? (ad.add i) = some (.int .u8 (v : Int)) := hcd
    refine wp_region_plan (fun w' => w'.cell? (ad.add i) = some (.int .u8 (v : Int))) (.take 0 <| .take 1 <| .take 2 <| .take 3 <| .take 4 <| .take 5 <| .take 6 <| .take 7 <| .take 8 <| .take 9 <| .take 10 <| .take 11 <| .take 12 <| .take 13 <| .one 14 <| .done) (by kernel_rfl) (by kernel_rfl) (by kernel_rfl) (fun _ _ _ _ _ h => h) hcd2 ?_
    repeat (refine plan_take _ rfl ?_; (first | ((with_reducible refine wpQuiet_at ⟨some 13, _, _, _, _, _⟩ ?_); refine wpQuiet_valueG rfl _ (by intro _ hS; exact exec_load1 _ 5 _ rfl (ad.add i) rfl _ hS _ Try.underlying5 rfl) (wpQuiet_nil ?_); simp only [Act.put, List.setIfInBounds_toArray, List.set_cons_zero, List.set_cons_succ]) | ((with_reducible refine wpQuiet_at ⟨some 19, _, _, _, _, _⟩ ?_); refine wpQuiet_valueG rfl _ (by intro _ hS; exact exec_load1 _ 5 _ rfl (ad.add i) rfl _ hS _ Try.underlying5 rfl) (wpQuiet_nil ?_); simp only [Act.put, List.setIfInBounds_toArray, List.set_cons_zero, List.set_cons_succ]) | (go_big_quiet_step ((intros; rfl)); refine wpQuiet_nil ?_)))
    refine plan_one _ rfl fun K hK => ?_
    refine step_store_all rfl _ _ _ rfl (w.heap.size) rfl _ _ zfe ((⟨((v : Int) % 2 == 1), 0, ((v : Int) / 2 % 2 == 1)⟩ : DvF).cs) rfl (DvF.cs_one _) rfl (by kernel_rfl) ?_
    intro we zg ge
    have hce : we.cell? (ad.add i) = some (.int .u8 (v : Int)) := (World.cell?_of_block (ge.block _ (by rw [block_of_add]; have := B1.size; show ad.block < w1.heap.size; omega) (by rw [block_of_add]; simp; omega))).trans hcd2
    have be := below_kept b0 ge b0.size (by rintro q hq; cases hq; omega)
    refine hK _ _ hce ?_
    clear hK K
    simp only [Act.put, List.setIfInBounds_toArray, List.set_cons_zero, List.set_cons_succ]
    refine plan_done ?_
    go_wp2_with fail
    refine bodyPost_ret (results_cell1 Try.results27 _ _ _ _ rfl (run_loadVar_at (P := Try.prog) _ 75 ⟨w.heap.size, 0, none⟩ _ zg.cells _ Try.underlying75 rfl (by kernel_rfl))) rfl ⟨by rw [HE.out]; rfl, be⟩
  · have HE := Lib.hid (rtFl_out (fs := fs) (i := i) (by omega))
    generalize rtFl fs i = E at *
    clear hr
    go_enter Try.func27, Try.ntmps27
    go_wp2_with (first
      | (with_reducible refine wpList_alloc_row (o := ⟨some 4, _, _, _, _, _⟩) rfl _ rfl zeroT zero_ft ?_; intro w1 r1 s1 g1)
      | ((with_reducible refine wpList_at ⟨none, .store _ (.tmp 4) _, _, _, _, _⟩ ?_); refine wpList_store_all rfl _ _ _ rfl w.heap.size rfl _ _ r1 (noF.cs) rfl (noF.cs_one) rfl (by kernel_rfl) ?_; intro w2 r2 g2))
    refine bodyPost_ret (results_cell1 Try.results27 _ _ _ _ rfl (run_loadVar_at (P := Try.prog) _ 75 ⟨w.heap.size, 0, none⟩ _ r2.cells _ Try.underlying75 rfl (by kernel_rfl))) rfl ⟨by rw [HE.out]; rfl, below_kept (grown_below g1 (Nat.le_refl _) (by simp)) g2 (Nat.le_of_lt s1) (by rintro q hq; cases hq; exact Nat.le_refl _)⟩
/-- A session as it lies in memory. -/
structure Se where
  raise : Bool
  t : UInt8
  A : Option Addr
  n : Nat
  c : Nat
def Se.cs (s : Se) : List Value := [.bool s.raise, .int .u8 (s.t.toNat : Int), .slice s.A s.n s.c]
def Se.v (s : Se) : Value := .agg s.cs.toArray
theorem Se.cs_one (s : Se) : ∀ u ∈ s.cs, u.oneCell' = true := by intro u hu; unfold Se.cs at hu; simp at hu; rcases hu with rfl | rfl | rfl <;> rfl
theorem Se.cs_len (s : Se) : s.cs.length = 3 := rfl
def Se.m (s : Se) (fs : List UInt8) : RtSes := ⟨s.raise, s.t, fs⟩
def rtNx (s : RtSes) (bits : Nat) (l : List Int) : DvA × RtO × Bool := if s.raise then rtRsA 0 (bits : Int) ((rtTgt s bits : Nat) : Int) l else rtLvA 0 (bits : Int) l
theorem rtIn_0 {bits : Nat} (h : bits ≤ 16) : rtIn 0 (bits : Int) = true := by
  unfold rtIn
  rw [decide_eq_true (p := (0 : Int) ≤ (bits : Int)) (by omega), decide_eq_true (p := (bits : Int) ≤ 16) (by omega)]
  rfl
theorem rtNx_ans (s : RtSes) {bits : Nat} (h : bits ≤ 16) (l : List Int) : rtNx s bits l = rtAns 0 (rtProg s bits) l := by
  unfold rtNx rtProg
  have ht := rtTgt_le s bits
  split
  · unfold rtRsA
    rw [rtIn_0 h, decide_eq_true (p := (0 : Int) ≤ ((rtTgt s bits : Nat) : Int)) (by omega), decide_eq_true (p := ((rtTgt s bits : Nat) : Int) ≤ (bits : Int)) (by omega), if_pos (by decide), Int.toNat_natCast, Int.toNat_natCast]
  · unfold rtLvA
    rw [rtIn_0 h, if_pos rfl, Int.toNat_natCast]
set_option maxRecDepth 100000 in
set_option maxHeartbeats 4000000 in
theorem next_any (s : Se) (fs : List UInt8) (bits : Nat) (hb : bits ≤ 16) (A : Option Addr) (n d : Nat) (l : List DvR) (w : World) (hnd : n ≤ d) (hr : Reads w w.heap.size 2 A n (rrs l)) :
    Calls Try.prog 26 #[s.v, .int .i64 (bits : Int), .slice A n d] w (GivesS (rtNx (s.m fs) bits (rxs l)) w) := by
  cases hraise : s.raise with
  | true =>
    have HC : ∀ W, Below w.heap.size w W → Hid (Calls Try.prog 12 #[.int .i64 0, .int .i64 (bits : Int), .int .i64 ((s.t.toNat : Int) % ((bits : Int) + 1)), .slice A n d] W (GivesS (rtNx (s.m fs) bits (rxs l)) W)) := fun W h => by
      have h2 := rRaise_any 0 (bits : Int) ((rtTgt (s.m fs) bits : Nat) : Int) A n d l W hnd (hr.on h)
      rw [show rtRsA 0 (bits : Int) ((rtTgt (s.m fs) bits : Nat) : Int) (rxs l) = rtNx (s.m fs) bits (rxs l) by unfold rtNx; rw [if_pos (show (s.m fs).raise = true from hraise)]] at h2
      rw [show ((s.t.toNat : Int) % ((bits : Int) + 1)) = ((rtTgt (s.m fs) bits : Nat) : Int) by unfold rtTgt; rw [Int.natCast_emod]; rfl]
      exact Lib.hid h2
    have ht : s.t.toNat ≤ 255 := by have := s.t.toNat_lt; omega
    generalize rtNx (s.m fs) bits (rxs l) = R at *
    obtain ⟨sr, st, sA, sn, sc⟩ := s
    simp only at hraise ht HC
    subst hraise
    clear hr
    go_enter Try.func26, Try.ntmps26
    go_wp2_with (first
      | ((with_reducible refine wpList_at ⟨some 3, _, _, _, _, _⟩ ?_); refine wpList_box_row rfl _ _ rfl ((⟨true, st, sA, sn, sc⟩ : Se).cs) rfl ?_; intro w1 se_1 s1 g1; have k1 : Below w.heap.size w w1 := grown_below g1 (Nat.le_refl _) (by simp); have B1 : Below w.heap.size w w1 := k1; have cse0 := se_1.cell (j := 0) rfl; have cse1 := se_1.cell (j := 1) rfl; have cse2 := se_1.cell (j := 2) rfl)
      | (with_reducible refine wpList_alloc_row (o := ⟨some 6, _, _, _, _, _⟩) rfl _ rfl zeroA zero_ac ?_; intro w2 za_2 s2 g2; have k2 : Below w1.heap.size w1 w2 := grown_below g2 (Nat.le_refl _) (by simp); have B2 := B1.trans (k2.mono B1.size); have se_2 := se_1.on k2; clear se_1; have cse0 := se_2.cell (j := 0) rfl; have cse1 := se_2.cell (j := 1) rfl; have cse2 := se_2.cell (j := 2) rfl)
      | (with_reducible refine wpList_alloc_row (o := ⟨some 7, _, _, _, _, _⟩) rfl _ rfl zeroLO zero_lo ?_; intro w3 zo_3 s3 g3; have k3 : Below w2.heap.size w2 w3 := grown_below g3 (Nat.le_refl _) (by simp); have B3 := B2.trans (k3.mono B2.size); have se_3 := se_2.on k3; have za_3 := za_2.on k3; clear se_2 za_2; have cse0 := se_3.cell (j := 0) rfl; have cse1 := se_3.cell (j := 1) rfl; have cse2 := se_3.cell (j := 2) rfl))
    refine ((HC _ B3).out).mono ?_
    rintro e w4 ⟨rfl, h4⟩
    have B4 := B3.trans (h4.mono B3.size)
    have se_4 := se_3.on h4
    have za_4 := za_3.on h4
    have zo_4 := zo_3.on h4
    clear se_3 za_3 zo_3
    have cse0 := se_4.cell (j := 0) rfl
    have cse1 := se_4.cell (j := 1) rfl
    have cse2 := se_4.cell (j := 2) rfl
    go_wp2_with (first
      | ((with_reducible refine wpList_at ⟨none, .store _ (.tmp 6) _, _, _, _, _⟩ ?_); refine wpList_store_all rfl _ _ _ rfl (w1.heap.size) rfl _ _ za_4 ((_ : DvA).cs) rfl (DvA.cs_one _) rfl (by kernel_rfl) ?_; intro w5 za_5 g5; have se_5 := se_4.kept g5 (by simp; omega); have zo_5 := zo_4.kept g5 (by simp; omega); have B5 := below_kept B4 g5 B4.size (by rintro q hq; cases hq; omega); have sz5 := g5.size; clear se_4 zo_4; have cse0 := se_5.cell (j := 0) rfl; have cse1 := se_5.cell (j := 1) rfl; have cse2 := se_5.cell (j := 2) rfl)
      | ((with_reducible refine wpList_at ⟨none, .store _ (.tmp 7) _, _, _, _, _⟩ ?_); refine wpList_store_all rfl _ _ _ rfl (w2.heap.size) rfl _ _ zo_5 ((_ : RtO).cs) rfl (RtO.cs_one _) rfl (by kernel_rfl) ?_; intro w6 zo_6 g6; have se_6 := se_5.kept g6 (by simp; omega); have za_6 := za_5.kept g6 (by simp; omega); have B6 := below_kept B5 g6 B5.size (by rintro q hq; cases hq; omega); have sz6 := g6.size; clear se_5 za_5; have cse0 := se_6.cell (j := 0) rfl; have cse1 := se_6.cell (j := 1) rfl; have cse2 := se_6.cell (j := 2) rfl))
    exact bodyPost_ret (results_cells2 Try.results26 _ _ _ _ _ _ rfl rfl (load_ac za_6) (load_lo zo_6)) rfl ⟨rfl, B6⟩
  | false =>
    have HC : ∀ W, Below w.heap.size w W → Hid (Calls Try.prog 10 #[.int .i64 0, .int .i64 (bits : Int), .slice A n d] W (GivesS (rtNx (s.m fs) bits (rxs l)) W)) := fun W h => by
      have h2 := rLevel_any 0 (bits : Int) A n d l W hnd (hr.on h)
      rw [show rtLvA 0 (bits : Int) (rxs l) = rtNx (s.m fs) bits (rxs l) by unfold rtNx; rw [if_neg (show ¬ (s.m fs).raise = true by rw [show (s.m fs).raise = false from hraise]; decide)]] at h2
      exact Lib.hid h2
    generalize rtNx (s.m fs) bits (rxs l) = R at *
    obtain ⟨sr, st, sA, sn, sc⟩ := s
    simp only at hraise HC
    subst hraise
    clear hr
    go_enter Try.func26, Try.ntmps26
    go_wp2_with (first
      | ((with_reducible refine wpList_at ⟨some 3, _, _, _, _, _⟩ ?_); refine wpList_box_row rfl _ _ rfl ((⟨false, st, sA, sn, sc⟩ : Se).cs) rfl ?_; intro w1 se_1 s1 g1; have k1 : Below w.heap.size w w1 := grown_below g1 (Nat.le_refl _) (by simp); have B1 : Below w.heap.size w w1 := k1; have cse0 := se_1.cell (j := 0) rfl; have cse1 := se_1.cell (j := 1) rfl; have cse2 := se_1.cell (j := 2) rfl)
      | (with_reducible refine wpList_alloc_row (o := ⟨some 6, _, _, _, _, _⟩) rfl _ rfl zeroA zero_ac ?_; intro w2 za_2 s2 g2; have k2 : Below w1.heap.size w1 w2 := grown_below g2 (Nat.le_refl _) (by simp); have B2 := B1.trans (k2.mono B1.size); have se_2 := se_1.on k2; clear se_1; have cse0 := se_2.cell (j := 0) rfl; have cse1 := se_2.cell (j := 1) rfl; have cse2 := se_2.cell (j := 2) rfl)
      | (with_reducible refine wpList_alloc_row (o := ⟨some 7, _, _, _, _, _⟩) rfl _ rfl zeroLO zero_lo ?_; intro w3 zo_3 s3 g3; have k3 : Below w2.heap.size w2 w3 := grown_below g3 (Nat.le_refl _) (by simp); have B3 := B2.trans (k3.mono B2.size); have se_3 := se_2.on k3; have za_3 := za_2.on k3; clear se_2 za_2; have cse0 := se_3.cell (j := 0) rfl; have cse1 := se_3.cell (j := 1) rfl; have cse2 := se_3.cell (j := 2) rfl))
    refine ((HC _ B3).out).mono ?_
    rintro e w4 ⟨rfl, h4⟩
    have B4 := B3.trans (h4.mono B3.size)
    have se_4 := se_3.on h4
    have za_4 := za_3.on h4
    have zo_4 := zo_3.on h4
    clear se_3 za_3 zo_3
    have cse0 := se_4.cell (j := 0) rfl
    have cse1 := se_4.cell (j := 1) rfl
    have cse2 := se_4.cell (j := 2) rfl
    go_wp2_with (first
      | ((with_reducible refine wpList_at ⟨none, .store _ (.tmp 6) _, _, _, _, _⟩ ?_); refine wpList_store_all rfl _ _ _ rfl (w1.heap.size) rfl _ _ za_4 ((_ : DvA).cs) rfl (DvA.cs_one _) rfl (by kernel_rfl) ?_; intro w5 za_5 g5; have se_5 := se_4.kept g5 (by simp; omega); have zo_5 := zo_4.kept g5 (by simp; omega); have B5 := below_kept B4 g5 B4.size (by rintro q hq; cases hq; omega); have sz5 := g5.size; clear se_4 zo_4; have cse0 := se_5.cell (j := 0) rfl; have cse1 := se_5.cell (j := 1) rfl; have cse2 := se_5.cell (j := 2) rfl)
      | ((with_reducible refine wpList_at ⟨none, .store _ (.tmp 7) _, _, _, _, _⟩ ?_); refine wpList_store_all rfl _ _ _ rfl (w2.heap.size) rfl _ _ zo_5 ((_ : RtO).cs) rfl (RtO.cs_one _) rfl (by kernel_rfl) ?_; intro w6 zo_6 g6; have se_6 := se_5.kept g6 (by simp; omega); have za_6 := za_5.kept g6 (by simp; omega); have B6 := below_kept B5 g6 B5.size (by rintro q hq; cases hq; omega); have sz6 := g6.size; clear se_5 za_5; have cse0 := se_6.cell (j := 0) rfl; have cse1 := se_6.cell (j := 1) rfl; have cse2 := se_6.cell (j := 2) rfl))
    exact bodyPost_ret (results_cells2 Try.results26 _ _ _ _ _ _ rfl rfl (load_ac za_6) (load_lo zo_6)) rfl ⟨rfl, B6⟩
end Go.Proofs.Ytfcbcclcmgheeaa
