/-
  WotsMatchesSpec's walk. Condition: the table of constants as laid.
-/
import Derived.Test.YtojdondipkbjhaaDoorWVf
import Derived.Test.YtojdondipkbjhaaDoorSame4
namespace Go.Proofs.YtojdondipkbjhaaDoor
open Go.RowKit

theorem wSign_16m (seed : List UInt8) (index : Int) (msg : List UInt8) : Len16 (wSign seed index msg) := fun d hd => by
  obtain ⟨k, hk, rfl⟩ := List.mem_map.1 hd
  exact wAdv_len k (wStart_len seed index k) _
/-- What Recover returns: the key, or nothing and an error. -/
def recD (msg : List UInt8) (n : Nat) (ds : List (List UInt8)) : List UInt8 := if n = 68 then wKey msg ds else zero16B'
def recE (n : Nat) : Int := if n = 68 then 0 else 9
theorem recD_len (msg : List UInt8) (n : Nat) (ds : List (List UInt8)) : (recD msg n ds).length = 16 := by
  unfold recD
  split
  · unfold wKey digestB; rw [List.length_take, sha_len]; rfl
  · rfl
theorem recover_all (A : Option Addr) (c n : Nat) (msg : List UInt8) (ds : List (List UInt8)) (w : World) (hK : Consts w) (hm : msg.length = 16) (hr : ReadsD w A n ds) (hc : n ≤ c) :
    Calls Tryd.prog 12 #[.agg (bvs msg).toArray, .slice A n c] w (GivesVE (recD msg n ds) (recE n) w) := by
  by_cases h : n = 68
  · subst h
    unfold recD recE
    rw [if_pos rfl, if_pos rfl]
    exact recover_any A c msg ds w hK hm hr hc
  · unfold recD recE
    rw [if_neg h, if_neg h]
    exact recover_bad A c n msg w h
theorem refRecover_all (A : Option Addr) (c n : Nat) (msg : List UInt8) (ds : List (List UInt8)) (w : World) (hm : msg.length = 16) (hr : ReadsD w A n ds) :
    Calls Tryd.prog 13 #[.agg (bvs msg).toArray, .slice A n c] w (GivesVE (recD msg n ds) (recE n) w) := by
  by_cases h : n = 68
  · subst h
    unfold recD recE
    rw [if_pos rfl, if_pos rfl]
    exact refRecover_any A c msg ds w hm hr
  · unfold recD recE
    rw [if_neg h, if_neg h]
    exact refRecover_bad A c n msg w h

set_option maxRecDepth 100000 in
set_option maxHeartbeats 2000000 in
theorem walkMs (A : Option Addr) (c n : Nat) (ds : List (List UInt8)) (seed msg : List UInt8) (hs : seed.length = 16) (hm : msg.length = 16) (index : Int) (h1 : -9223372036854775808 ≤ index) (h2 : index ≤ 9223372036854775807) (w : World) (hK : Consts w) (hr : ReadsD w A n ds) (hc : n ≤ c) (hn : n ≤ 140737488351232) :
    Calls Tryd.prog 3 #[.agg (bvs seed).toArray, .int .i64 index, .agg (bvs msg).toArray, .slice A n c] w fun e w' => e = .returned (.bool true) ∧ Below w.heap.size w w' := by
  by_cases h80 : 80 < n
  · go_enter Tryd.func3, Tryd.ntmps3
    go_wp2_with (first
      | (with_reducible refine wpList_box_row (o := ⟨some 4, _, _, _, _, _⟩) rfl _ _ rfl (bvs seed) rfl ?_; intro w1 hrow1 hs1 hg1)
      | (with_reducible refine wpList_box_row (o := ⟨some 6, _, _, _, _, _⟩) rfl _ _ rfl (bvs msg) rfl ?_; intro w2 hrow2 hs2 hg2))
    have hb2 : Below w.heap.size w w2 := below_kept (grown_below hg1 (Nat.le_refl _) (by simp)) hg2 (by omega) (by simp)
    refine (san4_any _ (hK.on hb2)).mono ?_
    rintro e w3 ⟨rfl, hb3⟩
    go_wp2_with fail
    go_ret
    exact ⟨rfl, hb2.trans (hb3.mono hb2.size)⟩
  have HS := Lib.hid hs
  have HM := Lib.hid hm
  have HDA := fun W => Lib.hid (digits_any msg hm W)
  have HDB := fun W => Lib.hid (refDigits_any msg hm W)
  have HRA := fun W hW hr => Lib.hid (recover_all A c n msg ds W hW hm hr hc)
  have HRB := fun W hr => Lib.hid (refRecover_all (c := c) A n msg ds W hm hr)
  have HRL := Lib.hid (recD_len msg n ds)
  have HPA := fun W hW => Lib.hid (public_any seed hs index h1 h2 W hW)
  have HPB := fun W => Lib.hid (refPublic_any seed hs index h1 h2 W)
  have HPL : Hid ((wPub seed index).length = 16) := by show _ = _; unfold wPub digestB; rw [List.length_take, sha_len]; rfl
  have HGA := fun W hW => Lib.hid (sign_any seed msg hs hm index h1 h2 W hW)
  have HGB := fun W => Lib.hid (refSign_any seed msg hs hm index h1 h2 W)
  have HSL := Lib.hid (wSign_len seed index msg)
  have HS16 := Lib.hid (wSign_16m seed index msg)
  have HLA := Lib.hid (wDigs_len msg)
  have HAA := fun k hk => Lib.hid (wDigs_at msg (k := k) hk)
  generalize wDigs msg = DA at *
  generalize recD msg n ds = RD at *
  generalize recE n = RE at *
  generalize wPub seed index = PU at *
  generalize wSign seed index msg = SG at *
  clear hs hm
  go_enter Tryd.func3, Tryd.ntmps3
  go_wp2_with (first
    | (with_reducible refine wpList_box_row (o := ⟨some 4, _, _, _, _, _⟩) rfl _ _ rfl (bvs seed) rfl ?_; intro w1 hrow1 hs1 hg1)
    | (with_reducible refine wpList_box_row (o := ⟨some 6, _, _, _, _, _⟩) rfl _ _ rfl (bvs msg) rfl ?_; intro w2 hrow2 hs2 hg2))
  have hCo := hK
  have hrow1' := hrow1.kept hg2 (by simp)
  have hb2 : Below w.heap.size w w2 := below_kept (grown_below hg1 (Nat.le_refl _) (by simp)) hg2 (by omega) (by simp)
  have hlt2 := hrow2.lt
  clear hrow1 hg1 hg2
  refine wp_region_plan (fun w' => Row w' w.heap.size 23 (bvs seed) ∧ Row w' w1.heap.size 23 (bvs msg)) (.take 0 <| .take 2 <| .one 1 <| .one 3 <| .take 4 <| .take 5 <| .done) (by kernel_rfl) (by kernel_rfl) (by kernel_rfl) (fun _ _ _ _ _ h => h) ⟨hrow1'.drew, hrow2.drew⟩ ?_
  repeat (refine plan_take _ rfl ?_; (first | (refine wpQuiet_valueG (o := ⟨some 20, _, _, _, _, _⟩) rfl _ (by intro _ h; exact exec_load16 _ _ rfl _ rfl msg HM.out h.2.cells) (wpQuiet_nil ?_); simp only [Act.put, List.setIfInBounds_toArray, List.set_cons_zero, List.set_cons_succ]) | (refine wpQuiet_valueG (o := ⟨some 22, _, _, _, _, _⟩) rfl _ (by intro _ h; exact exec_load16 _ _ rfl _ rfl msg HM.out h.2.cells) (wpQuiet_nil ?_); simp only [Act.put, List.setIfInBounds_toArray, List.set_cons_zero, List.set_cons_succ]) | (go_big_quiet_step ((intros; rfl)); refine wpQuiet_nil ?_)))
  refine plan_one _ rfl fun K hK => ?_
  go_simp
  refine ((HDA _).out).mono ?_
  rintro e wx1 ⟨vx1, rfl, ⟨_, ox1⟩, hx1⟩
  obtain ⟨Aa, ca, rfl, hca, _, la0⟩ := own_form ox1
  rw [HLA.out] at hca la0 ⊢
  have Bx2 := hb2.drew.trans (hx1.mono hb2.drew.size)
  have rsx2 := hrow1'.drew.on hx1
  have rmx2 := hrow2.drew.on hx1
  have Kx2 := (hCo.on hb2.drew).on hx1
  have Cx2 := (hr.on hb2.drew).on hx1
  refine hK _ _ ⟨rsx2, rmx2⟩ ?_
  clear hK K
  refine plan_one _ rfl fun K hK => ?_
  go_simp
  refine ((HDB _).out).mono ?_
  rintro e wx3 ⟨vx3, rfl, ox3, hx3⟩
  obtain ⟨Ab, cb, rfl, hcb, _, lb0⟩ := own_form ox3
  rw [HLA.out] at hcb lb0 ⊢
  have Bx4 := Bx2.trans (hx3.mono Bx2.size)
  have rsx4 := rsx2.on hx3
  have rmx4 := rmx2.on hx3
  have Kx4 := Kx2.on hx3
  have Cx4 := Cx2.on hx3
  have lax4 := la0.on hx3
  refine hK _ _ ⟨rsx4, rmx4⟩ ?_
  clear hK K
  repeat (refine plan_take _ rfl ?_; (first | (refine wpQuiet_valueG (o := ⟨some 20, _, _, _, _, _⟩) rfl _ (by intro _ h; exact exec_load16 _ _ rfl _ rfl msg HM.out h.2.cells) (wpQuiet_nil ?_); simp only [Act.put, List.setIfInBounds_toArray, List.set_cons_zero, List.set_cons_succ]) | (refine wpQuiet_valueG (o := ⟨some 22, _, _, _, _, _⟩) rfl _ (by intro _ h; exact exec_load16 _ _ rfl _ rfl msg HM.out h.2.cells) (wpQuiet_nil ?_); simp only [Act.put, List.setIfInBounds_toArray, List.set_cons_zero, List.set_cons_succ]) | (go_big_quiet_step ((intros; rfl)); refine wpQuiet_nil ?_)))
  refine plan_done ?_
  have hla := lax4
  have hlb := lb0
  have hrs := rsx4
  have hrm := rmx4
  have hKb := Kx4
  have hcd := Cx4
  have Bb := Bx4
  generalize wx3 = wb at *
  go_wp2_with fail
  go_loopg [31] 68 (fun g s wr => ∃ k : Nat, s = .int .i64 (k : Int) ∧ k ≤ 68 ∧ 68 ≤ g + k ∧ ∃ q, wr = wb.drewN q)
  case atStart => exact ⟨0, rfl, by omega, by omega, 0, rfl⟩
  case round =>
    obtain ⟨k, rfl, hk, hg, q, rfl⟩ := hrel
    by_cases hlt : k < 68
    · obtain ⟨al, u, rfl, hal, hu, hcu⟩ := hla.at_ hlt
      rw [nvs_get (HAA k hlt).out] at hu
      obtain rfl : Value.int .i64 (wD msg k : Int) = u := by simpa using hu
      obtain ⟨bl, v, rfl, hbl, hv, hcv⟩ := hlb.at_ hlt
      rw [nvs_get (HAA k hlt).out] at hv
      obtain rfl : Value.int .i64 (wD msg k : Int) = v := by simpa using hv
      have hx3 := wD_le msg k
      clear hu hv HAA
      generalize wD msg k = x at *
      have T1 : ((x : Int) != (x : Int)) = false := by simp
      go_wp2_with fail
      go_quiet (fail)
      go_wp2_with fail
      go_roundg (gk - 1)
      case measure => omega
      case rel => exact ⟨k + 1, by go_num, by omega, by omega, _, rfl⟩
    · obtain rfl : k = 68 := by omega
      have hrs1 := hrs.drewN q
      have hrm1 := hrm.drewN q
      have B1 := below_drewN Bb q
      have hcd1 : ReadsD (wb.drewN q) A n ds := hcd
      generalize wb.drewN q = w3 at *
      clear hla hlb hrs hrm hcd
      go_wp2_with (with_reducible refine wpList_load_all (o := ⟨some 45, _, _, _, _, _⟩) rfl _ _ rfl w1.heap.size rfl _ _ hrm1 _ Tryd.underlying23 rfl (b16_size _ HM.out) ?_)
      refine (HRA _ (hCo.on B1) hcd1).out.mono ?_
      rintro e w4 ⟨rfl, hb4⟩
      have hrs4 := hrs1.on hb4
      have hrm4 := hrm1.on hb4
      have hcd4 := hcd1.on hb4
      have B4 := B1.trans (hb4.mono B1.size)
      have z4 := B4.size
      have zs4 := hrs4.lt
      have zm4 := hrm4.lt
      go_wp2_with (first
        | (with_reducible refine wpList_alloc_row (o := ⟨some 12, _, _, _, _, _⟩) rfl _ rfl zeros16 zero_b16 ?_; intro w5 hrow5 hs5 hg5)
        | (with_reducible refine wpList_store_all (o := ⟨none, _, _, _, _, _⟩) rfl _ _ _ rfl w4.heap.size rfl _ _ hrow5 (bvs RD) rfl (bvs_one _) (b16_zeros _ HRL.out) (b16_size _ HRL.out) ?_; intro w6 hrow6 hg6; have hb46 : Below w4.heap.size w4 w6 := below_kept (grown_below hg5 (Nat.le_refl _) (by simp)) hg6 (by omega) (by rintro k hk; cases hk; exact Nat.le_refl _); have hrm6 := hrm4.on hb46)
        | (with_reducible refine wpList_load_all (o := ⟨some 51, _, _, _, _, _⟩) rfl _ _ rfl w1.heap.size rfl _ _ hrm6 _ Tryd.underlying23 rfl (b16_size _ HM.out) ?_))
      have hrs6 := hrs4.on hb46
      have hcd6 := hcd4.on hb46
      have B6 := B4.trans (hb46.mono B4.size)
      refine (HRB _ hcd6).out.mono ?_
      rintro e w7 ⟨rfl, hb7⟩
      have hrs7 := hrs6.on hb7
      have hrm7 := hrm6.on hb7
      have hrx7 := hrow6.on hb7
      have B7 := B6.trans (hb7.mono B6.size)
      have z7 := hrx7.lt
      clear hrow5 hrow6 hg5 hg6 hrs1 hrm1 hrs4 hrm4 hrs6 hrm6
      go_wp2_with (first
        | (with_reducible refine wpList_alloc_row (o := ⟨some 14, _, _, _, _, _⟩) rfl _ rfl zeros16 zero_b16 ?_; intro w8 hrow8 hs8 hg8)
        | (with_reducible refine wpList_store_all (o := ⟨none, _, _, _, _, _⟩) rfl _ _ _ rfl w7.heap.size rfl _ _ hrow8 (bvs RD) rfl (bvs_one _) (b16_zeros _ HRL.out) (b16_size _ HRL.out) ?_; intro w9 hrow9 hg9))
      have hb79 : Below w7.heap.size w7 w9 := below_kept (grown_below hg8 (Nat.le_refl _) (by simp)) hg9 (by omega) (by rintro k hk; cases hk; exact Nat.le_refl _)
      have hrs9 := hrs7.on hb79
      have hrm9 := hrm7.on hb79
      have hrx9 := hrx7.on hb79
      have B9 := B7.trans (hb79.mono B7.size)
      clear hrow8 hg8 hg9 hrs7 hrm7 hrx7
      refine wp_region_plan (fun w' => Row w' w.heap.size 23 (bvs seed) ∧ Row w' w1.heap.size 23 (bvs msg) ∧ Row w' w4.heap.size 23 (bvs RD) ∧ Row w' w7.heap.size 23 (bvs RD)) (.one 0 <| .take 1 <| .take 2 <| .take 3 <| .take 5 <| .take 6 <| .one 4 <| .one 7 <| .take 8 <| .take 9 <| .take 10 <| .take 11 <| .take 12 <| .take 13 <| .take 15 <| .take 16 <| .take 17 <| .one 14 <| .one 18 <| .one 19 <| .take 20 <| .take 21 <| .take 22 <| .take 23 <| .take 24 <| .take 25 <| .take 26 <| .take 27 <| .take 28 <| .take 29 <| .take 30 <| .take 31 <| .done) (by kernel_rfl) (by kernel_rfl) (by kernel_rfl) (fun _ _ _ _ _ h => h) ⟨hrs9.drew, hrm9.drew, hrx9.drew, hrow9.drew⟩ ?_
      refine plan_one _ rfl fun K hK => ?_
      go_simp
      refine (san4_any _ (hCo.on B9.drew)).mono ?_
      rintro e wx5 ⟨rfl, hx5⟩
      have Bx6 := B9.drew.trans (hx5.mono B9.drew.size)
      have rsx6 := hrs9.drew.on hx5
      have rmx6 := hrm9.drew.on hx5
      have rxx6 := hrx9.drew.on hx5
      have ryx6 := hrow9.drew.on hx5
      have Kx6 := (hCo.on B9.drew).on hx5
      refine hK _ _ ⟨rsx6, rmx6, rxx6, ryx6⟩ ?_
      clear hK K
      repeat (refine plan_take _ rfl ?_; (first | (refine wpQuiet_valueG (o := ⟨some 58, _, _, _, _, _⟩) rfl _ (by intro _ h; exact exec_load16 _ _ rfl _ rfl seed HS.out h.1.cells) (wpQuiet_nil ?_); simp only [Act.put, List.setIfInBounds_toArray, List.set_cons_zero, List.set_cons_succ]) | (refine wpQuiet_valueG (o := ⟨some 61, _, _, _, _, _⟩) rfl _ (by intro _ h; exact exec_load16 _ _ rfl _ rfl seed HS.out h.1.cells) (wpQuiet_nil ?_); simp only [Act.put, List.setIfInBounds_toArray, List.set_cons_zero, List.set_cons_succ]) | (refine wpQuiet_valueG (o := ⟨some 67, _, _, _, _, _⟩) rfl _ (by intro _ h; exact exec_load16 _ _ rfl _ rfl seed HS.out h.1.cells) (wpQuiet_nil ?_); simp only [Act.put, List.setIfInBounds_toArray, List.set_cons_zero, List.set_cons_succ]) | (refine wpQuiet_valueG (o := ⟨some 71, _, _, _, _, _⟩) rfl _ (by intro _ h; exact exec_load16 _ _ rfl _ rfl seed HS.out h.1.cells) (wpQuiet_nil ?_); simp only [Act.put, List.setIfInBounds_toArray, List.set_cons_zero, List.set_cons_succ]) | (refine wpQuiet_valueG (o := ⟨some 69, _, _, _, _, _⟩) rfl _ (by intro _ h; exact exec_load16 _ _ rfl _ rfl msg HM.out h.2.1.cells) (wpQuiet_nil ?_); simp only [Act.put, List.setIfInBounds_toArray, List.set_cons_zero, List.set_cons_succ]) | (refine wpQuiet_valueG (o := ⟨some 73, _, _, _, _, _⟩) rfl _ (by intro _ h; exact exec_load16 _ _ rfl _ rfl msg HM.out h.2.1.cells) (wpQuiet_nil ?_); simp only [Act.put, List.setIfInBounds_toArray, List.set_cons_zero, List.set_cons_succ]) | (refine wpQuiet_valueG (o := ⟨some 78, _, _, _, _, _⟩) rfl _ (by intro _ h; exact exec_load16 _ _ rfl _ rfl RD HRL.out h.2.2.1.cells) (wpQuiet_nil ?_); simp only [Act.put, List.setIfInBounds_toArray, List.set_cons_zero, List.set_cons_succ]) | (refine wpQuiet_valueG (o := ⟨some 79, _, _, _, _, _⟩) rfl _ (by intro _ h; exact exec_load16 _ _ rfl _ rfl RD HRL.out h.2.2.2.cells) (wpQuiet_nil ?_); simp only [Act.put, List.setIfInBounds_toArray, List.set_cons_zero, List.set_cons_succ]) | (refine wpQuiet_valueG (o := ⟨some 64, _, _, _, _, _⟩) rfl _ (by intro _ h; exact exec_eql16 _ _ _ rfl PU PU HPL.out HPL.out rfl rfl) (wpQuiet_nil ?_); simp only [Act.put, List.setIfInBounds_toArray, List.set_cons_zero, List.set_cons_succ]) | (refine wpQuiet_valueG (o := ⟨some 80, _, _, _, _, _⟩) rfl _ (by intro _ h; exact exec_eql16 _ _ _ rfl RD RD HRL.out HRL.out rfl rfl) (wpQuiet_nil ?_); simp only [Act.put, List.setIfInBounds_toArray, List.set_cons_zero, List.set_cons_succ]) | (go_big_quiet_step ((intros; rfl)); refine wpQuiet_nil ?_)))
      refine plan_one _ rfl fun K hK => ?_
      go_simp
      refine ((HPA _ Kx6).out).mono ?_
      rintro e wx7 ⟨rfl, hx7⟩
      have Bx8 := Bx6.trans (hx7.mono Bx6.size)
      have rsx8 := rsx6.on hx7
      have rmx8 := rmx6.on hx7
      have rxx8 := rxx6.on hx7
      have ryx8 := ryx6.on hx7
      have Kx8 := Kx6.on hx7
      refine hK _ _ ⟨rsx8, rmx8, rxx8, ryx8⟩ ?_
      clear hK K
      refine plan_one _ rfl fun K hK => ?_
      go_simp
      refine ((HPB _).out).mono ?_
      rintro e wx9 ⟨rfl, hx9⟩
      have Bx10 := Bx8.trans (hx9.mono Bx8.size)
      have rsx10 := rsx8.on hx9
      have rmx10 := rmx8.on hx9
      have rxx10 := rxx8.on hx9
      have ryx10 := ryx8.on hx9
      have Kx10 := Kx8.on hx9
      refine hK _ _ ⟨rsx10, rmx10, rxx10, ryx10⟩ ?_
      clear hK K
      repeat (refine plan_take _ rfl ?_; (first | (refine wpQuiet_valueG (o := ⟨some 58, _, _, _, _, _⟩) rfl _ (by intro _ h; exact exec_load16 _ _ rfl _ rfl seed HS.out h.1.cells) (wpQuiet_nil ?_); simp only [Act.put, List.setIfInBounds_toArray, List.set_cons_zero, List.set_cons_succ]) | (refine wpQuiet_valueG (o := ⟨some 61, _, _, _, _, _⟩) rfl _ (by intro _ h; exact exec_load16 _ _ rfl _ rfl seed HS.out h.1.cells) (wpQuiet_nil ?_); simp only [Act.put, List.setIfInBounds_toArray, List.set_cons_zero, List.set_cons_succ]) | (refine wpQuiet_valueG (o := ⟨some 67, _, _, _, _, _⟩) rfl _ (by intro _ h; exact exec_load16 _ _ rfl _ rfl seed HS.out h.1.cells) (wpQuiet_nil ?_); simp only [Act.put, List.setIfInBounds_toArray, List.set_cons_zero, List.set_cons_succ]) | (refine wpQuiet_valueG (o := ⟨some 71, _, _, _, _, _⟩) rfl _ (by intro _ h; exact exec_load16 _ _ rfl _ rfl seed HS.out h.1.cells) (wpQuiet_nil ?_); simp only [Act.put, List.setIfInBounds_toArray, List.set_cons_zero, List.set_cons_succ]) | (refine wpQuiet_valueG (o := ⟨some 69, _, _, _, _, _⟩) rfl _ (by intro _ h; exact exec_load16 _ _ rfl _ rfl msg HM.out h.2.1.cells) (wpQuiet_nil ?_); simp only [Act.put, List.setIfInBounds_toArray, List.set_cons_zero, List.set_cons_succ]) | (refine wpQuiet_valueG (o := ⟨some 73, _, _, _, _, _⟩) rfl _ (by intro _ h; exact exec_load16 _ _ rfl _ rfl msg HM.out h.2.1.cells) (wpQuiet_nil ?_); simp only [Act.put, List.setIfInBounds_toArray, List.set_cons_zero, List.set_cons_succ]) | (refine wpQuiet_valueG (o := ⟨some 78, _, _, _, _, _⟩) rfl _ (by intro _ h; exact exec_load16 _ _ rfl _ rfl RD HRL.out h.2.2.1.cells) (wpQuiet_nil ?_); simp only [Act.put, List.setIfInBounds_toArray, List.set_cons_zero, List.set_cons_succ]) | (refine wpQuiet_valueG (o := ⟨some 79, _, _, _, _, _⟩) rfl _ (by intro _ h; exact exec_load16 _ _ rfl _ rfl RD HRL.out h.2.2.2.cells) (wpQuiet_nil ?_); simp only [Act.put, List.setIfInBounds_toArray, List.set_cons_zero, List.set_cons_succ]) | (refine wpQuiet_valueG (o := ⟨some 64, _, _, _, _, _⟩) rfl _ (by intro _ h; exact exec_eql16 _ _ _ rfl PU PU HPL.out HPL.out rfl rfl) (wpQuiet_nil ?_); simp only [Act.put, List.setIfInBounds_toArray, List.set_cons_zero, List.set_cons_succ]) | (refine wpQuiet_valueG (o := ⟨some 80, _, _, _, _, _⟩) rfl _ (by intro _ h; exact exec_eql16 _ _ _ rfl RD RD HRL.out HRL.out rfl rfl) (wpQuiet_nil ?_); simp only [Act.put, List.setIfInBounds_toArray, List.set_cons_zero, List.set_cons_succ]) | (go_big_quiet_step ((intros; rfl)); refine wpQuiet_nil ?_)))
      refine plan_one _ rfl fun K hK => ?_
      go_simp
      refine ((HGA _ Kx10).out).mono ?_
      rintro e wx11 ⟨vx11, rfl, ox11, hx11⟩
      obtain ⟨Ga, cga, rfl, hcga, ga0⟩ := own_digs ox11 HS16.out
      rw [HSL.out] at hcga ga0 ⊢
      have Bx12 := Bx10.trans (hx11.mono Bx10.size)
      have rsx12 := rsx10.on hx11
      have rmx12 := rmx10.on hx11
      have rxx12 := rxx10.on hx11
      have ryx12 := ryx10.on hx11
      have Kx12 := Kx10.on hx11
      refine hK _ _ ⟨rsx12, rmx12, rxx12, ryx12⟩ ?_
      clear hK K
      refine plan_one _ rfl fun K hK => ?_
      go_simp
      refine ((HGB _).out).mono ?_
      rintro e wx13 ⟨vx13, rfl, ox13, hx13⟩
      obtain ⟨Gb, cgb, rfl, hcgb, gb0⟩ := own_digs ox13 HS16.out
      rw [HSL.out] at hcgb gb0 ⊢
      have Bx14 := Bx12.trans (hx13.mono Bx12.size)
      have rsx14 := rsx12.on hx13
      have rmx14 := rmx12.on hx13
      have rxx14 := rxx12.on hx13
      have ryx14 := ryx12.on hx13
      have Kx14 := Kx12.on hx13
      have gax14 := ga0.on hx13
      refine hK _ _ ⟨rsx14, rmx14, rxx14, ryx14⟩ ?_
      clear hK K
      refine plan_one _ rfl fun K hK => ?_
      go_simp
      refine (same4_any _ _ _ _ SG SG 68 68 _ _ _ gax14.1 gb0.1 HS16.out HS16.out (by omega) (by omega)).mono ?_
      rintro e wx15 ⟨rfl, mx15, rfl⟩
      rw [show (SG == SG) = true by simp]
      refine hK _ _ ⟨(rsx14.drewN mx15), (rmx14.drewN mx15), (rxx14.drewN mx15), (ryx14.drewN mx15)⟩ ?_
      clear hK K
      repeat (refine plan_take _ rfl ?_; (first | (refine wpQuiet_valueG (o := ⟨some 58, _, _, _, _, _⟩) rfl _ (by intro _ h; exact exec_load16 _ _ rfl _ rfl seed HS.out h.1.cells) (wpQuiet_nil ?_); simp only [Act.put, List.setIfInBounds_toArray, List.set_cons_zero, List.set_cons_succ]) | (refine wpQuiet_valueG (o := ⟨some 61, _, _, _, _, _⟩) rfl _ (by intro _ h; exact exec_load16 _ _ rfl _ rfl seed HS.out h.1.cells) (wpQuiet_nil ?_); simp only [Act.put, List.setIfInBounds_toArray, List.set_cons_zero, List.set_cons_succ]) | (refine wpQuiet_valueG (o := ⟨some 67, _, _, _, _, _⟩) rfl _ (by intro _ h; exact exec_load16 _ _ rfl _ rfl seed HS.out h.1.cells) (wpQuiet_nil ?_); simp only [Act.put, List.setIfInBounds_toArray, List.set_cons_zero, List.set_cons_succ]) | (refine wpQuiet_valueG (o := ⟨some 71, _, _, _, _, _⟩) rfl _ (by intro _ h; exact exec_load16 _ _ rfl _ rfl seed HS.out h.1.cells) (wpQuiet_nil ?_); simp only [Act.put, List.setIfInBounds_toArray, List.set_cons_zero, List.set_cons_succ]) | (refine wpQuiet_valueG (o := ⟨some 69, _, _, _, _, _⟩) rfl _ (by intro _ h; exact exec_load16 _ _ rfl _ rfl msg HM.out h.2.1.cells) (wpQuiet_nil ?_); simp only [Act.put, List.setIfInBounds_toArray, List.set_cons_zero, List.set_cons_succ]) | (refine wpQuiet_valueG (o := ⟨some 73, _, _, _, _, _⟩) rfl _ (by intro _ h; exact exec_load16 _ _ rfl _ rfl msg HM.out h.2.1.cells) (wpQuiet_nil ?_); simp only [Act.put, List.setIfInBounds_toArray, List.set_cons_zero, List.set_cons_succ]) | (refine wpQuiet_valueG (o := ⟨some 78, _, _, _, _, _⟩) rfl _ (by intro _ h; exact exec_load16 _ _ rfl _ rfl RD HRL.out h.2.2.1.cells) (wpQuiet_nil ?_); simp only [Act.put, List.setIfInBounds_toArray, List.set_cons_zero, List.set_cons_succ]) | (refine wpQuiet_valueG (o := ⟨some 79, _, _, _, _, _⟩) rfl _ (by intro _ h; exact exec_load16 _ _ rfl _ rfl RD HRL.out h.2.2.2.cells) (wpQuiet_nil ?_); simp only [Act.put, List.setIfInBounds_toArray, List.set_cons_zero, List.set_cons_succ]) | (refine wpQuiet_valueG (o := ⟨some 64, _, _, _, _, _⟩) rfl _ (by intro _ h; exact exec_eql16 _ _ _ rfl PU PU HPL.out HPL.out rfl rfl) (wpQuiet_nil ?_); simp only [Act.put, List.setIfInBounds_toArray, List.set_cons_zero, List.set_cons_succ]) | (refine wpQuiet_valueG (o := ⟨some 80, _, _, _, _, _⟩) rfl _ (by intro _ h; exact exec_eql16 _ _ _ rfl RD RD HRL.out HRL.out rfl rfl) (wpQuiet_nil ?_); simp only [Act.put, List.setIfInBounds_toArray, List.set_cons_zero, List.set_cons_succ]) | (go_big_quiet_step ((intros; rfl)); refine wpQuiet_nil ?_)))
      refine plan_done ?_
      go_wp2_with fail
      go_ret
      exact ⟨by first | rfl | simp, (below_drewN Bx14 mx15)⟩
end Go.Proofs.YtojdondipkbjhaaDoor
