/-
  WotsReduction's walk. Condition: the table of constants as laid.
-/
import Derived.Test.YtojdondipkbjhaaDoorWMs4
import Derived.Test.YtojdondipkbjhaaDoorStep4
import Derived.Test.YtojdondipkbjhaaDoorTwo
namespace Go.Proofs.YtojdondipkbjhaaDoor
open Go.RowKit

section
variable {P : Program} {ops : Array Oper} {o : Oper} {a : Act} {w : World} {K : Act → World → Prop} {Q : Exit → Act → World → Prop} {E : Prop}
theorem step_append_two (hw : Region.wanted o (yielded ops a.tmps) = true) (s x : Operand) (t tx : TypeId)
    (ho : o.op = .call { callee := .builtin .append, args := #[s, x], argTypes := #[t, tx] })
    (base : Nat) (e : TypeId) (i : TypeInfo) (z : Value) (size bytes : Nat) (ht : P.underlying t = some (.slice e)) (hi : P.info? e = some i) (hz : i.zero = some z)
    (hsize : i.size = size) (hby : i.bytes = bytes) (hzs : z.cells.size = size)
    (v : Value) (n : Nat) (xs : List Value) (hsv : a.eval s = v) (hown : w.ownsRow base e size v n xs) (m : Nat) (news : List Value) (hs : Src P size tx (a.eval x) m news w)
    (h63 : n + m ≤ maxLen) (hbytes : (n + m) * bytes ≤ 140737488355328) (hbase : base ≤ w.heap.size)
    (u : Value) (k : Nat) (ys : List Value) (hu : w.ownsRow base e size u k ys) (hap : Apart u v)
    (h : ∀ v' w', w'.ownsRow base e size v' (n + m) (xs ++ news) → w.grownBy w' v.ownBlock → Below base w w' → w'.ownsRow base e size u k ys → Apart u v' → K (a.put o.dst v') w') : if Region.wanted o (yielded ops a.tmps) = true then Oper.wp P o a w K Q else E := by
  rw [if_pos hw]
  obtain ⟨v', w', hrun, h2, h3, h4⟩ := run_append_src_at (P := P) (w := w) base t tx o.type e i z size bytes ht hi hz hsize hby hzs v n xs hown (a.eval x) m news hs h63 hbytes hbase
  unfold Oper.wp execOp
  simp only [ho, resolve, invoke, builtin, Sem.run_bind, Sem.run_pure, Result.andThen_ok, List.map_toArray, List.map_cons, List.map_nil, hsv, hrun]
  exact h v' w' h2 h3 ((Below.refl base w).grown h3 hbase fun k hk => (hown.lt k hk).1) (hu.kept h3 hap) (hap.symm.more hu (h4.imp id fun h => ⟨_, h, Nat.le_refl _⟩)).symm
end
theorem own_new {w : World} {base size n : Nat} {e : TypeId} {v : Value} {xs : List Value} (h : w.ownsRow base e size v n xs) {g : Nat} (hg : w.heap.size ≤ g) : some g ≠ v.ownBlock := fun h' => by
  have := (h.lt g h'.symm).2
  omega
theorem key_honest (seed : List UInt8) (index : Int) (msg : List UInt8) : wEnds (fun k => wAdv k ((wSign seed index msg).getD k []) (3 - wD msg k)) 68 = wEnds (fun k => wAdv k (wStart seed index k) 3) 68 :=
  wEnds_congr 68 fun k hk => by
    rw [List.getD_eq_getElem?_getD, wSign_at seed index msg hk, Option.getD_some, wAdv_add, show wD msg k + (3 - wD msg k) = 3 by have := wD_le msg k; omega]

set_option maxRecDepth 100000 in
set_option maxHeartbeats 2000000 in
theorem walkRd (A : Option Addr) (c n : Nat) (ds : List (List UInt8)) (seed msg : List UInt8) (hs : seed.length = 16) (hm : msg.length = 16) (index : Int) (h1 : -9223372036854775808 ≤ index) (h2 : index ≤ 9223372036854775807) (w : World) (hK : Consts w) (hr : ReadsD w A n ds) (hc : n ≤ c) (hn : n ≤ 140737488351232) :
    Calls Tryd.prog 8 #[.agg (bvs seed).toArray, .int .i64 index, .agg (bvs msg).toArray, .slice A n c] w fun e w' => e = .returned (.bool true) ∧ Below w.heap.size w w' := by
  by_cases h80 : 80 < n
  · go_enter Tryd.func8, Tryd.ntmps8
    go_wp2_with (first
      | (with_reducible refine wpList_box_row (o := ⟨some 4, _, _, _, _, _⟩) rfl _ _ rfl (bvs seed) rfl ?_; intro w1 hrow1 hs1 hg1)
      | (with_reducible refine wpList_box_row (o := ⟨some 6, _, _, _, _, _⟩) rfl _ _ rfl (bvs msg) rfl ?_; intro w2 hrow2 hs2 hg2))
    have hb2 : Below w.heap.size w w2 := below_kept (grown_below hg1 (Nat.le_refl _) (by simp)) hg2 (by omega) (by simp)
    refine (san4_any _ (hK.on hb2)).mono ?_
    rintro e w3 ⟨rfl, hb3⟩
    go_wp2_with fail
    go_ret
    exact ⟨rfl, hb2.trans (hb3.mono hb2.size)⟩
  have HS := Lib.hid hs
  have HM := Lib.hid hm
  have HDA := fun W => Lib.hid (digits_any msg hm W)
  have HRA := fun W hW hr => Lib.hid (recover_all A c n msg ds W hW hm hr hc)
  have HRL := Lib.hid (recD_len msg n ds)
  have HPA := fun W hW => Lib.hid (public_any seed hs index h1 h2 W hW)
  have HPL : Hid ((wPub seed index).length = 16) := by show _ = _; unfold wPub digestB; rw [List.length_take, sha_len]; rfl
  have HGA := fun W hW => Lib.hid (sign_any seed msg hs hm index h1 h2 W hW)
  have HSL := Lib.hid (wSign_len seed index msg)
  have HS16 := Lib.hid (wSign_16m seed index msg)
  have HLA := Lib.hid (wDigs_len msg)
  have HAA := fun k hk => Lib.hid (wDigs_at msg (k := k) hk)
  have HKH : Hid (wPub seed index = digestB 4 [wEnds (fun k => wAdv k ((wSign seed index msg).getD k []) (3 - wD msg k)) 68]) := by show _ = _; rw [key_honest]; rfl
  have HKC : n = 68 → Hid (recD msg n ds = digestB 4 [wEnds (fun k => wAdv k (ds.getD k []) (3 - wD msg k)) 68]) := fun h => by show _ = _; unfold recD; rw [if_pos h]; rfl
  have HE0 : n = 68 → Hid (recE n = 0) := fun h => by show _ = _; unfold recE; rw [if_pos h]
  have HE9 : n ≠ 68 → Hid (recE n = 9) := fun h => by show _ = _; unfold recE; rw [if_neg h]
  have hd3 := wD_le msg
  generalize wDigs msg = DA at *
  generalize wPub seed index = PU at *
  generalize wSign seed index msg = SG at *
  generalize recD msg n ds = RD at *
  generalize recE n = RE at *
  clear hs hm
  have hCo := hK
  go_enter Tryd.func8, Tryd.ntmps8
  go_wp2_with (first
    | (with_reducible refine wpList_box_row (o := ⟨some 4, _, _, _, _, _⟩) rfl _ _ rfl (bvs seed) rfl ?_; intro w1 hrow1 hs1 hg1)
    | (with_reducible refine wpList_box_row (o := ⟨some 6, _, _, _, _, _⟩) rfl _ _ rfl (bvs msg) rfl ?_; intro w2 hrow2 hs2 hg2; have hrow1' := hrow1.kept hg2 (by simp))
    | (with_reducible refine wpList_load_all (o := ⟨some 24, _, _, _, _, _⟩) rfl _ _ rfl w.heap.size rfl _ _ hrow1' _ Tryd.underlying23 rfl (b16_size _ HS.out) ?_)
    | (with_reducible refine wpList_load_all (o := ⟨some 26, _, _, _, _, _⟩) rfl _ _ rfl w1.heap.size rfl _ _ hrow2 _ Tryd.underlying23 rfl (b16_size _ HM.out) ?_))
  have hb2 : Below w.heap.size w w2 := below_kept (grown_below hg1 (Nat.le_refl _) (by simp)) hg2 (by omega) (by simp)
  have hlt2 := hrow2.lt
  clear hrow1 hg1 hg2
  refine (HGA _ (hCo.on hb2)).out.mono ?_
  rintro e w3 ⟨v3, rfl, o3, hb3⟩
  obtain ⟨Ga, cga, rfl, hcga, ga3⟩ := own_digs o3 HS16.out
  rw [HSL.out] at hcga ga3 ⊢
  have rs3 := hrow1'.on hb3
  have rm3 := hrow2.on hb3
  have B3 := hb2.trans (hb3.mono hb2.size)
  clear hrow1' hrow2 o3
  go_wp2_with (with_reducible refine wpList_load_all (o := ⟨some 29, _, _, _, _, _⟩) rfl _ _ rfl w1.heap.size rfl _ _ rm3 _ Tryd.underlying23 rfl (b16_size _ HM.out) ?_)
  refine (HRA _ (hCo.on B3) (hr.on B3)).out.mono ?_
  rintro e w4 ⟨rfl, hb4⟩
  have rs4 := rs3.on hb4
  have rm4 := rm3.on hb4
  have ga4 := ga3.on hb4
  have B4 := B3.trans (hb4.mono B3.size)
  have zs4 := rs4.lt
  have zm4 := rm4.lt
  clear rs3 rm3 ga3
  go_wp2_with (first
    | (with_reducible refine wpList_alloc_row (o := ⟨some 10, _, _, _, _, _⟩) rfl _ rfl zeros16 zero_b16 ?_; intro w5 hrow5 hs5 hg5)
    | (with_reducible refine wpList_store_all (o := ⟨none, _, _, _, _, _⟩) rfl _ _ _ rfl w4.heap.size rfl _ _ hrow5 (bvs RD) rfl (bvs_one _) (b16_zeros _ HRL.out) (b16_size _ HRL.out) ?_; intro w6 hrow6 hg6; have hb46 : Below w4.heap.size w4 w6 := below_kept (grown_below hg5 (Nat.le_refl _) (by simp)) hg6 (by omega) (by rintro k hk; cases hk; exact Nat.le_refl _); have rm6 := rm4.on hb46)
    | (with_reducible refine wpList_load_all (o := ⟨some 34, _, _, _, _, _⟩) rfl _ _ rfl w1.heap.size rfl _ _ rm6 _ Tryd.underlying23 rfl (b16_size _ HM.out) ?_))
  have rs6 := rs4.on hb46
  have ga6 := ga4.on hb46
  have B6 := B4.trans (hb46.mono B4.size)
  clear hrow5 hg5 hg6 rs4 rm4 ga4
  refine (HDA _).out.mono ?_
  rintro e w7 ⟨v7, rfl, ⟨_, o7⟩, hb7⟩
  obtain ⟨Aa, ca, rfl, hca, _, la7⟩ := own_form o7
  rw [HLA.out] at hca la7 ⊢
  have rs7 := rs6.on hb7
  have rk7 := hrow6.on hb7
  have ga7 := ga6.on hb7
  have B7 := B6.trans (hb7.mono B6.size)
  have cd7 := hr.on B7
  clear hrow6 rs6 rm6 ga6 o7
  by_cases h68 : n = 68
  · subst h68
    obtain rfl : RE = 0 := (HE0 rfl).out
    have HK2 := HKC rfl
    clear HKC HE0 HE9
    have cdd : ReadsD w7.drew A 68 ds := cd7
    have gad : ReadsD w7.drew Ga 68 SG := ga7
    have lad : Reads w7.drew w7.drew.heap.size 1 Aa 68 (nvs DA) := la7
    cases hq : (ds == SG) with
    | true =>
      go_wp2_with fail
      refine wp_region_plan (fun w' => Row w' w.heap.size 23 (bvs seed) ∧ Row w' w4.heap.size 23 (bvs RD)) (.take 0 <| .take 1 <| .take 2 <| .take 3 <| .take 4 <| .one 5 <| .take 6 <| .take 7 <| .take 8 <| .take 9 <| .take 10 <| .one 11 <| .take 12 <| .take 13 <| .done) (by kernel_rfl) (by kernel_rfl) (by kernel_rfl) (fun _ _ _ _ _ h => h) ⟨rs7.drew, rk7.drew⟩ ?_
      repeat (refine plan_take _ rfl ?_; go_big_quiet_step ((intros; rfl)); refine wpQuiet_nil ?_)
      refine plan_one _ rfl fun K hK => ?_
      go_simp
      refine (same4_any _ _ _ _ ds SG 68 68 _ _ _ cdd.1 gad.1 cdd.2 gad.2 (by omega) (by omega)).mono ?_
      rintro e wx1 ⟨rfl, mx1, rfl⟩
      rw [hq]
      have rsx1 := rs7.drew.drewN mx1
      have rkx1 := rk7.drew.drewN mx1
      have cx1 : ReadsD (w7.drew.drewN mx1) A 68 ds := cdd
      have gx1 : ReadsD (w7.drew.drewN mx1) Ga 68 SG := gad
      have lx1 : Reads (w7.drew.drewN mx1) (w7.drew.drewN mx1).heap.size 1 Aa 68 (nvs DA) := lad
      have hbx1 := below_drewN B7.drew mx1
      have kx1 : Consts (w7.drew.drewN mx1) := hCo.on hbx1
      generalize w7.drew.drewN mx1 = wx1 at *
      refine hK _ _ ⟨rsx1, rkx1⟩ ?_
      clear hK K
      repeat (refine plan_take _ rfl ?_; go_big_quiet_step ((intros; rfl)); refine wpQuiet_nil ?_)
      refine plan_one _ rfl fun K hK => ?_
      go_simp
      refine hK _ _ ⟨rsx1, rkx1⟩ ?_
      clear hK K
      repeat (refine plan_take _ rfl ?_; go_big_quiet_step ((intros; rfl)); refine wpQuiet_nil ?_)
      refine plan_done ?_
      go_wp2_with fail
      refine (san4_any _ (hCo.on hbx1)).mono ?_
      rintro e wz ⟨rfl, hbz⟩
      go_wp2_with fail
      go_ret
      exact ⟨by first | rfl | simp, hbx1.trans (hbz.mono hbx1.size)⟩
    | false =>
      cases hk : (RD == PU) with
      | false =>
        go_wp2_with fail
        refine wp_region_plan (fun w' => Row w' w.heap.size 23 (bvs seed) ∧ Row w' w4.heap.size 23 (bvs RD)) (.take 0 <| .take 1 <| .take 2 <| .take 3 <| .take 4 <| .one 5 <| .take 6 <| .take 7 <| .take 8 <| .take 9 <| .take 10 <| .one 11 <| .take 12 <| .take 13 <| .done) (by kernel_rfl) (by kernel_rfl) (by kernel_rfl) (fun _ _ _ _ _ h => h) ⟨rs7.drew, rk7.drew⟩ ?_
        repeat (refine plan_take _ rfl ?_; (first | (refine wpQuiet_valueG (o := ⟨some 52, _, _, _, _, _⟩) rfl _ (by intro _ h; exact exec_load16 _ _ rfl _ rfl RD HRL.out h.2.cells) (wpQuiet_nil ?_); simp only [Act.put, List.setIfInBounds_toArray, List.set_cons_zero, List.set_cons_succ]) | (refine wpQuiet_valueG (o := ⟨some 53, _, _, _, _, _⟩) rfl _ (by intro _ h; exact exec_load16 _ _ rfl _ rfl seed HS.out h.1.cells) (wpQuiet_nil ?_); simp only [Act.put, List.setIfInBounds_toArray, List.set_cons_zero, List.set_cons_succ]) | (refine wpQuiet_valueG (o := ⟨some 56, _, _, _, _, _⟩) rfl _ (by intro _ h; exact exec_neq16 _ _ _ rfl RD PU HRL.out HPL.out rfl rfl) (wpQuiet_nil ?_); simp only [hk, Act.put, List.setIfInBounds_toArray, List.set_cons_zero, List.set_cons_succ]) | (go_big_quiet_step ((intros; rfl)); refine wpQuiet_nil ?_)))
        refine plan_one _ rfl fun K hK => ?_
        go_simp
        refine (same4_any _ _ _ _ ds SG 68 68 _ _ _ cdd.1 gad.1 cdd.2 gad.2 (by omega) (by omega)).mono ?_
        rintro e wx2 ⟨rfl, mx2, rfl⟩
        rw [hq]
        have rsx2 := rs7.drew.drewN mx2
        have rkx2 := rk7.drew.drewN mx2
        have cx2 : ReadsD (w7.drew.drewN mx2) A 68 ds := cdd
        have gx2 : ReadsD (w7.drew.drewN mx2) Ga 68 SG := gad
        have lx2 : Reads (w7.drew.drewN mx2) (w7.drew.drewN mx2).heap.size 1 Aa 68 (nvs DA) := lad
        have hbx2 := below_drewN B7.drew mx2
        have kx2 : Consts (w7.drew.drewN mx2) := hCo.on hbx2
        generalize w7.drew.drewN mx2 = wx2 at *
        refine hK _ _ ⟨rsx2, rkx2⟩ ?_
        clear hK K
        repeat (refine plan_take _ rfl ?_; (first | (refine wpQuiet_valueG (o := ⟨some 52, _, _, _, _, _⟩) rfl _ (by intro _ h; exact exec_load16 _ _ rfl _ rfl RD HRL.out h.2.cells) (wpQuiet_nil ?_); simp only [Act.put, List.setIfInBounds_toArray, List.set_cons_zero, List.set_cons_succ]) | (refine wpQuiet_valueG (o := ⟨some 53, _, _, _, _, _⟩) rfl _ (by intro _ h; exact exec_load16 _ _ rfl _ rfl seed HS.out h.1.cells) (wpQuiet_nil ?_); simp only [Act.put, List.setIfInBounds_toArray, List.set_cons_zero, List.set_cons_succ]) | (refine wpQuiet_valueG (o := ⟨some 56, _, _, _, _, _⟩) rfl _ (by intro _ h; exact exec_neq16 _ _ _ rfl RD PU HRL.out HPL.out rfl rfl) (wpQuiet_nil ?_); simp only [hk, Act.put, List.setIfInBounds_toArray, List.set_cons_zero, List.set_cons_succ]) | (go_big_quiet_step ((intros; rfl)); refine wpQuiet_nil ?_)))
        refine plan_one _ rfl fun K hK => ?_
        go_simp
        refine ((HPA _ kx2).out).mono ?_
        rintro e wx3 ⟨rfl, hx3⟩
        have Bx4 := hbx2.trans (hx3.mono hbx2.size)
        have rsx4 := rsx2.on hx3
        have rkx4 := rkx2.on hx3
        have Cx4 := cx2.on hx3
        have gax4 := gx2.on hx3
        have lax4 := lx2.on hx3
        have Kx4 := kx2.on hx3
        refine hK _ _ ⟨rsx4, rkx4⟩ ?_
        clear hK K
        repeat (refine plan_take _ rfl ?_; (first | (refine wpQuiet_valueG (o := ⟨some 52, _, _, _, _, _⟩) rfl _ (by intro _ h; exact exec_load16 _ _ rfl _ rfl RD HRL.out h.2.cells) (wpQuiet_nil ?_); simp only [Act.put, List.setIfInBounds_toArray, List.set_cons_zero, List.set_cons_succ]) | (refine wpQuiet_valueG (o := ⟨some 53, _, _, _, _, _⟩) rfl _ (by intro _ h; exact exec_load16 _ _ rfl _ rfl seed HS.out h.1.cells) (wpQuiet_nil ?_); simp only [Act.put, List.setIfInBounds_toArray, List.set_cons_zero, List.set_cons_succ]) | (refine wpQuiet_valueG (o := ⟨some 56, _, _, _, _, _⟩) rfl _ (by intro _ h; exact exec_neq16 _ _ _ rfl RD PU HRL.out HPL.out rfl rfl) (wpQuiet_nil ?_); simp only [hk, Act.put, List.setIfInBounds_toArray, List.set_cons_zero, List.set_cons_succ]) | (go_big_quiet_step ((intros; rfl)); refine wpQuiet_nil ?_)))
        refine plan_done ?_
        go_wp2_with fail
        refine (san4_any _ (hCo.on Bx4)).mono ?_
        rintro e wz ⟨rfl, hbz⟩
        go_wp2_with fail
        go_ret
        exact ⟨by first | rfl | simp, Bx4.trans (hbz.mono Bx4.size)⟩
      | true =>
        go_wp2_with fail
        refine wp_region_plan (fun w' => Row w' w.heap.size 23 (bvs seed) ∧ Row w' w4.heap.size 23 (bvs RD)) (.take 0 <| .take 1 <| .take 2 <| .take 3 <| .take 4 <| .one 5 <| .take 6 <| .take 7 <| .take 8 <| .take 9 <| .take 10 <| .one 11 <| .take 12 <| .take 13 <| .done) (by kernel_rfl) (by kernel_rfl) (by kernel_rfl) (fun _ _ _ _ _ h => h) ⟨rs7.drew, rk7.drew⟩ ?_
        repeat (refine plan_take _ rfl ?_; (first | (refine wpQuiet_valueG (o := ⟨some 52, _, _, _, _, _⟩) rfl _ (by intro _ h; exact exec_load16 _ _ rfl _ rfl RD HRL.out h.2.cells) (wpQuiet_nil ?_); simp only [Act.put, List.setIfInBounds_toArray, List.set_cons_zero, List.set_cons_succ]) | (refine wpQuiet_valueG (o := ⟨some 53, _, _, _, _, _⟩) rfl _ (by intro _ h; exact exec_load16 _ _ rfl _ rfl seed HS.out h.1.cells) (wpQuiet_nil ?_); simp only [Act.put, List.setIfInBounds_toArray, List.set_cons_zero, List.set_cons_succ]) | (refine wpQuiet_valueG (o := ⟨some 56, _, _, _, _, _⟩) rfl _ (by intro _ h; exact exec_neq16 _ _ _ rfl RD PU HRL.out HPL.out rfl rfl) (wpQuiet_nil ?_); simp only [hk, Act.put, List.setIfInBounds_toArray, List.set_cons_zero, List.set_cons_succ]) | (go_big_quiet_step ((intros; rfl)); refine wpQuiet_nil ?_)))
        refine plan_one _ rfl fun K hK => ?_
        go_simp
        refine (same4_any _ _ _ _ ds SG 68 68 _ _ _ cdd.1 gad.1 cdd.2 gad.2 (by omega) (by omega)).mono ?_
        rintro e wx5 ⟨rfl, mx5, rfl⟩
        rw [hq]
        have rsx5 := rs7.drew.drewN mx5
        have rkx5 := rk7.drew.drewN mx5
        have cx5 : ReadsD (w7.drew.drewN mx5) A 68 ds := cdd
        have gx5 : ReadsD (w7.drew.drewN mx5) Ga 68 SG := gad
        have lx5 : Reads (w7.drew.drewN mx5) (w7.drew.drewN mx5).heap.size 1 Aa 68 (nvs DA) := lad
        have hbx5 := below_drewN B7.drew mx5
        have kx5 : Consts (w7.drew.drewN mx5) := hCo.on hbx5
        generalize w7.drew.drewN mx5 = wx5 at *
        refine hK _ _ ⟨rsx5, rkx5⟩ ?_
        clear hK K
        repeat (refine plan_take _ rfl ?_; (first | (refine wpQuiet_valueG (o := ⟨some 52, _, _, _, _, _⟩) rfl _ (by intro _ h; exact exec_load16 _ _ rfl _ rfl RD HRL.out h.2.cells) (wpQuiet_nil ?_); simp only [Act.put, List.setIfInBounds_toArray, List.set_cons_zero, List.set_cons_succ]) | (refine wpQuiet_valueG (o := ⟨some 53, _, _, _, _, _⟩) rfl _ (by intro _ h; exact exec_load16 _ _ rfl _ rfl seed HS.out h.1.cells) (wpQuiet_nil ?_); simp only [Act.put, List.setIfInBounds_toArray, List.set_cons_zero, List.set_cons_succ]) | (refine wpQuiet_valueG (o := ⟨some 56, _, _, _, _, _⟩) rfl _ (by intro _ h; exact exec_neq16 _ _ _ rfl RD PU HRL.out HPL.out rfl rfl) (wpQuiet_nil ?_); simp only [hk, Act.put, List.setIfInBounds_toArray, List.set_cons_zero, List.set_cons_succ]) | (go_big_quiet_step ((intros; rfl)); refine wpQuiet_nil ?_)))
        refine plan_one _ rfl fun K hK => ?_
        go_simp
        refine ((HPA _ kx5).out).mono ?_
        rintro e wx6 ⟨rfl, hx6⟩
        have Bx7 := hbx5.trans (hx6.mono hbx5.size)
        have rsx7 := rsx5.on hx6
        have rkx7 := rkx5.on hx6
        have Cx7 := cx5.on hx6
        have gax7 := gx5.on hx6
        have lax7 := lx5.on hx6
        have Kx7 := kx5.on hx6
        refine hK _ _ ⟨rsx7, rkx7⟩ ?_
        clear hK K
        repeat (refine plan_take _ rfl ?_; (first | (refine wpQuiet_valueG (o := ⟨some 52, _, _, _, _, _⟩) rfl _ (by intro _ h; exact exec_load16 _ _ rfl _ rfl RD HRL.out h.2.cells) (wpQuiet_nil ?_); simp only [Act.put, List.setIfInBounds_toArray, List.set_cons_zero, List.set_cons_succ]) | (refine wpQuiet_valueG (o := ⟨some 53, _, _, _, _, _⟩) rfl _ (by intro _ h; exact exec_load16 _ _ rfl _ rfl seed HS.out h.1.cells) (wpQuiet_nil ?_); simp only [Act.put, List.setIfInBounds_toArray, List.set_cons_zero, List.set_cons_succ]) | (refine wpQuiet_valueG (o := ⟨some 56, _, _, _, _, _⟩) rfl _ (by intro _ h; exact exec_neq16 _ _ _ rfl RD PU HRL.out HPL.out rfl rfl) (wpQuiet_nil ?_); simp only [hk, Act.put, List.setIfInBounds_toArray, List.set_cons_zero, List.set_cons_succ]) | (go_big_quiet_step ((intros; rfl)); refine wpQuiet_nil ?_)))
        refine plan_done ?_
        have hcd := Cx7
        have hga := gax7
        have hla := lax7
        have hKb := Kx7
        have Bb := Bx7
        generalize wx6 = wb at *
        obtain ⟨i0, hi0, hz0, hz1, hz2⟩ := info_parts info_u8
        have HPK : Hid (RD = PU) := eq_of_beq hk
        have HNE : Hid (ds ≠ SG) := fun h => by rw [h] at hq; simp at hq
        have HX16 : ∀ j, j < 68 → Hid ((ds.getD j []).length = 16) := fun j hj => by
          show _ = _
          have hl := hcd.len
          rw [List.getD_eq_getElem?_getD, List.getElem?_eq_getElem (by omega)]
          exact hcd.2 _ (List.getElem_mem _)
        have HY16 : ∀ j, j < 68 → Hid ((SG.getD j []).length = 16) := fun j hj => by
          show _ = _
          rw [List.getD_eq_getElem?_getD, List.getElem?_eq_getElem (by rw [HSL.out]; omega)]
          exact HS16.out _ (List.getElem_mem _)
        have HINJ : (∀ j, j < 68 → ds.getD j [] = SG.getD j []) → Hid False := fun h => HNE.out (List.ext_getElem? fun j => by
          have hl := hcd.len
          by_cases hj : j < 68
          · have e := h j hj
            rw [List.getD_eq_getElem?_getD, List.getD_eq_getElem?_getD, List.getElem?_eq_getElem (by omega), List.getElem?_eq_getElem (by rw [HSL.out]; omega)] at e
            rw [List.getElem?_eq_getElem (by omega), List.getElem?_eq_getElem (by rw [HSL.out]; omega)]
            simpa using e
          · rw [List.getElem?_eq_none (by omega), List.getElem?_eq_none (by rw [HSL.out]; omega)])
        have HFL : ∀ j, j ≤ 68 → Hid ((wEnds (fun k => wAdv k (ds.getD k []) (3 - wD msg k)) j).length = 16 * j) := fun j hj => by
          show _ = _
          induction j with
          | zero => rfl
          | succ j ih => rw [wEnds_succ, List.length_append, ih (by omega), wAdv_len j (HX16 j (by omega)).out]; omega
        have HGL : ∀ j, j ≤ 68 → Hid ((wEnds (fun k => wAdv k (SG.getD k []) (3 - wD msg k)) j).length = 16 * j) := fun j hj => by
          show _ = _
          induction j with
          | zero => rfl
          | succ j ih => rw [wEnds_succ, List.length_append, ih (by omega), wAdv_len j (HY16 j (by omega)).out]; omega
        have HFS : ∀ j, Hid (wEnds (fun k => wAdv k (ds.getD k []) (3 - wD msg k)) (j + 1) = wEnds (fun k => wAdv k (ds.getD k []) (3 - wD msg k)) j ++ wAdv j (ds.getD j []) (3 - wD msg j)) := fun j => wEnds_succ _ j
        have HGS : ∀ j, Hid (wEnds (fun k => wAdv k (SG.getD k []) (3 - wD msg k)) (j + 1) = wEnds (fun k => wAdv k (SG.getD k []) (3 - wD msg k)) j ++ wAdv j (SG.getD j []) (3 - wD msg j)) := fun j => wEnds_succ _ j
        have HF0 : Hid (wEnds (fun k => wAdv k (ds.getD k []) (3 - wD msg k)) 0 = []) := rfl
        have HG0 : Hid (wEnds (fun k => wAdv k (SG.getD k []) (3 - wD msg k)) 0 = []) := rfl
        generalize wEnds (fun k => wAdv k (ds.getD k []) (3 - wD msg k)) = FF at *
        generalize wEnds (fun k => wAdv k (SG.getD k []) (3 - wD msg k)) = GG at *
        clear hq hk
        go_wp2_with fail
        go_loopg [13, 14, 69] 68 (fun g v13 v14 s wr => ∃ k : Nat, s = .int .i64 (k : Int) ∧ k ≤ 68 ∧ 68 ≤ g + k ∧ wr.ownsRow wb.heap.size 5 1 v13 (FF k).length (bvs (FF k)) ∧ wr.ownsRow wb.heap.size 5 1 v14 (GG k).length (bvs (GG k)) ∧ Apart v13 v14 ∧ Hid (FF k = GG k → ∀ j, j < k → ds.getD j [] = SG.getD j []) ∧ Below wb.heap.size wb wr)
        case atStart => exact ⟨0, rfl, by omega, by omega, by rw [HF0.out]; exact World.ownsRow_nil wb _ _ _, by rw [HG0.out]; exact World.ownsRow_nil wb _ _ _, Or.inl rfl, fun _ j hj => absurd hj (by omega), Below.refl _ _⟩
        case round =>
          obtain ⟨k, rfl, hk, hg, of0, og0, hap, HIF, hbr⟩ := hrel
          have hz := hbr.size
          by_cases hlt : k < 68
          · obtain ⟨al, u, rfl, hal, hu, hcu0⟩ := hla.at_ hlt
            have hcu := (hbr.cell (p := al.add k) (by rw [block_of_add]; exact hal)).trans hcu0
            rw [nvs_get (HAA k hlt).out] at hu
            obtain rfl : Value.int .i64 (wD msg k : Int) = u := by simpa using hu
            have hx3 := hd3 k
            obtain ⟨pa, da, rfl, hpab, hda', hda16, hcda0⟩ := hcd.1.dig_at hcd.2 (k := k) hlt
            obtain ⟨pb, db, rfl, hpbb, hdb', hdb16, hcdb0⟩ := hga.1.dig_at hga.2 (k := k) hlt
            have hXa : ds.getD k [] = da := by rw [List.getD_eq_getElem?_getD, hda']; rfl
            have hYb : SG.getD k [] = db := by rw [List.getD_eq_getElem?_getD, hdb']; rfl
            have HX := Lib.hid hXa
            have HY := Lib.hid hYb
            have HDA16 := Lib.hid hda16
            have HDB16 := Lib.hid hdb16
            have HCA : Hid (∀ j u, (bvs da)[j]? = some u → wr.cell? ((pa.add (k * 16)).add j) = some u) := fun j u hu => by
              rw [add_of_add]
              exact (hbr.cell (p := pa.add (k * 16 + j)) (by rw [block_of_add]; exact hpab)).trans (hcda0 j u hu)
            have HCB : Hid (∀ j u, (bvs db)[j]? = some u → wr.cell? ((pb.add (k * 16)).add j) = some u) := fun j u hu => by
              rw [add_of_add]
              exact (hbr.cell (p := pb.add (k * 16 + j)) (by rw [block_of_add]; exact hpbb)).trans (hcdb0 j u hu)
            have HF1 := HFS k
            have HG1 := HGS k
            rw [hXa] at HF1
            rw [hYb] at HG1
            have HFk := HFL k hk
            have HGk := HGL k hk
            have HAL : ∀ j, Hid ((wAdv k da j).length = 16) := fun j => wAdv_len k hda16 j
            have HBL : ∀ j, Hid ((wAdv k db j).length = 16) := fun j => wAdv_len k hdb16 j
            have HA0 : Hid (wAdv k da 0 = da) := rfl
            have HB0 : Hid (wAdv k db 0 = db) := rfl
            have HAS : ∀ j, Hid (wStep k (wAdv k da j) = wAdv k da (j + 1)) := fun _ => rfl
            have HBS : ∀ j, Hid (wStep k (wAdv k db j) = wAdv k db (j + 1)) := fun _ => rfl
            have HSA := fun j W hW => Lib.hid (step4_any k (by omega) (wAdv k da j) (HAL j).out W hW)
            have HSB := fun j W hW => Lib.hid (step4_any k (by omega) (wAdv k db j) (HBL j).out W hW)
            generalize wAdv k da = VA at *
            generalize wAdv k db = VB at *
            have halw : al.block < wr.heap.size := Nat.lt_of_lt_of_le hal hz
            have hpaw : pa.block < wr.heap.size := Nat.lt_of_lt_of_le hpab hz
            have hpbw : pb.block < wr.heap.size := Nat.lt_of_lt_of_le hpbb hz
            have hl60 : (FF k).length ≤ 1088 := by rw [HFk.out]; omega
            have hl61 : (GG k).length ≤ 1088 := by rw [HGk.out]; omega
            clear hu hcu0 hda' hdb' hXa hYb hda16 hdb16 hcda0 hcdb0 hcd hga hla HAA HX16 HY16 HFL HGL HFS HGS HINJ
            generalize hxx : wD msg k = x at *
            clear hxx
            go_wp2_with fail
            go_cut [16, 17] (fun s16 s17 wc => ∃ gA gB, s16 = .pointer (some ⟨gA, 0, none⟩) ∧ s17 = .pointer (some ⟨gB, 0, none⟩) ∧ Row wc gA 23 (bvs da) ∧ Row wc gB 23 (bvs db) ∧ gA ≠ gB ∧ wr.heap.size ≤ gA ∧ wr.heap.size ≤ gB ∧ Below wr.heap.size wr wc)
            case first =>
              have CA0 := HCA
              have CB0 := HCB
              have zd : wr.drew.heap.size = wr.heap.size := rfl
              have hbd : Below wr.heap.size wr wr.drew := (Below.refl _ _).drew
              have ca1 : ∀ j u, (bvs da)[j]? = some u → wr.drew.cell? ((pa.add (k * 16)).add j) = some u := HCA.out
              have cb1 : ∀ j u, (bvs db)[j]? = some u → wr.drew.cell? ((pb.add (k * 16)).add j) = some u := HCB.out
              refine wp_region_plan (fun w' => (∀ j u, (bvs da)[j]? = some u → w'.cell? ((pa.add (k * 16)).add j) = some u) ∧ (∀ j u, (bvs db)[j]? = some u → w'.cell? ((pb.add (k * 16)).add j) = some u)) (.take 0 <| .take 1 <| .take 2 <| .take 3 <| .take 4 <| .take 5 <| .take 6 <| .take 7 <| .two 8 (.one 9 <| .one 10 <| .one 11 <| .done) 9 (.one 8 <| .one 10 <| .one 11 <| .done)) (by kernel_rfl) (by kernel_rfl) (by kernel_rfl) (fun _ _ _ _ _ h => h) ⟨ca1, cb1⟩ ?_
              repeat (refine plan_take _ rfl ?_; (first | (refine wpQuiet_valueG (o := ⟨some 75, _, _, _, _, _⟩) rfl _ (by intro _ h; exact exec_load16 _ _ rfl _ rfl da HDA16.out h.1) (wpQuiet_nil ?_); simp only [Act.put, List.setIfInBounds_toArray, List.set_cons_zero, List.set_cons_succ]) | (refine wpQuiet_valueG (o := ⟨some 79, _, _, _, _, _⟩) rfl _ (by intro _ h; exact exec_load16 _ _ rfl _ rfl db HDB16.out h.2) (wpQuiet_nil ?_); simp only [Act.put, List.setIfInBounds_toArray, List.set_cons_zero, List.set_cons_succ]) | (go_big_quiet_step ((intros; rfl)); refine wpQuiet_nil ?_)))
              refine plan_two ?_ ?_
              · refine step_at _ rfl fun K hK => ?_
                refine step_alloc rfl _ rfl zeros16 zero_b16 ?_
                intro wx8 rx8 sx8 kx8
                have hx8 : Below wr.drew.heap.size wr.drew wx8 := grown_below kx8 (Nat.le_refl _) (by simp)
                have zzx8 := hbd.size
                have Bx9 := hbd.trans (hx8.mono hbd.size)
                have CAx9 : ∀ j u, (bvs da)[j]? = some u → wx8.cell? ((pa.add (k * 16)).add j) = some u := fun j u hu => (Bx9.cell (by rw [block_of_add, block_of_add]; exact hpaw)).trans (CA0.out j u hu)
                have CBx9 : ∀ j u, (bvs db)[j]? = some u → wx8.cell? ((pb.add (k * 16)).add j) = some u := fun j u hu => (Bx9.cell (by rw [block_of_add, block_of_add]; exact hpbw)).trans (CB0.out j u hu)
                refine hK _ _ ⟨CAx9, CBx9⟩ ?_
                clear hK K
                simp only [Act.put, List.setIfInBounds_toArray, List.set_cons_zero, List.set_cons_succ]
                refine plan_one _ rfl fun K hK => ?_
                refine step_alloc rfl _ rfl zeros16 zero_b16 ?_
                intro wx10 rx10 sx10 kx10
                have hx10 : Below wx8.heap.size wx8 wx10 := grown_below kx10 (Nat.le_refl _) (by simp)
                have zzx10 := Bx9.size
                have zqax10 := rx8.lt
                have Bx11 := Bx9.trans (hx10.mono Bx9.size)
                have CAx11 : ∀ j u, (bvs da)[j]? = some u → wx10.cell? ((pa.add (k * 16)).add j) = some u := fun j u hu => (Bx11.cell (by rw [block_of_add, block_of_add]; exact hpaw)).trans (CA0.out j u hu)
                have CBx11 : ∀ j u, (bvs db)[j]? = some u → wx10.cell? ((pb.add (k * 16)).add j) = some u := fun j u hu => (Bx11.cell (by rw [block_of_add, block_of_add]; exact hpbw)).trans (CB0.out j u hu)
                have qax11 := rx8.on hx10
                refine hK _ _ ⟨CAx11, CBx11⟩ ?_
                clear hK K
                simp only [Act.put, List.setIfInBounds_toArray, List.set_cons_zero, List.set_cons_succ]
                refine plan_one _ rfl fun K hK => ?_
                refine step_store_all rfl _ _ _ rfl wr.drew.heap.size rfl _ _ qax11 (bvs da) rfl (bvs_one _) (b16_zeros _ HDA16.out) (b16_size _ HDA16.out) ?_
                intro wx12 rx12 kx12
                have Bx12 := below_kept Bx11 kx12 Bx11.size (by rintro k hk; cases hk; exact zzx8)
                have CAx12 : ∀ j u, (bvs da)[j]? = some u → wx12.cell? ((pa.add (k * 16)).add j) = some u := fun j u hu => (Bx12.cell (by rw [block_of_add, block_of_add]; exact hpaw)).trans (CA0.out j u hu)
                have CBx12 : ∀ j u, (bvs db)[j]? = some u → wx12.cell? ((pb.add (k * 16)).add j) = some u := fun j u hu => (Bx12.cell (by rw [block_of_add, block_of_add]; exact hpbw)).trans (CB0.out j u hu)
                have qbx12 := rx10.kept kx12 (by simp; omega)
                refine hK _ _ ⟨CAx12, CBx12⟩ ?_
                clear hK K
                simp only [Act.put]
                refine plan_one _ rfl fun K hK => ?_
                refine step_store_all rfl _ _ _ rfl wx8.heap.size rfl _ _ qbx12 (bvs db) rfl (bvs_one _) (b16_zeros _ HDB16.out) (b16_size _ HDB16.out) ?_
                intro wx13 rx13 kx13
                have Bx13 := below_kept Bx12 kx13 Bx12.size (by rintro k hk; cases hk; exact zzx10)
                have qax13 := rx12.kept kx13 (by simp; omega)
                have CAx13 : ∀ j u, (bvs da)[j]? = some u → wx13.cell? ((pa.add (k * 16)).add j) = some u := fun j u hu => (Bx13.cell (by rw [block_of_add, block_of_add]; exact hpaw)).trans (CA0.out j u hu)
                have CBx13 : ∀ j u, (bvs db)[j]? = some u → wx13.cell? ((pb.add (k * 16)).add j) = some u := fun j u hu => (Bx13.cell (by rw [block_of_add, block_of_add]; exact hpbw)).trans (CB0.out j u hu)
                refine hK _ _ ⟨CAx13, CBx13⟩ ?_
                clear hK K
                simp only [Act.put]
                refine plan_done ?_
                go_wp2_with fail
                go_meet
                exact ⟨_, _, rfl, rfl, qax13, rx13, by omega, zzx8, zzx10, Bx13⟩
              · refine step_at _ rfl fun K hK => ?_
                refine step_alloc rfl _ rfl zeros16 zero_b16 ?_
                intro wx14 rx14 sx14 kx14
                have hx14 : Below wr.drew.heap.size wr.drew wx14 := grown_below kx14 (Nat.le_refl _) (by simp)
                have zzx14 := hbd.size
                have Bx15 := hbd.trans (hx14.mono hbd.size)
                have CAx15 : ∀ j u, (bvs da)[j]? = some u → wx14.cell? ((pa.add (k * 16)).add j) = some u := fun j u hu => (Bx15.cell (by rw [block_of_add, block_of_add]; exact hpaw)).trans (CA0.out j u hu)
                have CBx15 : ∀ j u, (bvs db)[j]? = some u → wx14.cell? ((pb.add (k * 16)).add j) = some u := fun j u hu => (Bx15.cell (by rw [block_of_add, block_of_add]; exact hpbw)).trans (CB0.out j u hu)
                refine hK _ _ ⟨CAx15, CBx15⟩ ?_
                clear hK K
                simp only [Act.put, List.setIfInBounds_toArray, List.set_cons_zero, List.set_cons_succ]
                refine plan_one _ rfl fun K hK => ?_
                refine step_alloc rfl _ rfl zeros16 zero_b16 ?_
                intro wx16 rx16 sx16 kx16
                have hx16 : Below wx14.heap.size wx14 wx16 := grown_below kx16 (Nat.le_refl _) (by simp)
                have zzx16 := Bx15.size
                have zqbx16 := rx14.lt
                have Bx17 := Bx15.trans (hx16.mono Bx15.size)
                have CAx17 : ∀ j u, (bvs da)[j]? = some u → wx16.cell? ((pa.add (k * 16)).add j) = some u := fun j u hu => (Bx17.cell (by rw [block_of_add, block_of_add]; exact hpaw)).trans (CA0.out j u hu)
                have CBx17 : ∀ j u, (bvs db)[j]? = some u → wx16.cell? ((pb.add (k * 16)).add j) = some u := fun j u hu => (Bx17.cell (by rw [block_of_add, block_of_add]; exact hpbw)).trans (CB0.out j u hu)
                have qbx17 := rx14.on hx16
                refine hK _ _ ⟨CAx17, CBx17⟩ ?_
                clear hK K
                simp only [Act.put, List.setIfInBounds_toArray, List.set_cons_zero, List.set_cons_succ]
                refine plan_one _ rfl fun K hK => ?_
                refine step_store_all rfl _ _ _ rfl wx14.heap.size rfl _ _ rx16 (bvs da) rfl (bvs_one _) (b16_zeros _ HDA16.out) (b16_size _ HDA16.out) ?_
                intro wx18 rx18 kx18
                have Bx18 := below_kept Bx17 kx18 Bx17.size (by rintro k hk; cases hk; exact zzx16)
                have CAx18 : ∀ j u, (bvs da)[j]? = some u → wx18.cell? ((pa.add (k * 16)).add j) = some u := fun j u hu => (Bx18.cell (by rw [block_of_add, block_of_add]; exact hpaw)).trans (CA0.out j u hu)
                have CBx18 : ∀ j u, (bvs db)[j]? = some u → wx18.cell? ((pb.add (k * 16)).add j) = some u := fun j u hu => (Bx18.cell (by rw [block_of_add, block_of_add]; exact hpbw)).trans (CB0.out j u hu)
                have qbx18 := qbx17.kept kx18 (by simp; omega)
                refine hK _ _ ⟨CAx18, CBx18⟩ ?_
                clear hK K
                simp only [Act.put]
                refine plan_one _ rfl fun K hK => ?_
                refine step_store_all rfl _ _ _ rfl wr.drew.heap.size rfl _ _ qbx18 (bvs db) rfl (bvs_one _) (b16_zeros _ HDB16.out) (b16_size _ HDB16.out) ?_
                intro wx19 rx19 kx19
                have Bx19 := below_kept Bx18 kx19 Bx18.size (by rintro k hk; cases hk; exact zzx14)
                have qax19 := rx18.kept kx19 (by simp; omega)
                have CAx19 : ∀ j u, (bvs da)[j]? = some u → wx19.cell? ((pa.add (k * 16)).add j) = some u := fun j u hu => (Bx19.cell (by rw [block_of_add, block_of_add]; exact hpaw)).trans (CA0.out j u hu)
                have CBx19 : ∀ j u, (bvs db)[j]? = some u → wx19.cell? ((pb.add (k * 16)).add j) = some u := fun j u hu => (Bx19.cell (by rw [block_of_add, block_of_add]; exact hpbw)).trans (CB0.out j u hu)
                refine hK _ _ ⟨CAx19, CBx19⟩ ?_
                clear hK K
                simp only [Act.put]
                refine plan_done ?_
                go_wp2_with fail
                go_meet
                exact ⟨_, _, rfl, rfl, qax19, rx19, by omega, zzx16, zzx14, Bx19⟩
            case rest =>
              obtain ⟨gA, gB, rfl, rfl, rA, rB, hAB, hzA, hzB, hbc⟩ := hcut
              have hcu2 := (hbc.cell (p := al.add k) (by rw [block_of_add]; exact halw)).trans hcu
              have of2 := own_below of0 hbc
              have og2 := own_below og0 hbc
              rw [← HA0.out] at rA
              rw [← HB0.out] at rB
              clear hcu
              obtain ⟨g1, rfl⟩ : ∃ g1 : Nat, g1 = gk := ⟨_, rfl⟩
              obtain ⟨w1r, rfl⟩ : ∃ w1r : World, w1r = wr := ⟨_, rfl⟩
              go_wp2_with fail
              have HIN0 : Hid (VA 0 = VB 0 → da = db) := fun h => by rw [← HA0.out, ← HB0.out]; exact h
              simp only [show (3 : Int) - (x : Int) = ((3 - x : Nat) : Int) by omega]
              have hn3 : 3 - x ≤ 3 := by omega
              generalize 3 - x = nn at *
              clear hcu2 HCA HCB
              go_loopg [85] nn (fun g s wr => ∃ j : Nat, s = .int .i64 (j : Int) ∧ j ≤ nn ∧ nn ≤ g + j ∧ Row wr gA 23 (bvs (VA j)) ∧ Row wr gB 23 (bvs (VB j)) ∧ Hid (VA j = VB j → da = db) ∧ Below w1r.heap.size w1r wr)
              case atStart => exact ⟨0, rfl, by omega, by omega, rA, rB, HIN0, hbc⟩
              case round =>
                obtain ⟨j, rfl, hj, hgj, rAj, rBj, HIJ, hbj⟩ := hrel
                have hzj := hbj.size
                have hBB : Below wb.heap.size wb wr := hbr.trans (hbj.mono hz)
                have HLA1 := HAL j
                have HLB1 := HBL j
                by_cases hjl : j < nn
                · have HLA2 := HAL (j + 1)
                  have HLB2 := HBL (j + 1)
                  have HS1 := HAS j
                  have HS2 := HBS j
                  have HC1 := fun W hW => HSA j W hW
                  have HC2 := fun W hW => HSB j W hW
                  go_wp2_with fail
                  have hzA2 := rAj.lt
                  have hzB2 := rBj.lt
                  go_cut [18, 19] (fun s18 s19 wc => ∃ gC gD, s18 = .pointer (some ⟨gC, 0, none⟩) ∧ s19 = .pointer (some ⟨gD, 0, none⟩) ∧ Row wc gC 23 (bvs (VA (j + 1))) ∧ Row wc gD 23 (bvs (VB (j + 1))) ∧ Row wc gA 23 (bvs (VA j)) ∧ Row wc gB 23 (bvs (VB j)) ∧ gC ≠ gD ∧ wr.heap.size ≤ gC ∧ wr.heap.size ≤ gD ∧ Below wr.heap.size wr wc)
                  case first =>
                    have zd : wr.drew.heap.size = wr.heap.size := rfl
                    have hbd : Below wr.heap.size wr wr.drew := (Below.refl _ _).drew
                    have hCw : Consts wr := hCo.on (Bb.trans (hBB.mono Bb.size))
                    have kd : Consts wr.drew := hCw.on hbd
                    refine wp_region_plan (fun w' => Row w' gA 23 (bvs (VA j)) ∧ Row w' gB 23 (bvs (VB j))) (.take 0 <| .take 1 <| .take 3 <| .take 4 <| .three 2 (.three 5 (.two 6 (.one 7 <| .one 8 <| .one 9 <| .done) 7 (.one 6 <| .one 8 <| .one 9 <| .done)) 6 (.two 5 (.one 7 <| .one 8 <| .one 9 <| .done) 7 (.one 5 <| .one 8 <| .one 9 <| .done)) 7 (.two 5 (.one 6 <| .one 8 <| .one 9 <| .done) 6 (.one 5 <| .one 8 <| .one 9 <| .done))) 6 (.two 2 (.two 5 (.one 7 <| .one 8 <| .one 9 <| .done) 7 (.one 5 <| .one 8 <| .one 9 <| .done)) 7 (.one 2 <| .one 5 <| .one 8 <| .one 9 <| .done)) 7 (.two 2 (.two 5 (.one 6 <| .one 8 <| .one 9 <| .done) 6 (.one 5 <| .one 8 <| .one 9 <| .done)) 6 (.one 2 <| .one 5 <| .one 8 <| .one 9 <| .done))) (by kernel_rfl) (by kernel_rfl) (by kernel_rfl) (fun _ _ _ _ _ h => h) ⟨rAj.drew, rBj.drew⟩ ?_
                    repeat (refine plan_take _ rfl ?_; (first | (refine wpQuiet_valueG (o := ⟨some 88, _, _, _, _, _⟩) rfl _ (by intro _ h; exact exec_load16 _ _ rfl _ rfl (VA j) HLA1.out h.1.cells) (wpQuiet_nil ?_); simp only [Act.put, List.setIfInBounds_toArray, List.set_cons_zero, List.set_cons_succ]) | (refine wpQuiet_valueG (o := ⟨some 91, _, _, _, _, _⟩) rfl _ (by intro _ h; exact exec_load16 _ _ rfl _ rfl (VB j) HLB1.out h.2.cells) (wpQuiet_nil ?_); simp only [Act.put, List.setIfInBounds_toArray, List.set_cons_zero, List.set_cons_succ]) | (go_big_quiet_step ((intros; rfl)); refine wpQuiet_nil ?_)))
                    refine plan_three ?_ ?_ ?_
                    · refine step_at _ rfl fun K hK => ?_
                      go_simp
                      refine ((HC1 _ kd).out).mono ?_
                      rintro e wx20 ⟨rfl, hx20⟩
                      rw [HS1.out]
                      have Bx21 := hbd.trans (hx20.mono hbd.size)
                      have rax21 := rAj.drew.on hx20
                      have rbx21 := rBj.drew.on hx20
                      have Kx21 := kd.on hx20
                      refine hK _ _ ⟨rax21, rbx21⟩ ?_
                      clear hK K
                      refine plan_three ?_ ?_ ?_
                      · refine step_at _ rfl fun K hK => ?_
                        go_simp
                        refine ((HC2 _ Kx21).out).mono ?_
                        rintro e wx22 ⟨rfl, hx22⟩
                        rw [HS2.out]
                        have Bx23 := Bx21.trans (hx22.mono Bx21.size)
                        have rax23 := rax21.on hx22
                        have rbx23 := rbx21.on hx22
                        have Kx23 := Kx21.on hx22
                        refine hK _ _ ⟨rax23, rbx23⟩ ?_
                        clear hK K
                        refine plan_two ?_ ?_
                        · refine step_at _ rfl fun K hK => ?_
                          refine step_alloc rfl _ rfl zeros16 zero_b16 ?_
                          intro wx24 rx24 sx24 kx24
                          have hx24 : Below wx22.heap.size wx22 wx24 := grown_below kx24 (Nat.le_refl _) (by simp)
                          have zzx24 := Bx23.size
                          have zrax24 := rax23.lt
                          have zrbx24 := rbx23.lt
                          have Bx25 := Bx23.trans (hx24.mono Bx23.size)
                          have rax25 := rax23.on hx24
                          have rbx25 := rbx23.on hx24
                          have Kx25 := Kx23.on hx24
                          refine hK _ _ ⟨rax25, rbx25⟩ ?_
                          clear hK K
                          simp only [Act.put, List.setIfInBounds_toArray, List.set_cons_zero, List.set_cons_succ]
                          refine plan_one _ rfl fun K hK => ?_
                          refine step_alloc rfl _ rfl zeros16 zero_b16 ?_
                          intro wx26 rx26 sx26 kx26
                          have hx26 : Below wx24.heap.size wx24 wx26 := grown_below kx26 (Nat.le_refl _) (by simp)
                          have zzx26 := Bx25.size
                          have zrax26 := rax25.lt
                          have zrbx26 := rbx25.lt
                          have zqcx26 := rx24.lt
                          have Bx27 := Bx25.trans (hx26.mono Bx25.size)
                          have rax27 := rax25.on hx26
                          have rbx27 := rbx25.on hx26
                          have Kx27 := Kx25.on hx26
                          have qcx27 := rx24.on hx26
                          refine hK _ _ ⟨rax27, rbx27⟩ ?_
                          clear hK K
                          simp only [Act.put, List.setIfInBounds_toArray, List.set_cons_zero, List.set_cons_succ]
                          refine plan_one _ rfl fun K hK => ?_
                          refine step_store_all rfl _ _ _ rfl wx22.heap.size rfl _ _ qcx27 (bvs (VA (j + 1))) rfl (bvs_one _) (b16_zeros _ HLA2.out) (b16_size _ HLA2.out) ?_
                          intro wx28 rx28 kx28
                          have Bx28 := below_kept Bx27 kx28 Bx27.size (by rintro k hk; cases hk; exact zzx24)
                          have rax28 := rax27.kept kx28 (by simp; omega)
                          have rbx28 := rbx27.kept kx28 (by simp; omega)
                          have Kx28 := hCw.on Bx28
                          have qdx28 := rx26.kept kx28 (by simp; omega)
                          refine hK _ _ ⟨rax28, rbx28⟩ ?_
                          clear hK K
                          simp only [Act.put]
                          refine plan_one _ rfl fun K hK => ?_
                          refine step_store_all rfl _ _ _ rfl wx24.heap.size rfl _ _ qdx28 (bvs (VB (j + 1))) rfl (bvs_one _) (b16_zeros _ HLB2.out) (b16_size _ HLB2.out) ?_
                          intro wx29 rx29 kx29
                          have Bx29 := below_kept Bx28 kx29 Bx28.size (by rintro k hk; cases hk; exact zzx26)
                          have qcx29 := rx28.kept kx29 (by simp; omega)
                          have rax29 := rax28.kept kx29 (by simp; omega)
                          have rbx29 := rbx28.kept kx29 (by simp; omega)
                          have Kx29 := hCw.on Bx29
                          refine hK _ _ ⟨rax29, rbx29⟩ ?_
                          clear hK K
                          simp only [Act.put]
                          refine plan_done ?_
                          go_wp2_with fail
                          go_meet
                          exact ⟨_, _, rfl, rfl, qcx29, rx29, rax29, rbx29, by omega, zzx24, zzx26, Bx29⟩
                        · refine step_at _ rfl fun K hK => ?_
                          refine step_alloc rfl _ rfl zeros16 zero_b16 ?_
                          intro wx30 rx30 sx30 kx30
                          have hx30 : Below wx22.heap.size wx22 wx30 := grown_below kx30 (Nat.le_refl _) (by simp)
                          have zzx30 := Bx23.size
                          have zrax30 := rax23.lt
                          have zrbx30 := rbx23.lt
                          have Bx31 := Bx23.trans (hx30.mono Bx23.size)
                          have rax31 := rax23.on hx30
                          have rbx31 := rbx23.on hx30
                          have Kx31 := Kx23.on hx30
                          refine hK _ _ ⟨rax31, rbx31⟩ ?_
                          clear hK K
                          simp only [Act.put, List.setIfInBounds_toArray, List.set_cons_zero, List.set_cons_succ]
                          refine plan_one _ rfl fun K hK => ?_
                          refine step_alloc rfl _ rfl zeros16 zero_b16 ?_
                          intro wx32 rx32 sx32 kx32
                          have hx32 : Below wx30.heap.size wx30 wx32 := grown_below kx32 (Nat.le_refl _) (by simp)
                          have zzx32 := Bx31.size
                          have zrax32 := rax31.lt
                          have zrbx32 := rbx31.lt
                          have zqdx32 := rx30.lt
                          have Bx33 := Bx31.trans (hx32.mono Bx31.size)
                          have rax33 := rax31.on hx32
                          have rbx33 := rbx31.on hx32
                          have Kx33 := Kx31.on hx32
                          have qdx33 := rx30.on hx32
                          refine hK _ _ ⟨rax33, rbx33⟩ ?_
                          clear hK K
                          simp only [Act.put, List.setIfInBounds_toArray, List.set_cons_zero, List.set_cons_succ]
                          refine plan_one _ rfl fun K hK => ?_
                          refine step_store_all rfl _ _ _ rfl wx30.heap.size rfl _ _ rx32 (bvs (VA (j + 1))) rfl (bvs_one _) (b16_zeros _ HLA2.out) (b16_size _ HLA2.out) ?_
                          intro wx34 rx34 kx34
                          have Bx34 := below_kept Bx33 kx34 Bx33.size (by rintro k hk; cases hk; exact zzx32)
                          have rax34 := rax33.kept kx34 (by simp; omega)
                          have rbx34 := rbx33.kept kx34 (by simp; omega)
                          have Kx34 := hCw.on Bx34
                          have qdx34 := qdx33.kept kx34 (by simp; omega)
                          refine hK _ _ ⟨rax34, rbx34⟩ ?_
                          clear hK K
                          simp only [Act.put]
                          refine plan_one _ rfl fun K hK => ?_
                          refine step_store_all rfl _ _ _ rfl wx22.heap.size rfl _ _ qdx34 (bvs (VB (j + 1))) rfl (bvs_one _) (b16_zeros _ HLB2.out) (b16_size _ HLB2.out) ?_
                          intro wx35 rx35 kx35
                          have Bx35 := below_kept Bx34 kx35 Bx34.size (by rintro k hk; cases hk; exact zzx30)
                          have qcx35 := rx34.kept kx35 (by simp; omega)
                          have rax35 := rax34.kept kx35 (by simp; omega)
                          have rbx35 := rbx34.kept kx35 (by simp; omega)
                          have Kx35 := hCw.on Bx35
                          refine hK _ _ ⟨rax35, rbx35⟩ ?_
                          clear hK K
                          simp only [Act.put]
                          refine plan_done ?_
                          go_wp2_with fail
                          go_meet
                          exact ⟨_, _, rfl, rfl, qcx35, rx35, rax35, rbx35, by omega, zzx32, zzx30, Bx35⟩
                      · refine step_at _ rfl fun K hK => ?_
                        refine step_alloc rfl _ rfl zeros16 zero_b16 ?_
                        intro wx36 rx36 sx36 kx36
                        have hx36 : Below wx20.heap.size wx20 wx36 := grown_below kx36 (Nat.le_refl _) (by simp)
                        have zzx36 := Bx21.size
                        have zrax36 := rax21.lt
                        have zrbx36 := rbx21.lt
                        have Bx37 := Bx21.trans (hx36.mono Bx21.size)
                        have rax37 := rax21.on hx36
                        have rbx37 := rbx21.on hx36
                        have Kx37 := Kx21.on hx36
                        refine hK _ _ ⟨rax37, rbx37⟩ ?_
                        clear hK K
                        simp only [Act.put, List.setIfInBounds_toArray, List.set_cons_zero, List.set_cons_succ]
                        refine plan_two ?_ ?_
                        · refine step_at _ rfl fun K hK => ?_
                          go_simp
                          refine ((HC2 _ Kx37).out).mono ?_
                          rintro e wx38 ⟨rfl, hx38⟩
                          rw [HS2.out]
                          have Bx39 := Bx37.trans (hx38.mono Bx37.size)
                          have rax39 := rax37.on hx38
                          have rbx39 := rbx37.on hx38
                          have Kx39 := Kx37.on hx38
                          have qcx39 := rx36.on hx38
                          refine hK _ _ ⟨rax39, rbx39⟩ ?_
                          clear hK K
                          refine plan_one _ rfl fun K hK => ?_
                          refine step_alloc rfl _ rfl zeros16 zero_b16 ?_
                          intro wx40 rx40 sx40 kx40
                          have hx40 : Below wx38.heap.size wx38 wx40 := grown_below kx40 (Nat.le_refl _) (by simp)
                          have zzx40 := Bx39.size
                          have zrax40 := rax39.lt
                          have zrbx40 := rbx39.lt
                          have zqcx40 := qcx39.lt
                          have Bx41 := Bx39.trans (hx40.mono Bx39.size)
                          have rax41 := rax39.on hx40
                          have rbx41 := rbx39.on hx40
                          have Kx41 := Kx39.on hx40
                          have qcx41 := qcx39.on hx40
                          refine hK _ _ ⟨rax41, rbx41⟩ ?_
                          clear hK K
                          simp only [Act.put, List.setIfInBounds_toArray, List.set_cons_zero, List.set_cons_succ]
                          refine plan_one _ rfl fun K hK => ?_
                          refine step_store_all rfl _ _ _ rfl wx20.heap.size rfl _ _ qcx41 (bvs (VA (j + 1))) rfl (bvs_one _) (b16_zeros _ HLA2.out) (b16_size _ HLA2.out) ?_
                          intro wx42 rx42 kx42
                          have Bx42 := below_kept Bx41 kx42 Bx41.size (by rintro k hk; cases hk; exact zzx36)
                          have rax42 := rax41.kept kx42 (by simp; omega)
                          have rbx42 := rbx41.kept kx42 (by simp; omega)
                          have Kx42 := hCw.on Bx42
                          have qdx42 := rx40.kept kx42 (by simp; omega)
                          refine hK _ _ ⟨rax42, rbx42⟩ ?_
                          clear hK K
                          simp only [Act.put]
                          refine plan_one _ rfl fun K hK => ?_
                          refine step_store_all rfl _ _ _ rfl wx38.heap.size rfl _ _ qdx42 (bvs (VB (j + 1))) rfl (bvs_one _) (b16_zeros _ HLB2.out) (b16_size _ HLB2.out) ?_
                          intro wx43 rx43 kx43
                          have Bx43 := below_kept Bx42 kx43 Bx42.size (by rintro k hk; cases hk; exact zzx40)
                          have qcx43 := rx42.kept kx43 (by simp; omega)
                          have rax43 := rax42.kept kx43 (by simp; omega)
                          have rbx43 := rbx42.kept kx43 (by simp; omega)
                          have Kx43 := hCw.on Bx43
                          refine hK _ _ ⟨rax43, rbx43⟩ ?_
                          clear hK K
                          simp only [Act.put]
                          refine plan_done ?_
                          go_wp2_with fail
                          go_meet
                          exact ⟨_, _, rfl, rfl, qcx43, rx43, rax43, rbx43, by omega, zzx36, zzx40, Bx43⟩
                        · refine step_at _ rfl fun K hK => ?_
                          refine step_alloc rfl _ rfl zeros16 zero_b16 ?_
                          intro wx44 rx44 sx44 kx44
                          have hx44 : Below wx36.heap.size wx36 wx44 := grown_below kx44 (Nat.le_refl _) (by simp)
                          have zzx44 := Bx37.size
                          have zrax44 := rax37.lt
                          have zrbx44 := rbx37.lt
                          have zqcx44 := rx36.lt
                          have Bx45 := Bx37.trans (hx44.mono Bx37.size)
                          have rax45 := rax37.on hx44
                          have rbx45 := rbx37.on hx44
                          have Kx45 := Kx37.on hx44
                          have qcx45 := rx36.on hx44
                          refine hK _ _ ⟨rax45, rbx45⟩ ?_
                          clear hK K
                          simp only [Act.put, List.setIfInBounds_toArray, List.set_cons_zero, List.set_cons_succ]
                          refine plan_one _ rfl fun K hK => ?_
                          go_simp
                          refine ((HC2 _ Kx45).out).mono ?_
                          rintro e wx46 ⟨rfl, hx46⟩
                          rw [HS2.out]
                          have Bx47 := Bx45.trans (hx46.mono Bx45.size)
                          have rax47 := rax45.on hx46
                          have rbx47 := rbx45.on hx46
                          have Kx47 := Kx45.on hx46
                          have qcx47 := qcx45.on hx46
                          have qdx47 := rx44.on hx46
                          refine hK _ _ ⟨rax47, rbx47⟩ ?_
                          clear hK K
                          refine plan_one _ rfl fun K hK => ?_
                          refine step_store_all rfl _ _ _ rfl wx20.heap.size rfl _ _ qcx47 (bvs (VA (j + 1))) rfl (bvs_one _) (b16_zeros _ HLA2.out) (b16_size _ HLA2.out) ?_
                          intro wx48 rx48 kx48
                          have Bx48 := below_kept Bx47 kx48 Bx47.size (by rintro k hk; cases hk; exact zzx36)
                          have rax48 := rax47.kept kx48 (by simp; omega)
                          have rbx48 := rbx47.kept kx48 (by simp; omega)
                          have Kx48 := hCw.on Bx48
                          have qdx48 := qdx47.kept kx48 (by simp; omega)
                          refine hK _ _ ⟨rax48, rbx48⟩ ?_
                          clear hK K
                          simp only [Act.put]
                          refine plan_one _ rfl fun K hK => ?_
                          refine step_store_all rfl _ _ _ rfl wx36.heap.size rfl _ _ qdx48 (bvs (VB (j + 1))) rfl (bvs_one _) (b16_zeros _ HLB2.out) (b16_size _ HLB2.out) ?_
                          intro wx49 rx49 kx49
                          have Bx49 := below_kept Bx48 kx49 Bx48.size (by rintro k hk; cases hk; exact zzx44)
                          have qcx49 := rx48.kept kx49 (by simp; omega)
                          have rax49 := rax48.kept kx49 (by simp; omega)
                          have rbx49 := rbx48.kept kx49 (by simp; omega)
                          have Kx49 := hCw.on Bx49
                          refine hK _ _ ⟨rax49, rbx49⟩ ?_
                          clear hK K
                          simp only [Act.put]
                          refine plan_done ?_
                          go_wp2_with fail
                          go_meet
                          exact ⟨_, _, rfl, rfl, qcx49, rx49, rax49, rbx49, by omega, zzx36, zzx44, Bx49⟩
                      · refine step_at _ rfl fun K hK => ?_
                        refine step_alloc rfl _ rfl zeros16 zero_b16 ?_
                        intro wx50 rx50 sx50 kx50
                        have hx50 : Below wx20.heap.size wx20 wx50 := grown_below kx50 (Nat.le_refl _) (by simp)
                        have zzx50 := Bx21.size
                        have zrax50 := rax21.lt
                        have zrbx50 := rbx21.lt
                        have Bx51 := Bx21.trans (hx50.mono Bx21.size)
                        have rax51 := rax21.on hx50
                        have rbx51 := rbx21.on hx50
                        have Kx51 := Kx21.on hx50
                        refine hK _ _ ⟨rax51, rbx51⟩ ?_
                        clear hK K
                        simp only [Act.put, List.setIfInBounds_toArray, List.set_cons_zero, List.set_cons_succ]
                        refine plan_two ?_ ?_
                        · refine step_at _ rfl fun K hK => ?_
                          go_simp
                          refine ((HC2 _ Kx51).out).mono ?_
                          rintro e wx52 ⟨rfl, hx52⟩
                          rw [HS2.out]
                          have Bx53 := Bx51.trans (hx52.mono Bx51.size)
                          have rax53 := rax51.on hx52
                          have rbx53 := rbx51.on hx52
                          have Kx53 := Kx51.on hx52
                          have qdx53 := rx50.on hx52
                          refine hK _ _ ⟨rax53, rbx53⟩ ?_
                          clear hK K
                          refine plan_one _ rfl fun K hK => ?_
                          refine step_alloc rfl _ rfl zeros16 zero_b16 ?_
                          intro wx54 rx54 sx54 kx54
                          have hx54 : Below wx52.heap.size wx52 wx54 := grown_below kx54 (Nat.le_refl _) (by simp)
                          have zzx54 := Bx53.size
                          have zrax54 := rax53.lt
                          have zrbx54 := rbx53.lt
                          have zqdx54 := qdx53.lt
                          have Bx55 := Bx53.trans (hx54.mono Bx53.size)
                          have rax55 := rax53.on hx54
                          have rbx55 := rbx53.on hx54
                          have Kx55 := Kx53.on hx54
                          have qdx55 := qdx53.on hx54
                          refine hK _ _ ⟨rax55, rbx55⟩ ?_
                          clear hK K
                          simp only [Act.put, List.setIfInBounds_toArray, List.set_cons_zero, List.set_cons_succ]
                          refine plan_one _ rfl fun K hK => ?_
                          refine step_store_all rfl _ _ _ rfl wx52.heap.size rfl _ _ rx54 (bvs (VA (j + 1))) rfl (bvs_one _) (b16_zeros _ HLA2.out) (b16_size _ HLA2.out) ?_
                          intro wx56 rx56 kx56
                          have Bx56 := below_kept Bx55 kx56 Bx55.size (by rintro k hk; cases hk; exact zzx54)
                          have rax56 := rax55.kept kx56 (by simp; omega)
                          have rbx56 := rbx55.kept kx56 (by simp; omega)
                          have Kx56 := hCw.on Bx56
                          have qdx56 := qdx55.kept kx56 (by simp; omega)
                          refine hK _ _ ⟨rax56, rbx56⟩ ?_
                          clear hK K
                          simp only [Act.put]
                          refine plan_one _ rfl fun K hK => ?_
                          refine step_store_all rfl _ _ _ rfl wx20.heap.size rfl _ _ qdx56 (bvs (VB (j + 1))) rfl (bvs_one _) (b16_zeros _ HLB2.out) (b16_size _ HLB2.out) ?_
                          intro wx57 rx57 kx57
                          have Bx57 := below_kept Bx56 kx57 Bx56.size (by rintro k hk; cases hk; exact zzx50)
                          have qcx57 := rx56.kept kx57 (by simp; omega)
                          have rax57 := rax56.kept kx57 (by simp; omega)
                          have rbx57 := rbx56.kept kx57 (by simp; omega)
                          have Kx57 := hCw.on Bx57
                          refine hK _ _ ⟨rax57, rbx57⟩ ?_
                          clear hK K
                          simp only [Act.put]
                          refine plan_done ?_
                          go_wp2_with fail
                          go_meet
                          exact ⟨_, _, rfl, rfl, qcx57, rx57, rax57, rbx57, by omega, zzx54, zzx50, Bx57⟩
                        · refine step_at _ rfl fun K hK => ?_
                          refine step_alloc rfl _ rfl zeros16 zero_b16 ?_
                          intro wx58 rx58 sx58 kx58
                          have hx58 : Below wx50.heap.size wx50 wx58 := grown_below kx58 (Nat.le_refl _) (by simp)
                          have zzx58 := Bx51.size
                          have zrax58 := rax51.lt
                          have zrbx58 := rbx51.lt
                          have zqdx58 := rx50.lt
                          have Bx59 := Bx51.trans (hx58.mono Bx51.size)
                          have rax59 := rax51.on hx58
                          have rbx59 := rbx51.on hx58
                          have Kx59 := Kx51.on hx58
                          have qdx59 := rx50.on hx58
                          refine hK _ _ ⟨rax59, rbx59⟩ ?_
                          clear hK K
                          simp only [Act.put, List.setIfInBounds_toArray, List.set_cons_zero, List.set_cons_succ]
                          refine plan_one _ rfl fun K hK => ?_
                          go_simp
                          refine ((HC2 _ Kx59).out).mono ?_
                          rintro e wx60 ⟨rfl, hx60⟩
                          rw [HS2.out]
                          have Bx61 := Bx59.trans (hx60.mono Bx59.size)
                          have rax61 := rax59.on hx60
                          have rbx61 := rbx59.on hx60
                          have Kx61 := Kx59.on hx60
                          have qdx61 := qdx59.on hx60
                          have qcx61 := rx58.on hx60
                          refine hK _ _ ⟨rax61, rbx61⟩ ?_
                          clear hK K
                          refine plan_one _ rfl fun K hK => ?_
                          refine step_store_all rfl _ _ _ rfl wx50.heap.size rfl _ _ qcx61 (bvs (VA (j + 1))) rfl (bvs_one _) (b16_zeros _ HLA2.out) (b16_size _ HLA2.out) ?_
                          intro wx62 rx62 kx62
                          have Bx62 := below_kept Bx61 kx62 Bx61.size (by rintro k hk; cases hk; exact zzx58)
                          have rax62 := rax61.kept kx62 (by simp; omega)
                          have rbx62 := rbx61.kept kx62 (by simp; omega)
                          have Kx62 := hCw.on Bx62
                          have qdx62 := qdx61.kept kx62 (by simp; omega)
                          refine hK _ _ ⟨rax62, rbx62⟩ ?_
                          clear hK K
                          simp only [Act.put]
                          refine plan_one _ rfl fun K hK => ?_
                          refine step_store_all rfl _ _ _ rfl wx20.heap.size rfl _ _ qdx62 (bvs (VB (j + 1))) rfl (bvs_one _) (b16_zeros _ HLB2.out) (b16_size _ HLB2.out) ?_
                          intro wx63 rx63 kx63
                          have Bx63 := below_kept Bx62 kx63 Bx62.size (by rintro k hk; cases hk; exact zzx50)
                          have qcx63 := rx62.kept kx63 (by simp; omega)
                          have rax63 := rax62.kept kx63 (by simp; omega)
                          have rbx63 := rbx62.kept kx63 (by simp; omega)
                          have Kx63 := hCw.on Bx63
                          refine hK _ _ ⟨rax63, rbx63⟩ ?_
                          clear hK K
                          simp only [Act.put]
                          refine plan_done ?_
                          go_wp2_with fail
                          go_meet
                          exact ⟨_, _, rfl, rfl, qcx63, rx63, rax63, rbx63, by omega, zzx58, zzx50, Bx63⟩
                    · refine step_at _ rfl fun K hK => ?_
                      refine step_alloc rfl _ rfl zeros16 zero_b16 ?_
                      intro wx64 rx64 sx64 kx64
                      have hx64 : Below wr.drew.heap.size wr.drew wx64 := grown_below kx64 (Nat.le_refl _) (by simp)
                      have zzx64 := hbd.size
                      have zrax64 := rAj.drew.lt
                      have zrbx64 := rBj.drew.lt
                      have Bx65 := hbd.trans (hx64.mono hbd.size)
                      have rax65 := rAj.drew.on hx64
                      have rbx65 := rBj.drew.on hx64
                      have Kx65 := kd.on hx64
                      refine hK _ _ ⟨rax65, rbx65⟩ ?_
                      clear hK K
                      simp only [Act.put, List.setIfInBounds_toArray, List.set_cons_zero, List.set_cons_succ]
                      refine plan_two ?_ ?_
                      · refine step_at _ rfl fun K hK => ?_
                        go_simp
                        refine ((HC1 _ Kx65).out).mono ?_
                        rintro e wx66 ⟨rfl, hx66⟩
                        rw [HS1.out]
                        have Bx67 := Bx65.trans (hx66.mono Bx65.size)
                        have rax67 := rax65.on hx66
                        have rbx67 := rbx65.on hx66
                        have Kx67 := Kx65.on hx66
                        have qcx67 := rx64.on hx66
                        refine hK _ _ ⟨rax67, rbx67⟩ ?_
                        clear hK K
                        refine plan_two ?_ ?_
                        · refine step_at _ rfl fun K hK => ?_
                          go_simp
                          refine ((HC2 _ Kx67).out).mono ?_
                          rintro e wx68 ⟨rfl, hx68⟩
                          rw [HS2.out]
                          have Bx69 := Bx67.trans (hx68.mono Bx67.size)
                          have rax69 := rax67.on hx68
                          have rbx69 := rbx67.on hx68
                          have Kx69 := Kx67.on hx68
                          have qcx69 := qcx67.on hx68
                          refine hK _ _ ⟨rax69, rbx69⟩ ?_
                          clear hK K
                          refine plan_one _ rfl fun K hK => ?_
                          refine step_alloc rfl _ rfl zeros16 zero_b16 ?_
                          intro wx70 rx70 sx70 kx70
                          have hx70 : Below wx68.heap.size wx68 wx70 := grown_below kx70 (Nat.le_refl _) (by simp)
                          have zzx70 := Bx69.size
                          have zrax70 := rax69.lt
                          have zrbx70 := rbx69.lt
                          have zqcx70 := qcx69.lt
                          have Bx71 := Bx69.trans (hx70.mono Bx69.size)
                          have rax71 := rax69.on hx70
                          have rbx71 := rbx69.on hx70
                          have Kx71 := Kx69.on hx70
                          have qcx71 := qcx69.on hx70
                          refine hK _ _ ⟨rax71, rbx71⟩ ?_
                          clear hK K
                          simp only [Act.put, List.setIfInBounds_toArray, List.set_cons_zero, List.set_cons_succ]
                          refine plan_one _ rfl fun K hK => ?_
                          refine step_store_all rfl _ _ _ rfl wr.drew.heap.size rfl _ _ qcx71 (bvs (VA (j + 1))) rfl (bvs_one _) (b16_zeros _ HLA2.out) (b16_size _ HLA2.out) ?_
                          intro wx72 rx72 kx72
                          have Bx72 := below_kept Bx71 kx72 Bx71.size (by rintro k hk; cases hk; exact zzx64)
                          have rax72 := rax71.kept kx72 (by simp; omega)
                          have rbx72 := rbx71.kept kx72 (by simp; omega)
                          have Kx72 := hCw.on Bx72
                          have qdx72 := rx70.kept kx72 (by simp; omega)
                          refine hK _ _ ⟨rax72, rbx72⟩ ?_
                          clear hK K
                          simp only [Act.put]
                          refine plan_one _ rfl fun K hK => ?_
                          refine step_store_all rfl _ _ _ rfl wx68.heap.size rfl _ _ qdx72 (bvs (VB (j + 1))) rfl (bvs_one _) (b16_zeros _ HLB2.out) (b16_size _ HLB2.out) ?_
                          intro wx73 rx73 kx73
                          have Bx73 := below_kept Bx72 kx73 Bx72.size (by rintro k hk; cases hk; exact zzx70)
                          have qcx73 := rx72.kept kx73 (by simp; omega)
                          have rax73 := rax72.kept kx73 (by simp; omega)
                          have rbx73 := rbx72.kept kx73 (by simp; omega)
                          have Kx73 := hCw.on Bx73
                          refine hK _ _ ⟨rax73, rbx73⟩ ?_
                          clear hK K
                          simp only [Act.put]
                          refine plan_done ?_
                          go_wp2_with fail
                          go_meet
                          exact ⟨_, _, rfl, rfl, qcx73, rx73, rax73, rbx73, by omega, zzx64, zzx70, Bx73⟩
                        · refine step_at _ rfl fun K hK => ?_
                          refine step_alloc rfl _ rfl zeros16 zero_b16 ?_
                          intro wx74 rx74 sx74 kx74
                          have hx74 : Below wx66.heap.size wx66 wx74 := grown_below kx74 (Nat.le_refl _) (by simp)
                          have zzx74 := Bx67.size
                          have zrax74 := rax67.lt
                          have zrbx74 := rbx67.lt
                          have zqcx74 := qcx67.lt
                          have Bx75 := Bx67.trans (hx74.mono Bx67.size)
                          have rax75 := rax67.on hx74
                          have rbx75 := rbx67.on hx74
                          have Kx75 := Kx67.on hx74
                          have qcx75 := qcx67.on hx74
                          refine hK _ _ ⟨rax75, rbx75⟩ ?_
                          clear hK K
                          simp only [Act.put, List.setIfInBounds_toArray, List.set_cons_zero, List.set_cons_succ]
                          refine plan_one _ rfl fun K hK => ?_
                          go_simp
                          refine ((HC2 _ Kx75).out).mono ?_
                          rintro e wx76 ⟨rfl, hx76⟩
                          rw [HS2.out]
                          have Bx77 := Bx75.trans (hx76.mono Bx75.size)
                          have rax77 := rax75.on hx76
                          have rbx77 := rbx75.on hx76
                          have Kx77 := Kx75.on hx76
                          have qcx77 := qcx75.on hx76
                          have qdx77 := rx74.on hx76
                          refine hK _ _ ⟨rax77, rbx77⟩ ?_
                          clear hK K
                          refine plan_one _ rfl fun K hK => ?_
                          refine step_store_all rfl _ _ _ rfl wr.drew.heap.size rfl _ _ qcx77 (bvs (VA (j + 1))) rfl (bvs_one _) (b16_zeros _ HLA2.out) (b16_size _ HLA2.out) ?_
                          intro wx78 rx78 kx78
                          have Bx78 := below_kept Bx77 kx78 Bx77.size (by rintro k hk; cases hk; exact zzx64)
                          have rax78 := rax77.kept kx78 (by simp; omega)
                          have rbx78 := rbx77.kept kx78 (by simp; omega)
                          have Kx78 := hCw.on Bx78
                          have qdx78 := qdx77.kept kx78 (by simp; omega)
                          refine hK _ _ ⟨rax78, rbx78⟩ ?_
                          clear hK K
                          simp only [Act.put]
                          refine plan_one _ rfl fun K hK => ?_
                          refine step_store_all rfl _ _ _ rfl wx66.heap.size rfl _ _ qdx78 (bvs (VB (j + 1))) rfl (bvs_one _) (b16_zeros _ HLB2.out) (b16_size _ HLB2.out) ?_
                          intro wx79 rx79 kx79
                          have Bx79 := below_kept Bx78 kx79 Bx78.size (by rintro k hk; cases hk; exact zzx74)
                          have qcx79 := rx78.kept kx79 (by simp; omega)
                          have rax79 := rax78.kept kx79 (by simp; omega)
                          have rbx79 := rbx78.kept kx79 (by simp; omega)
                          have Kx79 := hCw.on Bx79
                          refine hK _ _ ⟨rax79, rbx79⟩ ?_
                          clear hK K
                          simp only [Act.put]
                          refine plan_done ?_
                          go_wp2_with fail
                          go_meet
                          exact ⟨_, _, rfl, rfl, qcx79, rx79, rax79, rbx79, by omega, zzx64, zzx74, Bx79⟩
                      · refine step_at _ rfl fun K hK => ?_
                        refine step_alloc rfl _ rfl zeros16 zero_b16 ?_
                        intro wx80 rx80 sx80 kx80
                        have hx80 : Below wx64.heap.size wx64 wx80 := grown_below kx80 (Nat.le_refl _) (by simp)
                        have zzx80 := Bx65.size
                        have zrax80 := rax65.lt
                        have zrbx80 := rbx65.lt
                        have zqcx80 := rx64.lt
                        have Bx81 := Bx65.trans (hx80.mono Bx65.size)
                        have rax81 := rax65.on hx80
                        have rbx81 := rbx65.on hx80
                        have Kx81 := Kx65.on hx80
                        have qcx81 := rx64.on hx80
                        refine hK _ _ ⟨rax81, rbx81⟩ ?_
                        clear hK K
                        simp only [Act.put, List.setIfInBounds_toArray, List.set_cons_zero, List.set_cons_succ]
                        refine plan_one _ rfl fun K hK => ?_
                        go_simp
                        refine ((HC1 _ Kx81).out).mono ?_
                        rintro e wx82 ⟨rfl, hx82⟩
                        rw [HS1.out]
                        have Bx83 := Bx81.trans (hx82.mono Bx81.size)
                        have rax83 := rax81.on hx82
                        have rbx83 := rbx81.on hx82
                        have Kx83 := Kx81.on hx82
                        have qcx83 := qcx81.on hx82
                        have qdx83 := rx80.on hx82
                        refine hK _ _ ⟨rax83, rbx83⟩ ?_
                        clear hK K
                        refine plan_one _ rfl fun K hK => ?_
                        go_simp
                        refine ((HC2 _ Kx83).out).mono ?_
                        rintro e wx84 ⟨rfl, hx84⟩
                        rw [HS2.out]
                        have Bx85 := Bx83.trans (hx84.mono Bx83.size)
                        have rax85 := rax83.on hx84
                        have rbx85 := rbx83.on hx84
                        have Kx85 := Kx83.on hx84
                        have qcx85 := qcx83.on hx84
                        have qdx85 := qdx83.on hx84
                        refine hK _ _ ⟨rax85, rbx85⟩ ?_
                        clear hK K
                        refine plan_one _ rfl fun K hK => ?_
                        refine step_store_all rfl _ _ _ rfl wr.drew.heap.size rfl _ _ qcx85 (bvs (VA (j + 1))) rfl (bvs_one _) (b16_zeros _ HLA2.out) (b16_size _ HLA2.out) ?_
                        intro wx86 rx86 kx86
                        have Bx86 := below_kept Bx85 kx86 Bx85.size (by rintro k hk; cases hk; exact zzx64)
                        have rax86 := rax85.kept kx86 (by simp; omega)
                        have rbx86 := rbx85.kept kx86 (by simp; omega)
                        have Kx86 := hCw.on Bx86
                        have qdx86 := qdx85.kept kx86 (by simp; omega)
                        refine hK _ _ ⟨rax86, rbx86⟩ ?_
                        clear hK K
                        simp only [Act.put]
                        refine plan_one _ rfl fun K hK => ?_
                        refine step_store_all rfl _ _ _ rfl wx64.heap.size rfl _ _ qdx86 (bvs (VB (j + 1))) rfl (bvs_one _) (b16_zeros _ HLB2.out) (b16_size _ HLB2.out) ?_
                        intro wx87 rx87 kx87
                        have Bx87 := below_kept Bx86 kx87 Bx86.size (by rintro k hk; cases hk; exact zzx80)
                        have qcx87 := rx86.kept kx87 (by simp; omega)
                        have rax87 := rax86.kept kx87 (by simp; omega)
                        have rbx87 := rbx86.kept kx87 (by simp; omega)
                        have Kx87 := hCw.on Bx87
                        refine hK _ _ ⟨rax87, rbx87⟩ ?_
                        clear hK K
                        simp only [Act.put]
                        refine plan_done ?_
                        go_wp2_with fail
                        go_meet
                        exact ⟨_, _, rfl, rfl, qcx87, rx87, rax87, rbx87, by omega, zzx64, zzx80, Bx87⟩
                    · refine step_at _ rfl fun K hK => ?_
                      refine step_alloc rfl _ rfl zeros16 zero_b16 ?_
                      intro wx88 rx88 sx88 kx88
                      have hx88 : Below wr.drew.heap.size wr.drew wx88 := grown_below kx88 (Nat.le_refl _) (by simp)
                      have zzx88 := hbd.size
                      have zrax88 := rAj.drew.lt
                      have zrbx88 := rBj.drew.lt
                      have Bx89 := hbd.trans (hx88.mono hbd.size)
                      have rax89 := rAj.drew.on hx88
                      have rbx89 := rBj.drew.on hx88
                      have Kx89 := kd.on hx88
                      refine hK _ _ ⟨rax89, rbx89⟩ ?_
                      clear hK K
                      simp only [Act.put, List.setIfInBounds_toArray, List.set_cons_zero, List.set_cons_succ]
                      refine plan_two ?_ ?_
                      · refine step_at _ rfl fun K hK => ?_
                        go_simp
                        refine ((HC1 _ Kx89).out).mono ?_
                        rintro e wx90 ⟨rfl, hx90⟩
                        rw [HS1.out]
                        have Bx91 := Bx89.trans (hx90.mono Bx89.size)
                        have rax91 := rax89.on hx90
                        have rbx91 := rbx89.on hx90
                        have Kx91 := Kx89.on hx90
                        have qdx91 := rx88.on hx90
                        refine hK _ _ ⟨rax91, rbx91⟩ ?_
                        clear hK K
                        refine plan_two ?_ ?_
                        · refine step_at _ rfl fun K hK => ?_
                          go_simp
                          refine ((HC2 _ Kx91).out).mono ?_
                          rintro e wx92 ⟨rfl, hx92⟩
                          rw [HS2.out]
                          have Bx93 := Bx91.trans (hx92.mono Bx91.size)
                          have rax93 := rax91.on hx92
                          have rbx93 := rbx91.on hx92
                          have Kx93 := Kx91.on hx92
                          have qdx93 := qdx91.on hx92
                          refine hK _ _ ⟨rax93, rbx93⟩ ?_
                          clear hK K
                          refine plan_one _ rfl fun K hK => ?_
                          refine step_alloc rfl _ rfl zeros16 zero_b16 ?_
                          intro wx94 rx94 sx94 kx94
                          have hx94 : Below wx92.heap.size wx92 wx94 := grown_below kx94 (Nat.le_refl _) (by simp)
                          have zzx94 := Bx93.size
                          have zrax94 := rax93.lt
                          have zrbx94 := rbx93.lt
                          have zqdx94 := qdx93.lt
                          have Bx95 := Bx93.trans (hx94.mono Bx93.size)
                          have rax95 := rax93.on hx94
                          have rbx95 := rbx93.on hx94
                          have Kx95 := Kx93.on hx94
                          have qdx95 := qdx93.on hx94
                          refine hK _ _ ⟨rax95, rbx95⟩ ?_
                          clear hK K
                          simp only [Act.put, List.setIfInBounds_toArray, List.set_cons_zero, List.set_cons_succ]
                          refine plan_one _ rfl fun K hK => ?_
                          refine step_store_all rfl _ _ _ rfl wx92.heap.size rfl _ _ rx94 (bvs (VA (j + 1))) rfl (bvs_one _) (b16_zeros _ HLA2.out) (b16_size _ HLA2.out) ?_
                          intro wx96 rx96 kx96
                          have Bx96 := below_kept Bx95 kx96 Bx95.size (by rintro k hk; cases hk; exact zzx94)
                          have rax96 := rax95.kept kx96 (by simp; omega)
                          have rbx96 := rbx95.kept kx96 (by simp; omega)
                          have Kx96 := hCw.on Bx96
                          have qdx96 := qdx95.kept kx96 (by simp; omega)
                          refine hK _ _ ⟨rax96, rbx96⟩ ?_
                          clear hK K
                          simp only [Act.put]
                          refine plan_one _ rfl fun K hK => ?_
                          refine step_store_all rfl _ _ _ rfl wr.drew.heap.size rfl _ _ qdx96 (bvs (VB (j + 1))) rfl (bvs_one _) (b16_zeros _ HLB2.out) (b16_size _ HLB2.out) ?_
                          intro wx97 rx97 kx97
                          have Bx97 := below_kept Bx96 kx97 Bx96.size (by rintro k hk; cases hk; exact zzx88)
                          have qcx97 := rx96.kept kx97 (by simp; omega)
                          have rax97 := rax96.kept kx97 (by simp; omega)
                          have rbx97 := rbx96.kept kx97 (by simp; omega)
                          have Kx97 := hCw.on Bx97
                          refine hK _ _ ⟨rax97, rbx97⟩ ?_
                          clear hK K
                          simp only [Act.put]
                          refine plan_done ?_
                          go_wp2_with fail
                          go_meet
                          exact ⟨_, _, rfl, rfl, qcx97, rx97, rax97, rbx97, by omega, zzx94, zzx88, Bx97⟩
                        · refine step_at _ rfl fun K hK => ?_
                          refine step_alloc rfl _ rfl zeros16 zero_b16 ?_
                          intro wx98 rx98 sx98 kx98
                          have hx98 : Below wx90.heap.size wx90 wx98 := grown_below kx98 (Nat.le_refl _) (by simp)
                          have zzx98 := Bx91.size
                          have zrax98 := rax91.lt
                          have zrbx98 := rbx91.lt
                          have zqdx98 := qdx91.lt
                          have Bx99 := Bx91.trans (hx98.mono Bx91.size)
                          have rax99 := rax91.on hx98
                          have rbx99 := rbx91.on hx98
                          have Kx99 := Kx91.on hx98
                          have qdx99 := qdx91.on hx98
                          refine hK _ _ ⟨rax99, rbx99⟩ ?_
                          clear hK K
                          simp only [Act.put, List.setIfInBounds_toArray, List.set_cons_zero, List.set_cons_succ]
                          refine plan_one _ rfl fun K hK => ?_
                          go_simp
                          refine ((HC2 _ Kx99).out).mono ?_
                          rintro e wx100 ⟨rfl, hx100⟩
                          rw [HS2.out]
                          have Bx101 := Bx99.trans (hx100.mono Bx99.size)
                          have rax101 := rax99.on hx100
                          have rbx101 := rbx99.on hx100
                          have Kx101 := Kx99.on hx100
                          have qdx101 := qdx99.on hx100
                          have qcx101 := rx98.on hx100
                          refine hK _ _ ⟨rax101, rbx101⟩ ?_
                          clear hK K
                          refine plan_one _ rfl fun K hK => ?_
                          refine step_store_all rfl _ _ _ rfl wx90.heap.size rfl _ _ qcx101 (bvs (VA (j + 1))) rfl (bvs_one _) (b16_zeros _ HLA2.out) (b16_size _ HLA2.out) ?_
                          intro wx102 rx102 kx102
                          have Bx102 := below_kept Bx101 kx102 Bx101.size (by rintro k hk; cases hk; exact zzx98)
                          have rax102 := rax101.kept kx102 (by simp; omega)
                          have rbx102 := rbx101.kept kx102 (by simp; omega)
                          have Kx102 := hCw.on Bx102
                          have qdx102 := qdx101.kept kx102 (by simp; omega)
                          refine hK _ _ ⟨rax102, rbx102⟩ ?_
                          clear hK K
                          simp only [Act.put]
                          refine plan_one _ rfl fun K hK => ?_
                          refine step_store_all rfl _ _ _ rfl wr.drew.heap.size rfl _ _ qdx102 (bvs (VB (j + 1))) rfl (bvs_one _) (b16_zeros _ HLB2.out) (b16_size _ HLB2.out) ?_
                          intro wx103 rx103 kx103
                          have Bx103 := below_kept Bx102 kx103 Bx102.size (by rintro k hk; cases hk; exact zzx88)
                          have qcx103 := rx102.kept kx103 (by simp; omega)
                          have rax103 := rax102.kept kx103 (by simp; omega)
                          have rbx103 := rbx102.kept kx103 (by simp; omega)
                          have Kx103 := hCw.on Bx103
                          refine hK _ _ ⟨rax103, rbx103⟩ ?_
                          clear hK K
                          simp only [Act.put]
                          refine plan_done ?_
                          go_wp2_with fail
                          go_meet
                          exact ⟨_, _, rfl, rfl, qcx103, rx103, rax103, rbx103, by omega, zzx98, zzx88, Bx103⟩
                      · refine step_at _ rfl fun K hK => ?_
                        refine step_alloc rfl _ rfl zeros16 zero_b16 ?_
                        intro wx104 rx104 sx104 kx104
                        have hx104 : Below wx88.heap.size wx88 wx104 := grown_below kx104 (Nat.le_refl _) (by simp)
                        have zzx104 := Bx89.size
                        have zrax104 := rax89.lt
                        have zrbx104 := rbx89.lt
                        have zqdx104 := rx88.lt
                        have Bx105 := Bx89.trans (hx104.mono Bx89.size)
                        have rax105 := rax89.on hx104
                        have rbx105 := rbx89.on hx104
                        have Kx105 := Kx89.on hx104
                        have qdx105 := rx88.on hx104
                        refine hK _ _ ⟨rax105, rbx105⟩ ?_
                        clear hK K
                        simp only [Act.put, List.setIfInBounds_toArray, List.set_cons_zero, List.set_cons_succ]
                        refine plan_one _ rfl fun K hK => ?_
                        go_simp
                        refine ((HC1 _ Kx105).out).mono ?_
                        rintro e wx106 ⟨rfl, hx106⟩
                        rw [HS1.out]
                        have Bx107 := Bx105.trans (hx106.mono Bx105.size)
                        have rax107 := rax105.on hx106
                        have rbx107 := rbx105.on hx106
                        have Kx107 := Kx105.on hx106
                        have qdx107 := qdx105.on hx106
                        have qcx107 := rx104.on hx106
                        refine hK _ _ ⟨rax107, rbx107⟩ ?_
                        clear hK K
                        refine plan_one _ rfl fun K hK => ?_
                        go_simp
                        refine ((HC2 _ Kx107).out).mono ?_
                        rintro e wx108 ⟨rfl, hx108⟩
                        rw [HS2.out]
                        have Bx109 := Bx107.trans (hx108.mono Bx107.size)
                        have rax109 := rax107.on hx108
                        have rbx109 := rbx107.on hx108
                        have Kx109 := Kx107.on hx108
                        have qdx109 := qdx107.on hx108
                        have qcx109 := qcx107.on hx108
                        refine hK _ _ ⟨rax109, rbx109⟩ ?_
                        clear hK K
                        refine plan_one _ rfl fun K hK => ?_
                        refine step_store_all rfl _ _ _ rfl wx88.heap.size rfl _ _ qcx109 (bvs (VA (j + 1))) rfl (bvs_one _) (b16_zeros _ HLA2.out) (b16_size _ HLA2.out) ?_
                        intro wx110 rx110 kx110
                        have Bx110 := below_kept Bx109 kx110 Bx109.size (by rintro k hk; cases hk; exact zzx104)
                        have rax110 := rax109.kept kx110 (by simp; omega)
                        have rbx110 := rbx109.kept kx110 (by simp; omega)
                        have Kx110 := hCw.on Bx110
                        have qdx110 := qdx109.kept kx110 (by simp; omega)
                        refine hK _ _ ⟨rax110, rbx110⟩ ?_
                        clear hK K
                        simp only [Act.put]
                        refine plan_one _ rfl fun K hK => ?_
                        refine step_store_all rfl _ _ _ rfl wr.drew.heap.size rfl _ _ qdx110 (bvs (VB (j + 1))) rfl (bvs_one _) (b16_zeros _ HLB2.out) (b16_size _ HLB2.out) ?_
                        intro wx111 rx111 kx111
                        have Bx111 := below_kept Bx110 kx111 Bx110.size (by rintro k hk; cases hk; exact zzx88)
                        have qcx111 := rx110.kept kx111 (by simp; omega)
                        have rax111 := rax110.kept kx111 (by simp; omega)
                        have rbx111 := rbx110.kept kx111 (by simp; omega)
                        have Kx111 := hCw.on Bx111
                        refine hK _ _ ⟨rax111, rbx111⟩ ?_
                        clear hK K
                        simp only [Act.put]
                        refine plan_done ?_
                        go_wp2_with fail
                        go_meet
                        exact ⟨_, _, rfl, rfl, qcx111, rx111, rax111, rbx111, by omega, zzx104, zzx88, Bx111⟩
                  case rest =>
                    obtain ⟨gC, gD, rfl, rfl, rC, rD, rA2, rB2, hCD, hzC, hzD, hbc2⟩ := hcut
                    have hbj2 : Below w1r.heap.size w1r wc := hbj.trans (hbc2.mono hzj)
                    have B2 : Below w.heap.size w wc := Bb.trans ((hBB.trans (hbc2.mono hBB.size)).mono Bb.size)
                    cases hab : (VA j == VB j) with
                    | true =>
                      have HIJ1 : Hid (VA (j + 1) = VB (j + 1) → da = db) := fun _ => HIJ.out (eq_of_beq hab)
                      go_wp2_with (first
                        | (refine wpList_valueG (o := ⟨some 93, _, _, _, _, _⟩) rfl _ (by exact exec_load16 _ _ rfl _ rfl (VA j) HLA1.out rA2.cells) ?_)
                        | (refine wpList_valueG (o := ⟨some 94, _, _, _, _, _⟩) rfl _ (by exact exec_load16 _ _ rfl _ rfl (VB j) HLB1.out rB2.cells) ?_)
                        | (refine wpList_valueG (o := ⟨some 95, _, _, _, _, _⟩) rfl _ (by exact exec_neq16 _ _ _ rfl (VA j) (VB j) HLA1.out HLB1.out rfl rfl) ?_; simp only [hab]))
                      refine wp_region_plan (fun w' => Row w' gC 23 (bvs (VA (j + 1))) ∧ Row w' gD 23 (bvs (VB (j + 1)))) (.take 0 <| .take 1 <| .one 2 <| .one 3 <| .done) (by kernel_rfl) (by kernel_rfl) (by kernel_rfl) (fun _ _ _ _ _ h => h) ⟨rC.drew, rD.drew⟩ ?_
                      repeat (refine plan_take _ rfl ?_; (first | (refine wpQuiet_valueG (o := ⟨some 102, _, _, _, _, _⟩) rfl _ (by intro _ h; exact exec_load16 _ _ rfl _ rfl (VA (j + 1)) HLA2.out h.1.cells) (wpQuiet_nil ?_); simp only [Act.put, List.setIfInBounds_toArray, List.set_cons_zero, List.set_cons_succ]) | (refine wpQuiet_valueG (o := ⟨some 103, _, _, _, _, _⟩) rfl _ (by intro _ h; exact exec_load16 _ _ rfl _ rfl (VB (j + 1)) HLB2.out h.2.cells) (wpQuiet_nil ?_); simp only [Act.put, List.setIfInBounds_toArray, List.set_cons_zero, List.set_cons_succ])))
                      have hzw := hbj2.drew.size
                      have zlc := hbc2.size
                      refine plan_one _ rfl fun K hK => ?_
                      refine step_store_all rfl _ _ _ rfl gA rfl _ _ rA2.drew (bvs (VA (j + 1))) rfl (bvs_one _) (by rw [bvs_length, bvs_length, HLA1.out, HLA2.out]) (b16_size _ HLA2.out) ?_
                      intro ws1 rA3 kA3
                      have rB3 := rB2.drew.kept kA3 (by simp; omega)
                      have rC3 := rC.drew.kept kA3 (by simp; omega)
                      have rD3 := rD.drew.kept kA3 (by simp; omega)
                      refine hK _ _ ⟨rC3, rD3⟩ ?_
                      clear hK K
                      simp only [Act.put]
                      refine plan_one _ rfl fun K hK => ?_
                      refine step_store_all rfl _ _ _ rfl gB rfl _ _ rB3 (bvs (VB (j + 1))) rfl (bvs_one _) (by rw [bvs_length, bvs_length, HLB1.out, HLB2.out]) (b16_size _ HLB2.out) ?_
                      intro ws2 rB4 kB4
                      have rA4 := rA3.kept kB4 (by simp; omega)
                      have rC4 := rC3.kept kB4 (by simp; omega)
                      have rD4 := rD3.kept kB4 (by simp; omega)
                      have hbs1 := below_kept hbj2.drew kA3 hzw (by rintro k hk; cases hk; exact hzA)
                      have hbs2 := below_kept hbs1 kB4 hbs1.size (by rintro k hk; cases hk; exact hzB)
                      refine hK _ _ ⟨rC4, rD4⟩ ?_
                      clear hK K
                      simp only [Act.put]
                      refine plan_done ?_
                      go_wp2_with fail
                      go_roundg (gk - 1)
                      case measure => omega
                      case rel => exact ⟨j + 1, by go_num, by omega, by omega, rA4, rB4, HIJ1, hbs2⟩
                    | false =>
                      cases hcd2 : (VA (j + 1) == VB (j + 1)) with
                      | true =>
                        go_wp2_with (first
                          | (refine wpList_valueG (o := ⟨some 93, _, _, _, _, _⟩) rfl _ (by exact exec_load16 _ _ rfl _ rfl (VA j) HLA1.out rA2.cells) ?_)
                          | (refine wpList_valueG (o := ⟨some 94, _, _, _, _, _⟩) rfl _ (by exact exec_load16 _ _ rfl _ rfl (VB j) HLB1.out rB2.cells) ?_)
                          | (refine wpList_valueG (o := ⟨some 95, _, _, _, _, _⟩) rfl _ (by exact exec_neq16 _ _ _ rfl (VA j) (VB j) HLA1.out HLB1.out rfl rfl) ?_; simp only [hab])
                          | (refine wpList_valueG (o := ⟨some 97, _, _, _, _, _⟩) rfl _ (by exact exec_load16 _ _ rfl _ rfl (VA (j + 1)) HLA2.out rC.cells) ?_)
                          | (refine wpList_valueG (o := ⟨some 98, _, _, _, _, _⟩) rfl _ (by exact exec_load16 _ _ rfl _ rfl (VB (j + 1)) HLB2.out rD.cells) ?_)
                          | (refine wpList_valueG (o := ⟨some 99, _, _, _, _, _⟩) rfl _ (by exact exec_eql16 _ _ _ rfl (VA (j + 1)) (VB (j + 1)) HLA2.out HLB2.out rfl rfl) ?_; simp only [hcd2]))
                        refine (san4_any _ (hCo.on B2)).mono ?_
                        rintro e wz ⟨rfl, hbz⟩
                        go_wp2_with fail
                        go_ret
                        exact ⟨rfl, B2.trans (hbz.mono B2.size)⟩
                      | false =>
                        have HIJ1 : Hid (VA (j + 1) = VB (j + 1) → da = db) := fun h => by rw [h] at hcd2; simp at hcd2
                        go_wp2_with (first
                          | (refine wpList_valueG (o := ⟨some 93, _, _, _, _, _⟩) rfl _ (by exact exec_load16 _ _ rfl _ rfl (VA j) HLA1.out rA2.cells) ?_)
                          | (refine wpList_valueG (o := ⟨some 94, _, _, _, _, _⟩) rfl _ (by exact exec_load16 _ _ rfl _ rfl (VB j) HLB1.out rB2.cells) ?_)
                          | (refine wpList_valueG (o := ⟨some 95, _, _, _, _, _⟩) rfl _ (by exact exec_neq16 _ _ _ rfl (VA j) (VB j) HLA1.out HLB1.out rfl rfl) ?_; simp only [hab])
                          | (refine wpList_valueG (o := ⟨some 97, _, _, _, _, _⟩) rfl _ (by exact exec_load16 _ _ rfl _ rfl (VA (j + 1)) HLA2.out rC.cells) ?_)
                          | (refine wpList_valueG (o := ⟨some 98, _, _, _, _, _⟩) rfl _ (by exact exec_load16 _ _ rfl _ rfl (VB (j + 1)) HLB2.out rD.cells) ?_)
                          | (refine wpList_valueG (o := ⟨some 99, _, _, _, _, _⟩) rfl _ (by exact exec_eql16 _ _ _ rfl (VA (j + 1)) (VB (j + 1)) HLA2.out HLB2.out rfl rfl) ?_; simp only [hcd2]))
                        refine wp_region_plan (fun w' => Row w' gC 23 (bvs (VA (j + 1))) ∧ Row w' gD 23 (bvs (VB (j + 1)))) (.take 0 <| .take 1 <| .one 2 <| .one 3 <| .done) (by kernel_rfl) (by kernel_rfl) (by kernel_rfl) (fun _ _ _ _ _ h => h) ⟨rC.drew, rD.drew⟩ ?_
                        repeat (refine plan_take _ rfl ?_; (first | (refine wpQuiet_valueG (o := ⟨some 102, _, _, _, _, _⟩) rfl _ (by intro _ h; exact exec_load16 _ _ rfl _ rfl (VA (j + 1)) HLA2.out h.1.cells) (wpQuiet_nil ?_); simp only [Act.put, List.setIfInBounds_toArray, List.set_cons_zero, List.set_cons_succ]) | (refine wpQuiet_valueG (o := ⟨some 103, _, _, _, _, _⟩) rfl _ (by intro _ h; exact exec_load16 _ _ rfl _ rfl (VB (j + 1)) HLB2.out h.2.cells) (wpQuiet_nil ?_); simp only [Act.put, List.setIfInBounds_toArray, List.set_cons_zero, List.set_cons_succ])))
                        have hzw := hbj2.drew.size
                        have zlc := hbc2.size
                        refine plan_one _ rfl fun K hK => ?_
                        refine step_store_all rfl _ _ _ rfl gA rfl _ _ rA2.drew (bvs (VA (j + 1))) rfl (bvs_one _) (by rw [bvs_length, bvs_length, HLA1.out, HLA2.out]) (b16_size _ HLA2.out) ?_
                        intro ws1 rA3 kA3
                        have rB3 := rB2.drew.kept kA3 (by simp; omega)
                        have rC3 := rC.drew.kept kA3 (by simp; omega)
                        have rD3 := rD.drew.kept kA3 (by simp; omega)
                        refine hK _ _ ⟨rC3, rD3⟩ ?_
                        clear hK K
                        simp only [Act.put]
                        refine plan_one _ rfl fun K hK => ?_
                        refine step_store_all rfl _ _ _ rfl gB rfl _ _ rB3 (bvs (VB (j + 1))) rfl (bvs_one _) (by rw [bvs_length, bvs_length, HLB1.out, HLB2.out]) (b16_size _ HLB2.out) ?_
                        intro ws2 rB4 kB4
                        have rA4 := rA3.kept kB4 (by simp; omega)
                        have rC4 := rC3.kept kB4 (by simp; omega)
                        have rD4 := rD3.kept kB4 (by simp; omega)
                        have hbs1 := below_kept hbj2.drew kA3 hzw (by rintro k hk; cases hk; exact hzA)
                        have hbs2 := below_kept hbs1 kB4 hbs1.size (by rintro k hk; cases hk; exact hzB)
                        refine hK _ _ ⟨rC4, rD4⟩ ?_
                        clear hK K
                        simp only [Act.put]
                        refine plan_done ?_
                        go_wp2_with fail
                        go_roundg (gk - 1)
                        case measure => omega
                        case rel => exact ⟨j + 1, by go_num, by omega, by omega, rA4, rB4, HIJ1, hbs2⟩
                · obtain rfl : j = nn := by omega
                  have of3 := own_below of0 hbj
                  have og3 := own_below og0 hbj
                  have HIK : Hid (FF (k + 1) = GG (k + 1) → ∀ i, i < k + 1 → ds.getD i [] = SG.getD i []) := fun h i hi => by
                    rw [HF1.out, HG1.out] at h
                    have hl : (FF k).length = (GG k).length := by rw [HFk.out, HGk.out]
                    obtain ⟨h1, h2⟩ := List.append_inj h hl
                    by_cases hik : i = k
                    · subst hik
                      rw [HX.out, HY.out]
                      exact HIJ.out h2
                    · exact HIF.out h1 i (by omega)
                  clear HIF HIJ HX HY
                  generalize VA j = V at *
                  generalize VB j = U at *
                  have hLV := HLA1.out
                  have hLU := HLB1.out
                  go_wp2_with fail
                  refine wp_region_plan (fun _ => True) (.take 0 <| .take 1 <| .take 3 <| .take 4 <| .one 2 <| .one 5 <| .take 6 <| .take 7 <| .done) (by kernel_rfl) (by kernel_rfl) (by kernel_rfl) (fun _ _ _ _ _ h => h) trivial ?_
                  repeat (refine plan_take _ rfl ?_; go_big_quiet_step ((intros; rfl)); refine wpQuiet_nil ?_)
                  refine plan_one _ rfl fun K hK => ?_
                  refine step_append_two rfl (.tmp 105) (.tmp 106) _ _ rfl wb.heap.size 5 i0 _ 1 1 Tryd.underlying41 hi0 hz0 hz1 hz2 rfl _ _ _ rfl (show wr.drew.ownsRow _ _ _ _ _ _ from of3) 16 _ (Src.ofReads _ Tryd.underlying41 (rAj.drew.reads16 HLA1.out) (bvs_one _)) (by unfold maxLen; omega) (by omega) hBB.size _ _ _ (show wr.drew.ownsRow _ _ _ _ _ _ from og3) hap.symm ?_
                  intro vF wF oF kF bF oG apF
                  have rBF := rBj.drew.kept kF (own_new of0 hzB)
                  refine hK _ _ trivial ?_
                  clear hK K
                  simp only [Act.put, List.setIfInBounds_toArray, List.set_cons_zero, List.set_cons_succ]
                  have hBF : Below wb.heap.size wb wF := hBB.drew.trans bF
                  refine plan_one _ rfl fun K hK => ?_
                  refine step_append_two rfl (.tmp 108) (.tmp 109) _ _ rfl wb.heap.size 5 i0 _ 1 1 Tryd.underlying41 hi0 hz0 hz1 hz2 rfl _ _ _ rfl oG 16 _ (Src.ofReads _ Tryd.underlying41 (rBF.reads16 HLB1.out) (bvs_one _)) (by unfold maxLen; omega) (by omega) hBF.size _ _ _ oF apF.symm ?_
                  intro vG wG oG2 _ bG oF2 apG
                  refine hK _ _ trivial ?_
                  clear hK K
                  simp only [Act.put, List.setIfInBounds_toArray, List.set_cons_zero, List.set_cons_succ]
                  repeat (refine plan_take _ rfl ?_; go_big_quiet_step ((intros; rfl)); refine wpQuiet_nil ?_)
                  refine plan_done ?_
                  go_wp2_with fail
                  go_roundg (g1 - 1)
                  case measure => omega
                  case rel =>
                    refine ⟨k + 1, by go_num, by omega, by omega, ?_, ?_, apG, HIK, hBF.trans bG⟩
                    · rw [HF1.out, List.length_append, hLV, bvs_append]; exact oF2
                    · rw [HG1.out, List.length_append, hLU, bvs_append]; exact oG2
          · obtain rfl : k = 68 := by omega
            have HFG : Hid (FF 68 ≠ GG 68) := fun h => (HINJ (HIF.out h)).out
            have HF68 := HFL 68 (Nat.le_refl _)
            have HG68 := HGL 68 (Nat.le_refl _)
            have hl1 : (FF 68).length ≤ 2000 := by rw [HF68.out]; omega
            have hl2 : (GG 68).length ≤ 2000 := by rw [HG68.out]; omega
            have Br := Bb.trans (hbr.mono Bb.size)
            clear HIF HINJ HFL HGL HFS HGS
            generalize hF : FF 68 = F at *
            generalize hG : GG 68 = G at *
            clear hF hG
            go_wp2_with fail
            refine (san4_any _ (hCo.on Br)).mono ?_
            rintro e wz ⟨rfl, hbz⟩
            obtain ⟨Af, cf, rfl, hcf, _, rf⟩ := own_form (own_below of0 hbz)
            obtain ⟨Ag, cg, rfl, hcg, _, rg⟩ := own_form (own_below og0 hbz)
            have Bz := Br.trans (hbz.mono Br.size)
            have hfg : (F == G) = false := by simp only [beq_eq_false_iff_ne, ne_eq]; exact HFG.out
            clear of0 og0 hap
            go_wp2_with (first
              | (refine wpList_valueG (o := ⟨some 115, _, _, _, _, _⟩) rfl _ (by exact exec_string_of _ _ _ _ _ rfl Tryd.underlying41 Tryd.underlying5 Tryd.underlying9 rfl rf) ?_)
              | (refine wpList_valueG (o := ⟨some 117, _, _, _, _, _⟩) rfl _ (by exact exec_string_of _ _ _ _ _ rfl Tryd.underlying41 Tryd.underlying5 Tryd.underlying9 rfl rg) ?_))
            have hpf := readsP_one wz 41 Af F.length cf F rf hcf
            have hbf : Below wz.heap.size wz (wz.alloc (.cells #[.slice Af F.length cf] 41)) := (Below.refl _ _).alloc (Nat.le_refl _) _
            have Bf := Bz.trans (hbf.mono Bz.size)
            refine (digest_big 4 _ _ _ _ _ (hCo.on Bf) hpf (by omega) (parts_one_le _ 2000 hl1)).mono ?_
            rintro e wf ⟨rfl, hbf2⟩
            rw [digestB_one, ← HK2.out]
            have rg2 := (rg.on hbf).on hbf2
            have Bf2 := Bf.trans (hbf2.mono Bf.size)
            go_wp2_with fail
            have hpg := readsP_one wf 41 Ag G.length cg G rg2 hcg
            have hbg : Below wf.heap.size wf (wf.alloc (.cells #[.slice Ag G.length cg] 41)) := (Below.refl _ _).alloc (Nat.le_refl _) _
            have Bg := Bf2.trans (hbg.mono Bf2.size)
            refine (digest_big 4 _ _ _ _ _ (hCo.on Bg) hpg (by omega) (parts_one_le _ 2000 hl2)).mono ?_
            rintro e wg ⟨rfl, hbg2⟩
            rw [digestB_one, ← HKH.out, ← HPK.out]
            go_wp2_with (refine wpList_valueG (o := ⟨some 127, _, _, _, _, _⟩) rfl _ (by exact exec_eql16 _ _ _ rfl RD RD HRL.out HRL.out rfl rfl) ?_)
            go_ret
            exact ⟨rfl, Bg.trans (hbg2.mono Bg.size)⟩
  · obtain rfl : RE = 9 := (HE9 h68).out
    have hne : ((n : Int) == 68) = false := by simp only [beq_eq_false_iff_ne, ne_eq]; omega
    have cdd : ReadsD w7.drew A n ds := cd7
    have gad : ReadsD w7.drew Ga 68 SG := ga7
    have lad : Reads w7.drew w7.drew.heap.size 1 Aa 68 (nvs DA) := la7
    go_wp2_with fail
    refine wp_region_plan (fun w' => Row w' w.heap.size 23 (bvs seed) ∧ Row w' w4.heap.size 23 (bvs RD)) (.take 0 <| .take 1 <| .take 2 <| .take 3 <| .take 4 <| .one 5 <| .take 6 <| .take 7 <| .take 8 <| .take 9 <| .take 10 <| .one 11 <| .take 12 <| .take 13 <| .done) (by kernel_rfl) (by kernel_rfl) (by kernel_rfl) (fun _ _ _ _ _ h => h) ⟨rs7.drew, rk7.drew⟩ ?_
    repeat (refine plan_take _ rfl ?_; go_big_quiet_step ((intros; rfl)); refine wpQuiet_nil ?_)
    refine plan_one _ rfl fun K hK => ?_
    go_simp
    refine hK _ _ ⟨rs7.drew, rk7.drew⟩ ?_
    clear hK K
    repeat (refine plan_take _ rfl ?_; go_big_quiet_step ((intros; rfl)); refine wpQuiet_nil ?_)
    refine plan_one _ rfl fun K hK => ?_
    go_simp
    refine hK _ _ ⟨rs7.drew, rk7.drew⟩ ?_
    clear hK K
    repeat (refine plan_take _ rfl ?_; go_big_quiet_step ((intros; rfl)); refine wpQuiet_nil ?_)
    refine plan_done ?_
    go_wp2_with fail
    refine (san4_any _ (hCo.on B7.drew)).mono ?_
    rintro e wz ⟨rfl, hbz⟩
    go_wp2_with fail
    go_ret
    exact ⟨by first | rfl | simp, B7.drew.trans (hbz.mono B7.drew.size)⟩
end Go.Proofs.YtojdondipkbjhaaDoor
