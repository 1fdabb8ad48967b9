/-
  MerkleSound's walk. Condition: the table of constants as laid.
-/
import Derived.Test.YtpmkjnmddglckaaDoorSan3
import Derived.Test.YtpmkjnmddglckaaDoorRColl
namespace Go.Proofs.YtpmkjnmddglckaaDoor
open Go.RowKit

theorem mVerify_sound {leaf d : List UInt8} {p ds : List (List UInt8)} {k : Nat} (hd : ds[k]? = some d) (hv : mVerify (root ds) leaf p ds.length k = true) (hne : d ≠ leaf) : collL leaf p ds k = true := by
  unfold mVerify at hv
  rw [Bool.and_eq_true, beq_iff_eq] at hv
  exact sound leaf p.reverse ds k d hd (Prod.ext hv.2 hv.1) hne

set_option maxRecDepth 100000 in
set_option maxHeartbeats 2000000 in
theorem sound_early (A B : Option Addr) (n c q e : Nat) (leaf : List UInt8) (z : Int) (w : World) (hK : Consts w) (hs : 40 < n ∨ n = 0 ∨ 10 < q) :
    Calls Tryd.prog 6 #[.slice A n c, .int .u8 z, .agg (bvs leaf).toArray, .slice B q e] w fun e w' => e = .returned (.bool true) ∧ Below w.heap.size w w' := by
  by_cases h1 : 40 < n
  · go_enter Tryd.func6, Tryd.ntmps6
    go_wp2_with (with_reducible refine wpList_box_row (o := ⟨some 6, _, _, _, _, _⟩) rfl _ _ rfl (bvs leaf) rfl ?_; intro wa hra hsa hga)
    have hb : Below w.heap.size w wa := grown_below hga (Nat.le_refl _) (by simp)
    refine (sanity_any _ (hK.on hb)).mono ?_
    rintro e w1 ⟨rfl, hb1⟩
    go_wp2_with fail
    go_ret
    exact ⟨rfl, hb.trans (hb1.mono hb.size)⟩
  by_cases h2 : n = 0
  · subst h2
    go_enter Tryd.func6, Tryd.ntmps6
    go_wp2_with (with_reducible refine wpList_box_row (o := ⟨some 6, _, _, _, _, _⟩) rfl _ _ rfl (bvs leaf) rfl ?_; intro wa hra hsa hga)
    have hb : Below w.heap.size w wa := grown_below hga (Nat.le_refl _) (by simp)
    refine (sanity_any _ (hK.on hb)).mono ?_
    rintro e w1 ⟨rfl, hb1⟩
    go_wp2_with fail
    go_ret
    exact ⟨rfl, hb.trans (hb1.mono hb.size)⟩
  have h3 : 10 < q := by omega
  have hnz : ((n : Int) == 0) = false := by simp only [beq_eq_false_iff_ne, ne_eq]; omega
  clear hs h2
  go_enter Tryd.func6, Tryd.ntmps6
  go_wp2_with (with_reducible refine wpList_box_row (o := ⟨some 6, _, _, _, _, _⟩) rfl _ _ rfl (bvs leaf) rfl ?_; intro wa hra hsa hga)
  have hb : Below w.heap.size w wa := grown_below hga (Nat.le_refl _) (by simp)
  refine (sanity_any _ (hK.on hb)).mono ?_
  rintro e w1 ⟨rfl, hb1⟩
  go_wp2_with fail
  go_ret
  exact ⟨rfl, hb.trans (hb1.mono hb.size)⟩

set_option maxRecDepth 100000 in
set_option maxHeartbeats 4000000 in
theorem walkSound (A B : Option Addr) (n c q e : Nat) (ds p : List (List UInt8)) (leaf : List UInt8) (hl : leaf.length = 16) (z : Int) (hz0 : 0 ≤ z) (hz1 : z ≤ 255) (w : World) (hK : Consts w) (hr : ReadsD w A n ds) (hc : n ≤ c) (hp : ReadsD w B q p) (he : q ≤ e) (hn : n ≤ 140737488351232) (hq : q ≤ 140737488351232) :
    Calls Tryd.prog 6 #[.slice A n c, .int .u8 z, .agg (bvs leaf).toArray, .slice B q e] w fun e w' => e = .returned (.bool true) ∧ Below w.heap.size w w' := by
  by_cases h40 : 40 < n ∨ n = 0 ∨ 10 < q
  · exact sound_early A B n c q e leaf z w hK h40
  obtain ⟨zn, rfl⟩ : ∃ zn : Nat, z = (zn : Int) := ⟨z.toNat, by omega⟩
  obtain ⟨k, hk⟩ : ∃ k, k = zn % n := ⟨_, rfl⟩
  have ek : (zn : Int) % (n : Int) = (k : Int) := by rw [hk]; omega
  have hkn : k < n := by rw [hk]; exact Nat.mod_lt _ (by omega)
  have hn40 : n ≤ 40 := by omega
  have hn0 : 0 < n := by omega
  have hq10 : ¬ 10 < q := by omega
  clear hk h40
  have hnz : ((n : Int) == 0) = false := by simp only [beq_eq_false_iff_ne, ne_eq]; omega
  have h40 : ¬ 40 < n := by omega
  obtain ⟨ad, d, rfl, hab, hd, hd16, hcl⟩ := hr.1.dig_at hr.2 hkn
  have HD := Lib.hid hd16
  have HL := Lib.hid hl
  have C0 : Hid (∀ j u, (bvs d)[j]? = some u → w.cell? ((ad.add (k * 16)).add j) = some u) := fun j u hu => by rw [add_of_add]; exact hcl j u hu
  clear hcl
  have HRL := Lib.hid (root_len ds)
  have HSo := Lib.hid (fun h1 h2 => mVerify_sound (leaf := leaf) (p := p) hd (by rw [hr.len]; exact h1) h2)
  have HR := fun W hKW hW => Lib.hid (root_any (some ad) c n ds W hKW hW hc (by omega))
  have HV := fun W hKW hW => Lib.hid (verify_any B e q n k (root ds) leaf p W hKW HRL.out hl hW he (by omega) (by omega) hkn)
  have HCo := fun W h1 h2 => Lib.hid (refCollides_any 1000 (some ad) B c e n q k leaf ds p W (by omega) h1 h2 hc he (by omega) (by omega) hkn hl)
  generalize mVerify (root ds) leaf p n k = v at *
  generalize root ds = R at *
  generalize collL leaf p ds k = cv at *
  clear hd16 hd hl
  cases v with
  | false =>
    go_enter Tryd.func6, Tryd.ntmps6
    go_wp2_with (with_reducible refine wpList_box_row (o := ⟨some 6, _, _, _, _, _⟩) rfl _ _ rfl (bvs leaf) rfl ?_; intro wa hra hsa hga)
    have hb : Below w.heap.size w wa := grown_below hga (Nat.le_refl _) (by simp)
    refine (sanity_any _ (hK.on hb)).mono ?_
    rintro e w1 ⟨rfl, hb1⟩
    have hb1' := hb.trans (hb1.mono hb.size)
    have ra := hra.on hb1
    go_wp2_with fail
    have hK0 := hK
    refine wp_region_plan (fun w' => Row w' w.heap.size 28 (bvs leaf)) (.take 0 <| .take 2 <| .take 4 <| .take 5 <| .take 6 <| .two 1 (.one 3 <| .one 7 <| .take 8 <| .done) 3 (.one 1 <| .one 7 <| .take 8 <| .done)) (by kernel_rfl) (by kernel_rfl) (by kernel_rfl) (fun _ _ _ _ _ h => h) ra.drew ?_
    repeat (refine plan_take _ rfl ?_; (first | (refine wpQuiet_valueG (o := ⟨some 36, _, _, _, _, _⟩) rfl _ (by intro _ h; exact exec_load16 _ _ rfl _ rfl leaf HL.out h.cells) (wpQuiet_nil ?_); simp only [Act.put, List.setIfInBounds_toArray, List.set_cons_zero, List.set_cons_succ]) | (go_big_quiet_step ((intros; rfl)); refine wpQuiet_nil ?_)))
    refine plan_two ?_ ?_
    · refine step_at _ rfl fun K hK => ?_
      go_simp
      refine ((HR _ (hK0.on hb1'.drew) (hr.on hb1'.drew)).out).mono ?_
      rintro e wx1 ⟨rfl, hx1⟩
      have Bx2 := hb1'.drew.trans (hx1.mono hb1'.drew.size)
      have rax2 := ra.drew.on hx1
      have Rx2 := (hr.on hb1'.drew).on hx1
      have Px2 := (hp.on hb1'.drew).on hx1
      have Kx2 := (hK0.on hb1'.drew).on hx1
      refine hK _ _ rax2 ?_
      clear hK K
      refine plan_one _ rfl fun K hK => ?_
      go_simp
      refine hK _ _ rax2 ?_
      clear hK K
      refine plan_one _ rfl fun K hK => ?_
      go_simp
      refine ((HV _ Kx2 Px2).out).mono ?_
      rintro e wx3 ⟨rfl, hx3⟩
      have Bx4 := Bx2.trans (hx3.mono Bx2.size)
      have rax4 := rax2.on hx3
      have Rx4 := Rx2.on hx3
      have Px4 := Px2.on hx3
      have Kx4 := Kx2.on hx3
      refine hK _ _ rax4 ?_
      clear hK K
      repeat (refine plan_take _ rfl ?_; (first | (refine wpQuiet_valueG (o := ⟨some 36, _, _, _, _, _⟩) rfl _ (by intro _ h; exact exec_load16 _ _ rfl _ rfl leaf HL.out h.cells) (wpQuiet_nil ?_); simp only [Act.put, List.setIfInBounds_toArray, List.set_cons_zero, List.set_cons_succ]) | (go_big_quiet_step ((intros; rfl)); refine wpQuiet_nil ?_)))
      refine plan_done ?_
      go_wp2_with fail
      go_ret
      exact ⟨rfl, Bx4⟩
    · refine step_at _ rfl fun K hK => ?_
      go_simp
      refine hK _ _ ra.drew ?_
      clear hK K
      refine plan_one _ rfl fun K hK => ?_
      go_simp
      refine ((HR _ (hK0.on hb1'.drew) (hr.on hb1'.drew)).out).mono ?_
      rintro e wx5 ⟨rfl, hx5⟩
      have Bx6 := hb1'.drew.trans (hx5.mono hb1'.drew.size)
      have rax6 := ra.drew.on hx5
      have Rx6 := (hr.on hb1'.drew).on hx5
      have Px6 := (hp.on hb1'.drew).on hx5
      have Kx6 := (hK0.on hb1'.drew).on hx5
      refine hK _ _ rax6 ?_
      clear hK K
      refine plan_one _ rfl fun K hK => ?_
      go_simp
      refine ((HV _ Kx6 Px6).out).mono ?_
      rintro e wx7 ⟨rfl, hx7⟩
      have Bx8 := Bx6.trans (hx7.mono Bx6.size)
      have rax8 := rax6.on hx7
      have Rx8 := Rx6.on hx7
      have Px8 := Px6.on hx7
      have Kx8 := Kx6.on hx7
      refine hK _ _ rax8 ?_
      clear hK K
      repeat (refine plan_take _ rfl ?_; (first | (refine wpQuiet_valueG (o := ⟨some 36, _, _, _, _, _⟩) rfl _ (by intro _ h; exact exec_load16 _ _ rfl _ rfl leaf HL.out h.cells) (wpQuiet_nil ?_); simp only [Act.put, List.setIfInBounds_toArray, List.set_cons_zero, List.set_cons_succ]) | (go_big_quiet_step ((intros; rfl)); refine wpQuiet_nil ?_)))
      refine plan_done ?_
      go_wp2_with fail
      go_ret
      exact ⟨rfl, Bx8⟩
  | true =>
    go_enter Tryd.func6, Tryd.ntmps6
    go_wp2_with (with_reducible refine wpList_box_row (o := ⟨some 6, _, _, _, _, _⟩) rfl _ _ rfl (bvs leaf) rfl ?_; intro wa hra hsa hga)
    have hb : Below w.heap.size w wa := grown_below hga (Nat.le_refl _) (by simp)
    refine (sanity_any _ (hK.on hb)).mono ?_
    rintro e w1 ⟨rfl, hb1⟩
    have hb1' := hb.trans (hb1.mono hb.size)
    have ra := hra.on hb1
    go_wp2_with fail
    simp only [ek]
    go_cut [39] (fun s39 wc => s39 = .bool false ∧ Row wc w.heap.size 28 (bvs leaf) ∧ Below w.heap.size w wc)
    case first =>
      have hK0 := hK
      refine wp_region_plan (fun w' => Row w' w.heap.size 28 (bvs leaf)) (.take 0 <| .take 2 <| .take 4 <| .take 5 <| .take 6 <| .two 1 (.one 3 <| .one 7 <| .take 8 <| .done) 3 (.one 1 <| .one 7 <| .take 8 <| .done)) (by kernel_rfl) (by kernel_rfl) (by kernel_rfl) (fun _ _ _ _ _ h => h) ra.drew ?_
      repeat (refine plan_take _ rfl ?_; (first | (refine wpQuiet_valueG (o := ⟨some 36, _, _, _, _, _⟩) rfl _ (by intro _ h; exact exec_load16 _ _ rfl _ rfl leaf HL.out h.cells) (wpQuiet_nil ?_); simp only [Act.put, List.setIfInBounds_toArray, List.set_cons_zero, List.set_cons_succ]) | (go_big_quiet_step ((intros; rfl)); refine wpQuiet_nil ?_)))
      refine plan_two ?_ ?_
      · refine step_at _ rfl fun K hK => ?_
        go_simp
        refine ((HR _ (hK0.on hb1'.drew) (hr.on hb1'.drew)).out).mono ?_
        rintro e wx9 ⟨rfl, hx9⟩
        have Bx10 := hb1'.drew.trans (hx9.mono hb1'.drew.size)
        have rax10 := ra.drew.on hx9
        have Rx10 := (hr.on hb1'.drew).on hx9
        have Px10 := (hp.on hb1'.drew).on hx9
        have Kx10 := (hK0.on hb1'.drew).on hx9
        refine hK _ _ rax10 ?_
        clear hK K
        refine plan_one _ rfl fun K hK => ?_
        go_simp
        refine hK _ _ rax10 ?_
        clear hK K
        refine plan_one _ rfl fun K hK => ?_
        go_simp
        refine ((HV _ Kx10 Px10).out).mono ?_
        rintro e wx11 ⟨rfl, hx11⟩
        have Bx12 := Bx10.trans (hx11.mono Bx10.size)
        have rax12 := rax10.on hx11
        have Rx12 := Rx10.on hx11
        have Px12 := Px10.on hx11
        have Kx12 := Kx10.on hx11
        refine hK _ _ rax12 ?_
        clear hK K
        repeat (refine plan_take _ rfl ?_; (first | (refine wpQuiet_valueG (o := ⟨some 36, _, _, _, _, _⟩) rfl _ (by intro _ h; exact exec_load16 _ _ rfl _ rfl leaf HL.out h.cells) (wpQuiet_nil ?_); simp only [Act.put, List.setIfInBounds_toArray, List.set_cons_zero, List.set_cons_succ]) | (go_big_quiet_step ((intros; rfl)); refine wpQuiet_nil ?_)))
        refine plan_done ?_
        go_wp2_with fail
        go_meet
        exact ⟨rfl, rax12, Bx12⟩
      · refine step_at _ rfl fun K hK => ?_
        go_simp
        refine hK _ _ ra.drew ?_
        clear hK K
        refine plan_one _ rfl fun K hK => ?_
        go_simp
        refine ((HR _ (hK0.on hb1'.drew) (hr.on hb1'.drew)).out).mono ?_
        rintro e wx13 ⟨rfl, hx13⟩
        have Bx14 := hb1'.drew.trans (hx13.mono hb1'.drew.size)
        have rax14 := ra.drew.on hx13
        have Rx14 := (hr.on hb1'.drew).on hx13
        have Px14 := (hp.on hb1'.drew).on hx13
        have Kx14 := (hK0.on hb1'.drew).on hx13
        refine hK _ _ rax14 ?_
        clear hK K
        refine plan_one _ rfl fun K hK => ?_
        go_simp
        refine ((HV _ Kx14 Px14).out).mono ?_
        rintro e wx15 ⟨rfl, hx15⟩
        have Bx16 := Bx14.trans (hx15.mono Bx14.size)
        have rax16 := rax14.on hx15
        have Rx16 := Rx14.on hx15
        have Px16 := Px14.on hx15
        have Kx16 := Kx14.on hx15
        refine hK _ _ rax16 ?_
        clear hK K
        repeat (refine plan_take _ rfl ?_; (first | (refine wpQuiet_valueG (o := ⟨some 36, _, _, _, _, _⟩) rfl _ (by intro _ h; exact exec_load16 _ _ rfl _ rfl leaf HL.out h.cells) (wpQuiet_nil ?_); simp only [Act.put, List.setIfInBounds_toArray, List.set_cons_zero, List.set_cons_succ]) | (go_big_quiet_step ((intros; rfl)); refine wpQuiet_nil ?_)))
        refine plan_done ?_
        go_wp2_with fail
        go_meet
        exact ⟨rfl, rax16, Bx16⟩
    case rest =>
      obtain ⟨rfl, rb, hbc⟩ := hcut
      cases hq : (leaf == d) with
      | true =>
        go_wp2_with fail
        have C1 : ∀ j u, (bvs d)[j]? = some u → wc.drew.cell? ((ad.add (k * 16)).add j) = some u := fun j u hu => (hbc.cell (by rw [block_of_add, block_of_add]; exact hab)).trans (C0.out j u hu)
        refine wp_region_plan (fun w' => Row w' w.heap.size 28 (bvs leaf) ∧ ∀ j u, (bvs d)[j]? = some u → w'.cell? ((ad.add (k * 16)).add j) = some u) (.take 0 <| .take 1 <| .take 2 <| .take 3 <| .take 4 <| .take 5 <| .take 6 <| .take 7 <| .take 8 <| .take 9 <| .take 10 <| .take 11 <| .take 12 <| .one 13 <| .take 14 <| .take 15 <| .take 16 <| .done) (by kernel_rfl) (by kernel_rfl) (by kernel_rfl) (fun _ _ _ _ _ h => h) ⟨rb.drew, C1⟩ ?_
        repeat (refine plan_take _ rfl ?_; (first | (refine wpQuiet_valueG (o := ⟨some 43, _, _, _, _, _⟩) rfl _ (by intro _ h; exact exec_load16 _ _ rfl _ rfl leaf HL.out h.1.cells) (wpQuiet_nil ?_); simp only [Act.put, List.setIfInBounds_toArray, List.set_cons_zero, List.set_cons_succ]) | (refine wpQuiet_valueG (o := ⟨some 47, _, _, _, _, _⟩) rfl _ (by intro _ h; exact exec_load16 _ _ rfl _ rfl d HD.out h.2) (wpQuiet_nil ?_); simp only [Act.put, List.setIfInBounds_toArray, List.set_cons_zero, List.set_cons_succ]) | (refine wpQuiet_valueG (o := ⟨some 48, _, _, _, _, _⟩) rfl _ (by intro _ h; exact exec_eql16 _ _ _ rfl leaf d HL.out HD.out rfl rfl) (wpQuiet_nil ?_); simp only [hq, Act.put, List.setIfInBounds_toArray, List.set_cons_zero, List.set_cons_succ]) | (go_big_quiet_step ((intros; rfl)); refine wpQuiet_nil ?_)))
        refine plan_one _ rfl fun K hK => ?_
        go_simp
        refine hK _ _ ⟨rb.drew, C1⟩ ?_
        clear hK K
        repeat (refine plan_take _ rfl ?_; (first | (refine wpQuiet_valueG (o := ⟨some 43, _, _, _, _, _⟩) rfl _ (by intro _ h; exact exec_load16 _ _ rfl _ rfl leaf HL.out h.1.cells) (wpQuiet_nil ?_); simp only [Act.put, List.setIfInBounds_toArray, List.set_cons_zero, List.set_cons_succ]) | (refine wpQuiet_valueG (o := ⟨some 47, _, _, _, _, _⟩) rfl _ (by intro _ h; exact exec_load16 _ _ rfl _ rfl d HD.out h.2) (wpQuiet_nil ?_); simp only [Act.put, List.setIfInBounds_toArray, List.set_cons_zero, List.set_cons_succ]) | (refine wpQuiet_valueG (o := ⟨some 48, _, _, _, _, _⟩) rfl _ (by intro _ h; exact exec_eql16 _ _ _ rfl leaf d HL.out HD.out rfl rfl) (wpQuiet_nil ?_); simp only [hq, Act.put, List.setIfInBounds_toArray, List.set_cons_zero, List.set_cons_succ]) | (go_big_quiet_step ((intros; rfl)); refine wpQuiet_nil ?_)))
        refine plan_done ?_
        go_wp2_with fail
        go_ret
        exact ⟨rfl, hbc.drew⟩
      | false =>
        have hcv : cv = true := HSo.out (by trivial) (by simp only [beq_eq_false_iff_ne, ne_eq] at hq; exact fun h => hq h.symm)
        subst hcv
        go_wp2_with fail
        have C1 : ∀ j u, (bvs d)[j]? = some u → wc.drew.cell? ((ad.add (k * 16)).add j) = some u := fun j u hu => (hbc.cell (by rw [block_of_add, block_of_add]; exact hab)).trans (C0.out j u hu)
        refine wp_region_plan (fun w' => Row w' w.heap.size 28 (bvs leaf) ∧ ∀ j u, (bvs d)[j]? = some u → w'.cell? ((ad.add (k * 16)).add j) = some u) (.take 0 <| .take 1 <| .take 2 <| .take 3 <| .take 4 <| .take 5 <| .take 6 <| .take 7 <| .take 8 <| .take 9 <| .take 10 <| .take 11 <| .take 12 <| .one 13 <| .take 14 <| .take 15 <| .take 16 <| .done) (by kernel_rfl) (by kernel_rfl) (by kernel_rfl) (fun _ _ _ _ _ h => h) ⟨rb.drew, C1⟩ ?_
        repeat (refine plan_take _ rfl ?_; (first | (refine wpQuiet_valueG (o := ⟨some 43, _, _, _, _, _⟩) rfl _ (by intro _ h; exact exec_load16 _ _ rfl _ rfl leaf HL.out h.1.cells) (wpQuiet_nil ?_); simp only [Act.put, List.setIfInBounds_toArray, List.set_cons_zero, List.set_cons_succ]) | (refine wpQuiet_valueG (o := ⟨some 47, _, _, _, _, _⟩) rfl _ (by intro _ h; exact exec_load16 _ _ rfl _ rfl d HD.out h.2) (wpQuiet_nil ?_); simp only [Act.put, List.setIfInBounds_toArray, List.set_cons_zero, List.set_cons_succ]) | (refine wpQuiet_valueG (o := ⟨some 48, _, _, _, _, _⟩) rfl _ (by intro _ h; exact exec_eql16 _ _ _ rfl leaf d HL.out HD.out rfl rfl) (wpQuiet_nil ?_); simp only [hq, Act.put, List.setIfInBounds_toArray, List.set_cons_zero, List.set_cons_succ]) | (refine wpQuiet_valueG (o := ⟨some 52, _, _, _, _, _⟩) rfl _ (by intro _ h; exact exec_load16 _ _ rfl _ rfl leaf HL.out h.1.cells) (wpQuiet_nil ?_); simp only [Act.put, List.setIfInBounds_toArray, List.set_cons_zero, List.set_cons_succ]) | (go_big_quiet_step ((intros; rfl)); refine wpQuiet_nil ?_)))
        refine plan_one _ rfl fun K hK => ?_
        go_simp
        refine ((HCo _ (hr.on hbc.drew) (hp.on hbc.drew)).out).mono ?_
        rintro e wx17 ⟨rfl, hx17⟩
        have Bx18 := hbc.drew.trans (hx17.mono hbc.drew.size)
        have rax18 := rb.drew.on hx17
        have Rx18 := (hr.on hbc.drew).on hx17
        have Px18 := (hp.on hbc.drew).on hx17
        have Cx18 : ∀ j u, (bvs d)[j]? = some u → wx17.cell? ((ad.add (k * 16)).add j) = some u := fun j u hu => (Bx18.cell (by rw [block_of_add, block_of_add]; exact hab)).trans (C0.out j u hu)
        refine hK _ _ ⟨rax18, Cx18⟩ ?_
        clear hK K
        repeat (refine plan_take _ rfl ?_; (first | (refine wpQuiet_valueG (o := ⟨some 43, _, _, _, _, _⟩) rfl _ (by intro _ h; exact exec_load16 _ _ rfl _ rfl leaf HL.out h.1.cells) (wpQuiet_nil ?_); simp only [Act.put, List.setIfInBounds_toArray, List.set_cons_zero, List.set_cons_succ]) | (refine wpQuiet_valueG (o := ⟨some 47, _, _, _, _, _⟩) rfl _ (by intro _ h; exact exec_load16 _ _ rfl _ rfl d HD.out h.2) (wpQuiet_nil ?_); simp only [Act.put, List.setIfInBounds_toArray, List.set_cons_zero, List.set_cons_succ]) | (refine wpQuiet_valueG (o := ⟨some 48, _, _, _, _, _⟩) rfl _ (by intro _ h; exact exec_eql16 _ _ _ rfl leaf d HL.out HD.out rfl rfl) (wpQuiet_nil ?_); simp only [hq, Act.put, List.setIfInBounds_toArray, List.set_cons_zero, List.set_cons_succ]) | (refine wpQuiet_valueG (o := ⟨some 52, _, _, _, _, _⟩) rfl _ (by intro _ h; exact exec_load16 _ _ rfl _ rfl leaf HL.out h.1.cells) (wpQuiet_nil ?_); simp only [Act.put, List.setIfInBounds_toArray, List.set_cons_zero, List.set_cons_succ]) | (go_big_quiet_step ((intros; rfl)); refine wpQuiet_nil ?_)))
        refine plan_done ?_
        go_wp2_with fail
        go_ret
        exact ⟨rfl, Bx18⟩
end Go.Proofs.YtpmkjnmddglckaaDoor
