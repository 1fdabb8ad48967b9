/-
  MerkleComplete's walk. Condition: the table of constants as laid.
-/
import Derived.Test.YtpmkjnmddglckaaDoorSan3
namespace Go.Proofs.YtpmkjnmddglckaaDoor
open Go.RowKit

theorem mVerify_proof {ds : List (List UInt8)} {i : Nat} {d : List UInt8} (hd : ds[i]? = some d) : mVerify (root ds) d (mProof ds i) ds.length i = true := by
  unfold mVerify combL mProof
  rw [List.reverse_reverse, comb_prove ds.length ds i d (Nat.le_refl _) hd]
  simp
theorem mProof_le6 {ds : List (List UInt8)} {i : Nat} (h : ds.length ≤ 64) : (mProof ds i).length ≤ 6 := by
  unfold mProof
  rw [List.length_reverse, proveR_len ds.length ds i (Nat.le_refl _)]
  exact plen_le 6 _ i h

set_option maxRecDepth 100000 in
set_option maxHeartbeats 2000000 in
theorem walkComp (A : Option Addr) (n c : Nat) (ds : List (List UInt8)) (z : Int) (hz0 : 0 ≤ z) (hz1 : z ≤ 255) (w : World) (hK : Consts w) (hr : ReadsD w A n ds) (hc : n ≤ c) (hn : n ≤ 140737488351232) :
    Calls Tryd.prog 5 #[.slice A n c, .int .u8 z] w fun e w' => e = .returned (.bool true) ∧ Below w.heap.size w w' := by
  by_cases h40 : 40 < n ∨ n = 0
  · rcases h40 with h40 | h40
    · go_enter Tryd.func5, Tryd.ntmps5
      go_wp2_with fail
      refine (sanity_any _ hK).mono ?_
      rintro e w1 ⟨rfl, hb1⟩
      go_wp2_with fail
      go_ret
      exact ⟨rfl, hb1⟩
    · subst h40
      go_enter Tryd.func5, Tryd.ntmps5
      go_wp2_with fail
      refine (sanity_any _ hK).mono ?_
      rintro e w1 ⟨rfl, hb1⟩
      go_wp2_with fail
      go_ret
      exact ⟨rfl, hb1⟩
  obtain ⟨zn, rfl⟩ : ∃ zn : Nat, z = (zn : Int) := ⟨z.toNat, by omega⟩
  obtain ⟨k, hk⟩ : ∃ k, k = zn % n := ⟨_, rfl⟩
  have ek : (zn : Int) % (n : Int) = (k : Int) := by rw [hk]; omega
  have hkn : k < n := by rw [hk]; exact Nat.mod_lt _ (by omega)
  have hn40 : n ≤ 40 := by omega
  have hn0 : 0 < n := by omega
  clear hk h40
  have hnz : ((n : Int) == 0) = false := by simp only [beq_eq_false_iff_ne, ne_eq]; omega
  have h40 : ¬ 40 < n := by omega
  obtain ⟨ad, d, rfl, hab, hd, hd16, hcl⟩ := hr.1.dig_at hr.2 hkn
  have HD := Lib.hid hd16
  have HC := Lib.hid hcl
  clear hcl
  have HPL := Lib.hid (mProof_le6 (ds := ds) (i := k) (by rw [hr.len]; omega))
  have HP16 := Lib.hid (mProof_16 ds k)
  have HRL := Lib.hid (root_len ds)
  have HVt := mVerify_proof hd
  rw [hr.len] at HVt
  have HR := fun W hKW hW => Lib.hid (root_any (some ad) c n ds W hKW hW hc (by omega))
  have HP := fun W hKW hW => Lib.hid (prove_any (some ad) c n k ds W hKW hW hc (by omega) hkn)
  generalize root ds = R at *
  generalize mProof ds k = p at *
  have HV := fun B cq W hKW (hW : ReadsD W B p.length p) hcq => Lib.hid (verify_any B cq p.length n k R d p W hKW HRL.out hd16 hW hcq (by have := HPL.out; omega) (by omega) hkn)
  rw [HVt] at HV
  clear HVt hd16 hd
  go_enter Tryd.func5, Tryd.ntmps5
  go_wp2_with fail
  refine (sanity_any _ hK).mono ?_
  rintro e w1 ⟨rfl, hb1⟩
  go_wp2_with fail
  refine (HP _ (hK.on hb1) (hr.on hb1)).out.mono ?_
  rintro e w2 ⟨v2, rfl, hown, hb2⟩
  have hb2' := hb1.trans (hb2.mono hb1.size)
  obtain ⟨A2, c2, rfl, hc2, _, hr2⟩ := own_form hown
  have hr2 : ReadsD w2 A2 p.length p := ⟨hr2, HP16.out⟩
  have hpl := HPL.out
  clear hown
  go_wp2_with fail
  have hK0 := hK
  have ht6 : decide ((p.length : Int) ≤ 6) = true := decide_eq_true (by omega)
  have C0 : Hid (∀ j u, (bvs d)[j]? = some u → w.cell? ((ad.add (k * 16)).add j) = some u) := fun j u hu => by rw [add_of_add]; exact HC.out j u hu
  have C1 : ∀ j u, (bvs d)[j]? = some u → w2.drew.cell? ((ad.add (k * 16)).add j) = some u := fun j u hu => (hb2'.cell (by rw [block_of_add, block_of_add]; exact hab)).trans (C0.out j u hu)
  refine wp_region_plan (fun w' => ∀ j u, (bvs d)[j]? = some u → w'.cell? ((ad.add (k * 16)).add j) = some u) (.take 0 <| .take 1 <| .take 2 <| .take 3 <| .take 4 <| .take 5 <| .take 6 <| .one 7 <| .take 8 <| .take 9 <| .take 10 <| .take 11 <| .take 13 <| .take 15 <| .take 16 <| .take 17 <| .take 18 <| .take 19 <| .take 20 <| .two 12 (.one 14 <| .one 21 <| .take 22 <| .take 23 <| .done) 14 (.one 12 <| .one 21 <| .take 22 <| .take 23 <| .done)) (by kernel_rfl) (by kernel_rfl) (by kernel_rfl) (fun _ _ _ _ _ h => h) C1 ?_
  repeat (refine plan_take _ rfl ?_; (first | (refine wpQuiet_valueG (o := ⟨some 49, _, _, _, _, _⟩) rfl _ (by intro _ h; exact exec_load16 _ _ rfl _ rfl d HD.out h) (wpQuiet_nil ?_); simp only [Act.put, List.setIfInBounds_toArray, List.set_cons_zero, List.set_cons_succ]) | (go_big_quiet_step ((intros; rfl)); refine wpQuiet_nil ?_)))
  refine plan_one _ rfl fun K hK => ?_
  go_simp
  refine hK _ _ C1 ?_
  clear hK K
  repeat (refine plan_take _ rfl ?_; (first | (refine wpQuiet_valueG (o := ⟨some 49, _, _, _, _, _⟩) rfl _ (by intro _ h; exact exec_load16 _ _ rfl _ rfl d HD.out h) (wpQuiet_nil ?_); simp only [Act.put, List.setIfInBounds_toArray, List.set_cons_zero, List.set_cons_succ]) | (go_big_quiet_step ((intros; rfl)); refine wpQuiet_nil ?_)))
  refine plan_two ?_ ?_
  · refine step_at _ rfl fun K hK => ?_
    go_simp
    refine ((HR _ (hK0.on hb2'.drew) (hr.on hb2'.drew)).out).mono ?_
    rintro e wx1 ⟨rfl, hx1⟩
    have Bx2 := hb2'.drew.trans (hx1.mono hb2'.drew.size)
    have Rx2 := (hr.on hb2'.drew).on hx1
    have Px2 := (show ReadsD w2.drew A2 p.length p from hr2).on hx1
    have Kx2 := (hK0.on hb2'.drew).on hx1
    have Cx2 : ∀ j u, (bvs d)[j]? = some u → wx1.cell? ((ad.add (k * 16)).add j) = some u := fun j u hu => (Bx2.cell (by rw [block_of_add, block_of_add]; exact hab)).trans (C0.out j u hu)
    refine hK _ _ Cx2 ?_
    clear hK K
    refine plan_one _ rfl fun K hK => ?_
    go_simp
    refine hK _ _ Cx2 ?_
    clear hK K
    refine plan_one _ rfl fun K hK => ?_
    go_simp
    refine ((HV A2 c2 _ Kx2 Px2 hc2).out).mono ?_
    rintro e wx3 ⟨rfl, hx3⟩
    have Bx4 := Bx2.trans (hx3.mono Bx2.size)
    have Rx4 := Rx2.on hx3
    have Px4 := Px2.on hx3
    have Kx4 := Kx2.on hx3
    have Cx4 : ∀ j u, (bvs d)[j]? = some u → wx3.cell? ((ad.add (k * 16)).add j) = some u := fun j u hu => (Bx4.cell (by rw [block_of_add, block_of_add]; exact hab)).trans (C0.out j u hu)
    refine hK _ _ Cx4 ?_
    clear hK K
    repeat (refine plan_take _ rfl ?_; (first | (refine wpQuiet_valueG (o := ⟨some 49, _, _, _, _, _⟩) rfl _ (by intro _ h; exact exec_load16 _ _ rfl _ rfl d HD.out h) (wpQuiet_nil ?_); simp only [Act.put, List.setIfInBounds_toArray, List.set_cons_zero, List.set_cons_succ]) | (go_big_quiet_step ((intros; rfl)); refine wpQuiet_nil ?_)))
    refine plan_done ?_
    go_wp2_with fail
    go_ret
    exact ⟨rfl, Bx4⟩
  · refine step_at _ rfl fun K hK => ?_
    go_simp
    refine hK _ _ C1 ?_
    clear hK K
    refine plan_one _ rfl fun K hK => ?_
    go_simp
    refine ((HR _ (hK0.on hb2'.drew) (hr.on hb2'.drew)).out).mono ?_
    rintro e wx5 ⟨rfl, hx5⟩
    have Bx6 := hb2'.drew.trans (hx5.mono hb2'.drew.size)
    have Rx6 := (hr.on hb2'.drew).on hx5
    have Px6 := (show ReadsD w2.drew A2 p.length p from hr2).on hx5
    have Kx6 := (hK0.on hb2'.drew).on hx5
    have Cx6 : ∀ j u, (bvs d)[j]? = some u → wx5.cell? ((ad.add (k * 16)).add j) = some u := fun j u hu => (Bx6.cell (by rw [block_of_add, block_of_add]; exact hab)).trans (C0.out j u hu)
    refine hK _ _ Cx6 ?_
    clear hK K
    refine plan_one _ rfl fun K hK => ?_
    go_simp
    refine ((HV A2 c2 _ Kx6 Px6 hc2).out).mono ?_
    rintro e wx7 ⟨rfl, hx7⟩
    have Bx8 := Bx6.trans (hx7.mono Bx6.size)
    have Rx8 := Rx6.on hx7
    have Px8 := Px6.on hx7
    have Kx8 := Kx6.on hx7
    have Cx8 : ∀ j u, (bvs d)[j]? = some u → wx7.cell? ((ad.add (k * 16)).add j) = some u := fun j u hu => (Bx8.cell (by rw [block_of_add, block_of_add]; exact hab)).trans (C0.out j u hu)
    refine hK _ _ Cx8 ?_
    clear hK K
    repeat (refine plan_take _ rfl ?_; (first | (refine wpQuiet_valueG (o := ⟨some 49, _, _, _, _, _⟩) rfl _ (by intro _ h; exact exec_load16 _ _ rfl _ rfl d HD.out h) (wpQuiet_nil ?_); simp only [Act.put, List.setIfInBounds_toArray, List.set_cons_zero, List.set_cons_succ]) | (go_big_quiet_step ((intros; rfl)); refine wpQuiet_nil ?_)))
    refine plan_done ?_
    go_wp2_with fail
    go_ret
    exact ⟨rfl, Bx8⟩
end Go.Proofs.YtpmkjnmddglckaaDoor
