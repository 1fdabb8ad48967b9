/-
  What the reference's Root returns: a contract by a walk, by induction on the number of leaves. Condition: at most 1000 leaves.
-/
import Derived.Test.YtpmkjnmddglckaaDoorRMk
import Derived.Test.YtpmkjnmddglckaaDoorFlat
namespace Go.Proofs.YtpmkjnmddglckaaDoor
open Go.RowKit

set_option maxRecDepth 100000 in
set_option maxHeartbeats 1000000 in
theorem refRoot_none (A : Option Addr) (c : Nat) (w : World) : Calls Tryd.prog 13 #[.slice A 0 c] w (GivesV (.agg (bvs (root [])).toArray) w) := by
  have HRL := Lib.hid (root_len [])
  have HE : Hid (dig 1 [] = root []) := root_nil.symm
  generalize root [] = D at *
  go_enter Tryd.func13, Tryd.ntmps13
  go_wp2_with (with_reducible refine wpList_alloc_row (o := ⟨some 2, _, _, _, _, _⟩) rfl _ rfl zeros16 zero_b16 ?_; intro w1 hrow1 hs1 hg1)
  have hb1 : Below w.heap.size w w1 := grown_below hg1 (Nat.le_refl _) (by simp)
  clear hg1
  refine (refDigest_any 1 none 0 [] 0 w1 (readsP_none _ _) (by omega) (by simp)).mono ?_
  rintro e w2 ⟨rfl, hb2⟩
  rw [HE.out]
  have hrow2 := hrow1.on hb2
  have hb2' := hb1.trans (hb2.mono hb1.size)
  go_wp2_with (with_reducible refine wpList_store_all (o := ⟨none, _, _, _, _, _⟩) rfl _ _ _ rfl w.heap.size rfl _ _ hrow2 (bvs D) rfl (bvs_one _) (b16_zeros _ HRL.out) (b16_size _ HRL.out) ?_; intro wz hrowz hgz)
  have hload := run_loadVar_at (P := Tryd.prog) wz 28 ⟨w.heap.size, 0, none⟩ (bvs D) hrowz.cells _ Tryd.underlying28 rfl (b16_size _ HRL.out)
  exact bodyPost_ret (results_cell1 Tryd.results13 _ _ _ _ rfl hload) rfl ⟨rfl, below_kept hb2' hgz hb2'.size (by rintro k hk; cases hk; exact Nat.le_refl _)⟩
set_option maxRecDepth 100000 in
set_option maxHeartbeats 1000000 in
theorem refRoot_one (A : Option Addr) (c : Nat) (d : List UInt8) (w : World) (hr : ReadsD w A 1 [d]) : Calls Tryd.prog 13 #[.slice A 1 c] w (GivesV (.agg (bvs (root [d])).toArray) w) := by
  obtain ⟨ad, d', rfl, hab, hd', hd, hcl⟩ := hr.1.dig_at hr.2 (k := 0) (by omega)
  simp at hd'
  subst hd'
  have hcl' : ∀ j u, (bvs d)[j]? = some u → w.cell? (ad.add j) = some u := fun j u hu => by simpa using hcl j u hu
  have HC := Lib.hid hcl'
  have HD := Lib.hid hd
  have HRL := Lib.hid (root_len [d])
  have HE : Hid (mLeaf d = root [d]) := (root_one d).symm
  have HLF := fun W => Lib.hid (refLeaf_any d hd W)
  rw [HE.out] at HLF
  generalize root [d] = D at *
  clear hcl hcl' hd
  go_enter Tryd.func13, Tryd.ntmps13
  go_wp2_with (first
    | (with_reducible refine wpList_alloc_row (o := ⟨some 2, _, _, _, _, _⟩) rfl _ rfl zeros16 zero_b16 ?_; intro w1 hrow1 hs1 hg1; have hb1 : Below w.heap.size w w1 := grown_below hg1 (Nat.le_refl _) (by simp))
    | (with_reducible refine wpList_load_at (o := ⟨some 13, _, _, _, _, _⟩) rfl _ _ rfl ad rfl (bvs d) (fun j u hu => (hb1.cell (by rw [block_of_add]; exact hab)).trans (HC.out j u hu)) _ Tryd.underlying28 rfl (b16_size _ HD.out) ?_))
  clear hg1
  refine (HLF _).out.mono ?_
  rintro e w2 ⟨rfl, hb2⟩
  have hrow2 := hrow1.on hb2
  have hb2' := hb1.trans (hb2.mono hb1.size)
  go_wp2_with (with_reducible refine wpList_store_all (o := ⟨none, _, _, _, _, _⟩) rfl _ _ _ rfl w.heap.size rfl _ _ hrow2 (bvs D) rfl (bvs_one _) (b16_zeros _ HRL.out) (b16_size _ HRL.out) ?_; intro wz hrowz hgz)
  have hload := run_loadVar_at (P := Tryd.prog) wz 28 ⟨w.heap.size, 0, none⟩ (bvs D) hrowz.cells _ Tryd.underlying28 rfl (b16_size _ HRL.out)
  exact bodyPost_ret (results_cell1 Tryd.results13 _ _ _ _ rfl hload) rfl ⟨rfl, below_kept hb2' hgz hb2'.size (by rintro k hk; cases hk; exact Nat.le_refl _)⟩
set_option maxRecDepth 100000 in
set_option maxHeartbeats 1000000 in
theorem refRoot_any (m : Nat) : ∀ (A : Option Addr) (c n : Nat) (ds : List (List UInt8)) (w : World), n ≤ m → ReadsD w A n ds → n ≤ c → n ≤ 1000 →
    Calls Tryd.prog 13 #[.slice A n c] w (GivesV (.agg (bvs (root ds)).toArray) w) := by
  induction m with
  | zero =>
    intro A c n ds w hm hr hc hn
    obtain rfl : n = 0 := by omega
    obtain rfl : ds = [] := List.eq_nil_of_length_eq_zero hr.len
    exact refRoot_none A c w
  | succ m ih =>
    intro A c n ds w hm hr hc hn
    have HLN := Lib.hid hr.len
    have HRL := Lib.hid (root_len ds)
    by_cases h2 : 2 ≤ n
    · obtain ⟨ad, rfl⟩ : ∃ ad, A = some ad := by obtain ⟨ad, h, _⟩ := hr.1.2 (by omega); exact ⟨ad, h⟩
      have HS1 := split_pos n
      have HS2 := split_lt h2
      have hr1 := hr.first (k := split n) (by omega)
      have hr2 := hr.last (k := split n) (cap := c) (by omega) hc
      rw [if_neg (by omega)] at hr2
      have HSP := fun W => Lib.hid (refSplit_any n h2 (by omega) W)
      have HL := fun W hW => Lib.hid (ih (some ad) c (split n) (ds.take (split n)) W (by omega) (hr1.on hW) (by omega) (by omega))
      have HR := fun W hW => Lib.hid (ih (some (ad.add (split n * 16))) (c - split n) (n - split n) (ds.drop (split n)) W (by omega) (hr2.on hW) (by omega) (by omega))
      have HE : Hid (root ds = mNode (root (ds.take (split n))) (root (ds.drop (split n)))) := by
        have e := root_more (l := ds) (by rw [HLN.out]; exact h2)
        rw [HLN.out] at e
        exact e
      have HL1 := Lib.hid (root_len (ds.take (split n)))
      have HL2 := Lib.hid (root_len (ds.drop (split n)))
      generalize root ds = D at *
      generalize root (ds.take (split n)) = D1 at *
      generalize root (ds.drop (split n)) = D2 at *
      generalize split n = k at *
      clear hr1 hr2 ih
      go_enter Tryd.func13, Tryd.ntmps13
      go_wp2_with (with_reducible refine wpList_alloc_row (o := ⟨some 2, _, _, _, _, _⟩) rfl _ rfl zeros16 zero_b16 ?_; intro w1 hrow1 hs1 hg1)
      refine (HSP _).out.mono ?_
      rintro e w2 ⟨rfl, rfl⟩
      have hb1 : Below w.heap.size w w2 := grown_below hg1 (Nat.le_refl _) (by simp)
      clear hg1 HSP
      go_wp2_with fail
      refine wp_region_plan (fun _ => True) (.take 0 <| .take 1 <| .take 2 <| .take 4 <| .take 5 <| .take 6 <| .one 3 <| .one 7 <| .one 8 <| .one 9 <| .done) (by kernel_rfl) (by kernel_rfl) (by kernel_rfl) (fun _ _ _ _ _ h => h) trivial ?_
      repeat (refine plan_take _ rfl ?_; go_big_quiet_step ((intros; rfl)); refine wpQuiet_nil ?_)
      refine plan_one _ rfl fun K hK => ?_
      go_simp
      refine (HL _ hb1.drew).out.mono ?_
      rintro e w3 ⟨rfl, hb3⟩
      have hb3' := hb1.drew.trans (hb3.mono hb1.size)
      refine hK _ _ trivial ?_
      clear hK K
      refine plan_one _ rfl fun K hK => ?_
      go_simp
      refine (HR _ hb3').out.mono ?_
      rintro e w4 ⟨rfl, hb4⟩
      have hb34 := hb3.trans (hb4.mono hb3.size)
      have hb4' := hb3'.trans (hb4.mono hb3'.size)
      refine hK _ _ trivial ?_
      clear hK K
      refine plan_one _ rfl fun K hK => ?_
      go_simp
      refine (refNode_any D1 D2 HL1.out HL2.out w4).mono ?_
      rintro e w5 ⟨rfl, hb5⟩
      rw [← HE.out]
      have hb25 := hb34.trans (hb5.mono hb34.size)
      have hb5' := hb4'.trans (hb5.mono hb4'.size)
      have hrow5 : Row w5 w.heap.size _ zeros16 := hrow1.drew.on hb25
      refine hK _ _ trivial ?_
      clear hK K
      refine plan_one _ rfl fun K hK => ?_
      refine step_store_all rfl _ _ _ rfl w.heap.size rfl _ _ hrow5 (bvs D) rfl (bvs_one _) (b16_zeros _ HRL.out) (b16_size _ HRL.out) fun wz hrowz hgz => ?_
      refine hK _ _ trivial ?_
      clear hK K
      refine plan_done ?_
      go_wp2_with fail
      have hload := run_loadVar_at (P := Tryd.prog) wz 28 ⟨w.heap.size, 0, none⟩ (bvs D) hrowz.cells _ Tryd.underlying28 rfl (b16_size _ HRL.out)
      exact bodyPost_ret (results_cell1 Tryd.results13 _ _ _ _ rfl hload) rfl ⟨rfl, below_kept hb5' hgz hb5'.size (by rintro k hk; cases hk; exact Nat.le_refl _)⟩
    · by_cases h1 : n = 1
      · subst h1
        obtain ⟨d, rfl⟩ := one_of (l := ds) (by rw [HLN.out]; omega) (by rw [HLN.out]; omega)
        exact refRoot_one A c d w hr
      · obtain rfl : n = 0 := by omega
        obtain rfl : ds = [] := List.eq_nil_of_length_eq_zero HLN.out
        exact refRoot_none A c w
end Go.Proofs.YtpmkjnmddglckaaDoor
