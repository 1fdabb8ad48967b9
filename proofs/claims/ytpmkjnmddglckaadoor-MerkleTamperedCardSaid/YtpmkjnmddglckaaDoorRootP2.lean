/-
  What merkle.Root's closure and Root return: contracts by walks, by induction on the number of leaves. Conditions: the table of constants as laid; at most 1000 leaves; the captured variable holds the closure.
-/
import Derived.Test.YtpmkjnmddglckaaDoorTree
import Derived.Test.YtpmkjnmddglckaaDoorRRoot
import Derived.Test.YtpmkjnmddglckaaDoorGuard
namespace Go.Proofs.YtpmkjnmddglckaaDoor
open Go.RowKit

/-- The captured variable holds the closure itself. -/
def foldV (pb : Addr) : Value := .func (.func 24) #[] #[.pointer (some pb)]

set_option maxRecDepth 100000 in
set_option maxHeartbeats 1000000 in
theorem fold_none (pb : Addr) (A : Option Addr) (c : Nat) (w : World) (hK : Consts w) : Calls Tryd.prog 24 #[.slice A 0 c, .pointer (some pb)] w (GivesV (.agg (bvs (root [])).toArray) w) := by
  have HRL := Lib.hid (root_len [])
  have HE : Hid (dig 1 [] = root []) := root_nil.symm
  generalize root [] = D at *
  go_enter Tryd.func24, Tryd.ntmps24
  go_wp2_with (with_reducible refine wpList_alloc_row (o := ⟨some 3, _, _, _, _, _⟩) rfl _ rfl zeros16 zero_b16 ?_; intro w1 hrow1 hs1 hg1)
  have hb1 : Below w.heap.size w w1 := grown_below hg1 (Nat.le_refl _) (by simp)
  clear hg1
  refine (digest_any 1 none 0 [] 0 w1 (hK.on hb1) (readsP_none _ _) (by omega) (by simp)).mono ?_
  rintro e w2 ⟨rfl, hb2⟩
  rw [HE.out]
  have hrow2 := hrow1.on hb2
  have hb2' := hb1.trans (hb2.mono hb1.size)
  go_wp2_with (with_reducible refine wpList_store_all (o := ⟨none, _, _, _, _, _⟩) rfl _ _ _ rfl w.heap.size rfl _ _ hrow2 (bvs D) rfl (bvs_one _) (b16_zeros _ HRL.out) (b16_size _ HRL.out) ?_; intro wz hrowz hgz)
  have hload := run_loadVar_at (P := Tryd.prog) wz 28 ⟨w.heap.size, 0, none⟩ (bvs D) hrowz.cells _ Tryd.underlying28 rfl (b16_size _ HRL.out)
  exact bodyPost_ret (results_cell1 Tryd.results24 _ _ _ _ rfl hload) rfl ⟨rfl, below_kept hb2' hgz hb2'.size (by rintro k hk; cases hk; exact Nat.le_refl _)⟩
set_option maxRecDepth 100000 in
set_option maxHeartbeats 1000000 in
theorem fold_one (pb : Addr) (A : Option Addr) (c : Nat) (d : List UInt8) (w : World) (hK : Consts w) (hr : ReadsD w A 1 [d]) : Calls Tryd.prog 24 #[.slice A 1 c, .pointer (some pb)] w (GivesV (.agg (bvs (root [d])).toArray) w) := by
  obtain ⟨ad, d', rfl, hab, hd', hd, hcl⟩ := hr.1.dig_at hr.2 (k := 0) (by omega)
  simp at hd'
  subst hd'
  have hcl' : ∀ j u, (bvs d)[j]? = some u → w.cell? (ad.add j) = some u := fun j u hu => by simpa using hcl j u hu
  have HC := Lib.hid hcl'
  have HD := Lib.hid hd
  have HRL := Lib.hid (root_len [d])
  have HE : Hid (mLeaf d = root [d]) := (root_one d).symm
  have HLF := fun W hKW => Lib.hid (leafDigest_any d hd W hKW)
  rw [HE.out] at HLF
  generalize root [d] = D at *
  clear hcl hcl' hd
  go_enter Tryd.func24, Tryd.ntmps24
  go_wp2_with (first
    | (with_reducible refine wpList_alloc_row (o := ⟨some 3, _, _, _, _, _⟩) rfl _ rfl zeros16 zero_b16 ?_; intro w1 hrow1 hs1 hg1; have hb1 : Below w.heap.size w w1 := grown_below hg1 (Nat.le_refl _) (by simp))
    | (with_reducible refine wpList_load_at (o := ⟨some 15, _, _, _, _, _⟩) rfl _ _ rfl ad rfl (bvs d) (fun j u hu => (hb1.cell (by rw [block_of_add]; exact hab)).trans (HC.out j u hu)) _ Tryd.underlying28 rfl (b16_size _ HD.out) ?_))
  clear hg1
  refine (HLF _ (hK.on hb1)).out.mono ?_
  rintro e w2 ⟨rfl, hb2⟩
  have hrow2 := hrow1.on hb2
  have hb2' := hb1.trans (hb2.mono hb1.size)
  go_wp2_with (with_reducible refine wpList_store_all (o := ⟨none, _, _, _, _, _⟩) rfl _ _ _ rfl w.heap.size rfl _ _ hrow2 (bvs D) rfl (bvs_one _) (b16_zeros _ HRL.out) (b16_size _ HRL.out) ?_; intro wz hrowz hgz)
  have hload := run_loadVar_at (P := Tryd.prog) wz 28 ⟨w.heap.size, 0, none⟩ (bvs D) hrowz.cells _ Tryd.underlying28 rfl (b16_size _ HRL.out)
  exact bodyPost_ret (results_cell1 Tryd.results24 _ _ _ _ rfl hload) rfl ⟨rfl, below_kept hb2' hgz hb2'.size (by rintro k hk; cases hk; exact Nat.le_refl _)⟩
set_option maxRecDepth 100000 in
set_option maxHeartbeats 2000000 in
theorem fold_any (pb : Addr) (m : Nat) : ∀ (A : Option Addr) (c n : Nat) (ds : List (List UInt8)) (w : World), n ≤ m → Consts w → w.cell? pb = some (foldV pb) → ReadsD w A n ds → n ≤ c → n ≤ 1000 →
    Calls Tryd.prog 24 #[.slice A n c, .pointer (some pb)] w (GivesV (.agg (bvs (root ds)).toArray) w) := by
  induction m with
  | zero =>
    intro A c n ds w hm hK hf hr hc hn
    obtain rfl : n = 0 := by omega
    obtain rfl : ds = [] := List.eq_nil_of_length_eq_zero hr.len
    exact fold_none pb A c w hK
  | succ m ih =>
    intro A c n ds w hm hK hf hr hc hn
    have HLN := Lib.hid hr.len
    have HRL := Lib.hid (root_len ds)
    by_cases h2 : 2 ≤ n
    · obtain ⟨ad, rfl⟩ : ∃ ad, A = some ad := by obtain ⟨ad, h, _⟩ := hr.1.2 (by omega); exact ⟨ad, h⟩
      have HS1 := split_pos n
      have HS2 := split_lt h2
      have hr1 := hr.first (k := split n) (by omega)
      have hr2 := hr.last (k := split n) (cap := n) (by omega) (Nat.le_refl _)
      rw [if_neg (by omega)] at hr2
      have hpb : pb.block < w.heap.size := World.block_lt_of_cell? w pb hf
      have HSP := fun W => Lib.hid (subtrees_any ad c n h2 hc hn W)
      have HL := fun W (hW : Below w.heap.size w W) => Lib.hid (ih (some ad) (split n) (split n) (ds.take (split n)) W (by omega) (hK.on hW) ((hW.cell hpb).trans hf) (hr1.on hW) (by omega) (by omega))
      have HR := fun W (hW : Below w.heap.size w W) => Lib.hid (ih (some (ad.add (split n * 16))) (n - split n) (n - split n) (ds.drop (split n)) W (by omega) (hK.on hW) ((hW.cell hpb).trans hf) (hr2.on hW) (by omega) (by omega))
      have HE : Hid (root ds = mNode (root (ds.take (split n))) (root (ds.drop (split n)))) := by
        have e := root_more (l := ds) (by rw [HLN.out]; exact h2)
        rw [HLN.out] at e
        exact e
      have HL1 := Lib.hid (root_len (ds.take (split n)))
      have HL2 := Lib.hid (root_len (ds.drop (split n)))
      generalize root ds = D at *
      generalize root (ds.take (split n)) = D1 at *
      generalize root (ds.drop (split n)) = D2 at *
      generalize split n = k at *
      clear hr1 hr2 ih
      go_enter Tryd.func24, Tryd.ntmps24
      go_wp2_with (with_reducible refine wpList_alloc_row (o := ⟨some 3, _, _, _, _, _⟩) rfl _ rfl zeros16 zero_b16 ?_; intro w1 hrow1 hs1 hg1)
      refine (HSP _).out.mono ?_
      rintro e w2 ⟨rfl, m, rfl⟩
      have hb1 : Below w.heap.size w (w1.drewN m) := below_drewN (grown_below hg1 (Nat.le_refl _) (by simp)) m
      have hrow2 : Row (w1.drewN m) w.heap.size 28 zeros16 := hrow1.drewN m
      clear hg1 HSP hrow1
      generalize w1.drewN m = w2 at *
      go_wp2_with fail
      have hCo := hK
      have zd : w2.drew.heap.size = w2.heap.size := rfl
      have hf2 : w2.drew.cell? pb = some (foldV pb) := (hb1.drew.cell hpb).trans hf
      refine wp_region_plan (fun w' => w'.cell? pb = some (foldV pb)) (.take 0 <| .take 1 <| .take 3 <| .take 4 <| .one 2 <| .one 5 <| .one 6 <| .one 7 <| .done) (by kernel_rfl) (by kernel_rfl) (by kernel_rfl) (fun _ _ _ _ _ h => h) hf2 ?_
      repeat (refine plan_take _ rfl ?_; (first | (refine wpQuiet_valueG rfl _ (by intro _ h; exact exec_load1 _ 29 _ rfl pb rfl _ h _ Tryd.underlying29 rfl) (wpQuiet_nil ?_); (try unfold foldV); simp only [Act.put, List.setIfInBounds_toArray, List.set_cons_zero, List.set_cons_succ]) | (go_big_quiet_step ((intros; rfl)); refine wpQuiet_nil ?_)))
      refine plan_one _ rfl fun K hK => ?_
      go_simp
      refine ((HL _ hb1.drew).out).mono ?_
      rintro e wx1 ⟨rfl, hx1⟩
      have Bx2 := hb1.drew.trans (hx1.mono hb1.drew.size)
      have rrx2 := hrow2.drew.on hx1
      have hfx2 : wx1.cell? pb = some (foldV pb) := (Bx2.cell hpb).trans hf
      refine hK _ _ hfx2 ?_
      clear hK K
      refine plan_one _ rfl fun K hK => ?_
      go_simp
      refine ((HR _ Bx2).out).mono ?_
      rintro e wx3 ⟨rfl, hx3⟩
      have Bx4 := Bx2.trans (hx3.mono Bx2.size)
      have rrx4 := rrx2.on hx3
      have hfx4 : wx3.cell? pb = some (foldV pb) := (Bx4.cell hpb).trans hf
      refine hK _ _ hfx4 ?_
      clear hK K
      refine plan_one _ rfl fun K hK => ?_
      go_simp
      refine (node_any D1 D2 HL1.out HL2.out _ (hCo.on Bx4)).mono ?_
      rintro e wx5 ⟨rfl, hx5⟩
      rw [← HE.out]
      have Bx6 := Bx4.trans (hx5.mono Bx4.size)
      have rrx6 := rrx4.on hx5
      have hfx6 : wx5.cell? pb = some (foldV pb) := (Bx6.cell hpb).trans hf
      refine hK _ _ hfx6 ?_
      clear hK K
      refine plan_one _ rfl fun K hK => ?_
      refine step_store_all rfl _ _ _ rfl w.heap.size rfl _ _ rrx6 (bvs D) rfl (bvs_one _) (b16_zeros _ HRL.out) (b16_size _ HRL.out) ?_
      intro wy hrowy hgy
      have By := below_kept Bx6 hgy Bx6.size (by rintro k hk; cases hk; exact Nat.le_refl _)
      have hfy : wy.cell? pb = some (foldV pb) := (By.cell hpb).trans hf
      refine hK _ _ hfy ?_
      clear hK K
      simp only [Act.put]
      refine plan_done ?_
      go_wp2_with fail
      have hload := run_loadVar_at (P := Tryd.prog) wy 28 ⟨w.heap.size, 0, none⟩ (bvs D) hrowy.cells _ Tryd.underlying28 rfl (b16_size _ HRL.out)
      exact bodyPost_ret (results_cell1 Tryd.results24 _ _ _ _ rfl hload) rfl ⟨rfl, By⟩
    · by_cases h1 : n = 1
      · subst h1
        obtain ⟨d, rfl⟩ := one_of (l := ds) (by rw [HLN.out]; omega) (by rw [HLN.out]; omega)
        exact fold_one pb A c d w hK hr
      · obtain rfl : n = 0 := by omega
        obtain rfl : ds = [] := List.eq_nil_of_length_eq_zero HLN.out
        exact fold_none pb A c w hK
set_option maxRecDepth 100000 in
set_option maxHeartbeats 1000000 in
theorem root_any (A : Option Addr) (c n : Nat) (ds : List (List UInt8)) (w : World) (hK : Consts w) (hr : ReadsD w A n ds) (hc : n ≤ c) (hn : n ≤ 1000) :
    Calls Tryd.prog 12 #[.slice A n c] w (GivesV (.agg (bvs (root ds)).toArray) w) := by
  have HRL := Lib.hid (root_len ds)
  have HF := fun pb W (hKW : Consts W) hf hW => Lib.hid (fold_any pb 1000 A c n ds W hn hKW hf hW hc hn)
  generalize root ds = D at *
  unfold foldV at HF
  go_enter Tryd.func12, Tryd.ntmps12
  go_wp2_with (first
    | (with_reducible refine wpList_alloc_row (o := ⟨some 2, _, _, _, _, _⟩) rfl _ rfl zeros16 zero_b16 ?_; intro w1 hrow1 hs1 hg1)
    | (with_reducible refine wpList_alloc_row (o := ⟨some 3, _, _, _, _, _⟩) rfl _ rfl [.nilFunc] (by kernel_rfl) ?_; intro w2 hrow2 hs2 hg2)
    | (refine wpList_at ⟨none, .store 29 _ _, _, _, _, _⟩ ?_; refine wpList_store_elem rfl _ _ _ rfl w1.heap.size 0 rfl _ _ hrow2 (.func (.func 24) #[] #[.pointer (some ⟨w1.heap.size, 0, none⟩)]) rfl rfl (by simp) (by kernel_rfl) ?_; intro w3 hrow3 hg3; have hf3 : w3.cell? ⟨w1.heap.size, 0, none⟩ = some (.func (.func 24) #[] #[.pointer (some ⟨w1.heap.size, 0, none⟩)]) := hrow3.cell rfl)
    | (refine wpList_valueG (o := ⟨some 5, _, _, _, _, _⟩) rfl _ (by exact exec_load1 _ 29 _ rfl ⟨w1.heap.size, 0, none⟩ rfl _ hf3 _ Tryd.underlying29 rfl) ?_))
  have hb1 : Below w.heap.size w w1 := grown_below hg1 (Nat.le_refl _) (by simp)
  have hb3 : Below w.heap.size w w3 := below_kept (below_kept hb1 hg2 hb1.size (by simp)) hg3 (by have := hb1.size; omega) (by rintro k hk; cases hk; exact hb1.size)
  have hrow1' := (hrow1.kept hg2 (by simp)).kept hg3 (by simp; omega)
  clear hg1 hg2 hg3 hrow1 hrow2
  refine (HF _ _ (hK.on hb3) hf3 (hr.on hb3)).out.mono ?_
  rintro e w4 ⟨rfl, hb4⟩
  have hrow4 := hrow1'.on hb4
  have hb4' := hb3.trans (hb4.mono hb3.size)
  go_wp2_with (with_reducible refine wpList_store_all (o := ⟨none, _, _, _, _, _⟩) rfl _ _ _ rfl w.heap.size rfl _ _ hrow4 (bvs D) rfl (bvs_one _) (b16_zeros _ HRL.out) (b16_size _ HRL.out) ?_; intro wz hrowz hgz)
  have hload := run_loadVar_at (P := Tryd.prog) wz 28 ⟨w.heap.size, 0, none⟩ (bvs D) hrowz.cells _ Tryd.underlying28 rfl (b16_size _ HRL.out)
  exact bodyPost_ret (results_cell1 Tryd.results12 _ _ _ _ rfl hload) rfl ⟨rfl, below_kept hb4' hgz hb4'.size (by rintro k hk; cases hk; exact Nat.le_refl _)⟩
end Go.Proofs.YtpmkjnmddglckaaDoor
