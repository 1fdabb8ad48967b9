/-
  What merkle's leafDigest, nodeDigest and subtrees return: contracts by walks. Conditions: the table of constants as laid; between 2 and 1000 leaves.
-/
import Derived.Test.YtfmcgcdppbcfjaaDoorR3M
import Derived.Test.YtfmcgcdppbcfjaaDoorLen
import Derived.Test.YtfmcgcdppbcfjaaDoorCmp
import Derived.Test.YtfmcgcdppbcfjaaDoorGuard
import Derived.Deep.Heap
namespace Go.Proofs.YtfmcgcdppbcfjaaDoor
open Go.RowKit

set_option maxRecDepth 100000 in
set_option maxHeartbeats 1000000 in
theorem leafDigest_any (d : List UInt8) (hd : d.length = 16) (w : World) (hK : Consts w) : Calls Tryd.prog 48 #[.agg (bvs d).toArray] w (GivesV (.agg (bvs (mLeaf d)).toArray) w) := by
  have HD := Lib.hid hd
  have HL := Lib.hid (mLeaf_len d)
  have HH : ∀ A c, Hid (dig 1 [⟨A, 16, c, d⟩] = mLeaf d) := fun _ _ => rfl
  clear hd
  generalize mLeaf d = D at *
  go_enter Tryd.func48, Tryd.ntmps48
  go_wp2_with (first
    | (with_reducible refine wpList_box_row (o := ⟨some 1, _, _, _, _, _⟩) rfl _ _ rfl (bvs d) rfl ?_; intro w1 hrow1 hs1 hg1)
    | (with_reducible refine wpList_alloc_row (o := ⟨some 2, _, _, _, _, _⟩) rfl _ rfl zeros16 zero_b16 ?_; intro w2 hrow2 hs2 hg2))
  have hrow1' := hrow1.kept hg2 (by simp)
  have hrp := readsP_one w2 53 (some ⟨w.heap.size, 0, none⟩) 16 16 d (hrow1'.reads16 HD.out) (Nat.le_refl _)
  have hb2 : Below w.heap.size w w2 := below_kept (grown_below hg1 (Nat.le_refl _) (by simp)) hg2 (by omega) (by simp)
  have hlt2 := hrow2.lt
  clear hrow1 hrow1' hg1 hg2
  refine (digest_any 1 _ _ _ _ _ (hK.on (hb2.alloc hb2.size _)) hrp (by omega) (parts_one_le _ 300 (show 16 ≤ 300 by omega))).mono ?_
  rintro e w3 ⟨rfl, hb3⟩
  rw [(HH _ _).out]
  have hb3' : Below w2.heap.size w2 w3 := ((Below.refl _ _).alloc (Nat.le_refl _) _).trans (hb3.mono (by simp))
  have hrow3 := hrow2.on hb3'
  go_wp2_with (with_reducible refine wpList_store_all (o := ⟨none, _, _, _, _, _⟩) rfl _ _ _ rfl w1.heap.size rfl _ _ hrow3 (bvs D) rfl (bvs_one _) (b16_zeros _ HL.out) (b16_size _ HL.out) ?_; intro wz hrowz hgz)
  have hload := run_loadVar_at (P := Tryd.prog) wz 23 ⟨w1.heap.size, 0, none⟩ (bvs D) hrowz.cells _ Tryd.underlying23 rfl (b16_size _ HL.out)
  have hb3w := hb2.trans (hb3'.mono hb2.size)
  exact bodyPost_ret (results_cell1 Tryd.results48 _ _ _ _ rfl hload) rfl ⟨rfl, below_kept hb3w hgz hb3w.size (by rintro k hk; cases hk; omega)⟩

set_option maxRecDepth 100000 in
set_option maxHeartbeats 1000000 in
theorem node_any (x y : List UInt8) (hx : x.length = 16) (hy : y.length = 16) (w : World) (hK : Consts w) : Calls Tryd.prog 50 #[.agg (bvs x).toArray, .agg (bvs y).toArray] w (GivesV (.agg (bvs (mNode x y)).toArray) w) := by
  have HX := Lib.hid hx
  have HY := Lib.hid hy
  have HL := Lib.hid (mNode_len x y)
  have HH : ∀ A c B b, Hid (dig 2 [⟨A, 16, c, x⟩, ⟨B, 16, b, y⟩] = mNode x y) := fun _ _ _ _ => rfl
  clear hx hy
  generalize mNode x y = D at *
  go_enter Tryd.func50, Tryd.ntmps50
  go_wp2_with (first
    | (with_reducible refine wpList_box_row (o := ⟨some 2, _, _, _, _, _⟩) rfl _ _ rfl (bvs x) rfl ?_; intro w1 hrow1 hs1 hg1)
    | (with_reducible refine wpList_box_row (o := ⟨some 3, _, _, _, _, _⟩) rfl _ _ rfl (bvs y) rfl ?_; intro w2 hrow2 hs2 hg2)
    | (with_reducible refine wpList_alloc_row (o := ⟨some 4, _, _, _, _, _⟩) rfl _ rfl zeros16 zero_b16 ?_; intro w3 hrow3 hs3 hg3))
  have hrow1' := (hrow1.kept hg2 (by simp)).kept hg3 (by simp)
  have hrow2' := hrow2.kept hg3 (by simp)
  refine wp_region_tail 2 (by kernel_rfl) (by kernel_rfl) ?_
  simp only [List.take_succ_cons, List.take_zero, List.drop_succ_cons, List.drop_zero, Act.put, List.setIfInBounds_toArray, List.set_cons_zero, List.set_cons_succ]
  repeat (go_big_quiet_step (fail))
  refine wpQuiet_nil ?_
  have hrp := readsP_two w3.drew 53 (some ⟨w.heap.size, 0, none⟩) (some ⟨w1.heap.size, 0, none⟩) 16 16 16 16 x y (hrow1'.drew.reads16 HX.out) (Nat.le_refl _) (hrow2'.drew.reads16 HY.out) (Nat.le_refl _)
  have hb3 : Below w.heap.size w w3 := below_kept (below_kept (grown_below hg1 (Nat.le_refl _) (by simp)) hg2 (by omega) (by simp)) hg3 (by omega) (by simp)
  have hlt3 := hrow3.lt
  clear hrow1 hrow1' hrow2 hrow2' hg1 hg2 hg3
  go_wp2_with fail
  refine (digest_any 2 _ _ _ _ _ (hK.on (hb3.drew.alloc hb3.size _)) hrp (by omega) (parts_two_le _ _ 300 (show 16 ≤ 300 by omega) (show 16 ≤ 300 by omega))).mono ?_
  rintro e w4 ⟨rfl, hb4⟩
  rw [(HH _ _ _ _).out]
  have hb4' : Below w3.heap.size w3 w4 := (((Below.refl _ _).drew).alloc (Nat.le_refl _) _).trans (hb4.mono (by simp))
  have hrow4 := hrow3.on hb4'
  go_wp2_with (with_reducible refine wpList_store_all (o := ⟨none, _, _, _, _, _⟩) rfl _ _ _ rfl w2.heap.size rfl _ _ hrow4 (bvs D) rfl (bvs_one _) (b16_zeros _ HL.out) (b16_size _ HL.out) ?_; intro wz hrowz hgz)
  have hload := run_loadVar_at (P := Tryd.prog) wz 23 ⟨w2.heap.size, 0, none⟩ (bvs D) hrowz.cells _ Tryd.underlying23 rfl (b16_size _ HL.out)
  have hb4w := hb3.trans (hb4'.mono hb3.size)
  exact bodyPost_ret (results_cell1 Tryd.results50 _ _ _ _ rfl hload) rfl ⟨rfl, below_kept hb4w hgz hb4w.size (by rintro k hk; cases hk; omega)⟩

set_option maxRecDepth 100000 in
set_option maxHeartbeats 1000000 in
theorem subtrees_any (ad : Addr) (c n : Nat) (h2 : 2 ≤ n) (hc : n ≤ c) (hn : n ≤ 1000) (w : World) : Calls Tryd.prog 49 #[.slice (some ad) n c] w fun e w' =>
    e = .returned (.tuple #[.slice (some ad) (split n) (split n), .slice (some (ad.add (split n * 16))) (n - split n) (n - split n)]) ∧ ∃ m, w' = w.drewN m := by
  have HS1 := split_pos n
  have HS2 := split_lt h2
  have HSP := fun W => Lib.hid (split_any n h2 hn W)
  generalize split n = k at *
  go_enter Tryd.func49, Tryd.ntmps49
  go_wp2_with fail
  refine (HSP _).out.mono ?_
  rintro e w2 ⟨rfl, rfl⟩
  go_wp2_with fail
  go_quiet (fail)
  go_wp2_with fail
  go_ret2
  exact ⟨rfl, _, rfl⟩
end Go.Proofs.YtfmcgcdppbcfjaaDoor

/-
  What merkle.Root's closure and Root return: contracts by walks, by induction on the number of leaves. Conditions: the table of constants as laid; at most 1000 leaves; the captured variable holds the closure.
-/
namespace Go.Proofs.YtfmcgcdppbcfjaaDoor
open Go.RowKit

/-- The captured variable holds the closure itself. -/
def foldV (pb : Addr) : Value := .func (.func 46) #[] #[.pointer (some pb)]

set_option maxRecDepth 100000 in
set_option maxHeartbeats 1000000 in
theorem fold_none (pb : Addr) (A : Option Addr) (c : Nat) (w : World) (hK : Consts w) : Calls Tryd.prog 46 #[.slice A 0 c, .pointer (some pb)] w (GivesV (.agg (bvs (root [])).toArray) w) := by
  have HRL := Lib.hid (root_len [])
  have HE : Hid (dig 1 [] = root []) := root_nil.symm
  generalize root [] = D at *
  go_enter Tryd.func46, Tryd.ntmps46
  go_wp2_with (with_reducible refine wpList_alloc_row (o := ⟨some 3, _, _, _, _, _⟩) rfl _ rfl zeros16 zero_b16 ?_; intro w1 hrow1 hs1 hg1)
  have hb1 : Below w.heap.size w w1 := grown_below hg1 (Nat.le_refl _) (by simp)
  clear hg1
  refine (digest_any 1 none 0 [] 0 w1 (hK.on hb1) (readsP_none _ _) (by omega) (by simp)).mono ?_
  rintro e w2 ⟨rfl, hb2⟩
  rw [HE.out]
  have hrow2 := hrow1.on hb2
  have hb2' := hb1.trans (hb2.mono hb1.size)
  go_wp2_with (with_reducible refine wpList_store_all (o := ⟨none, _, _, _, _, _⟩) rfl _ _ _ rfl w.heap.size rfl _ _ hrow2 (bvs D) rfl (bvs_one _) (b16_zeros _ HRL.out) (b16_size _ HRL.out) ?_; intro wz hrowz hgz)
  have hload := run_loadVar_at (P := Tryd.prog) wz 23 ⟨w.heap.size, 0, none⟩ (bvs D) hrowz.cells _ Tryd.underlying23 rfl (b16_size _ HRL.out)
  exact bodyPost_ret (results_cell1 Tryd.results46 _ _ _ _ rfl hload) rfl ⟨rfl, below_kept hb2' hgz hb2'.size (by rintro k hk; cases hk; exact Nat.le_refl _)⟩
set_option maxRecDepth 100000 in
set_option maxHeartbeats 1000000 in
theorem fold_one (pb : Addr) (A : Option Addr) (c : Nat) (d : List UInt8) (w : World) (hK : Consts w) (hr : ReadsD w A 1 [d]) : Calls Tryd.prog 46 #[.slice A 1 c, .pointer (some pb)] w (GivesV (.agg (bvs (root [d])).toArray) w) := by
  obtain ⟨ad, d', rfl, hab, hd', hd, hcl⟩ := hr.1.dig_at hr.2 (k := 0) (by omega)
  simp at hd'
  subst hd'
  have hcl' : ∀ j u, (bvs d)[j]? = some u → w.cell? (ad.add j) = some u := fun j u hu => by simpa using hcl j u hu
  have HC := Lib.hid hcl'
  have HD := Lib.hid hd
  have HRL := Lib.hid (root_len [d])
  have HE : Hid (mLeaf d = root [d]) := (root_one d).symm
  have HLF := fun W hKW => Lib.hid (leafDigest_any d hd W hKW)
  rw [HE.out] at HLF
  generalize root [d] = D at *
  clear hcl hcl' hd
  go_enter Tryd.func46, Tryd.ntmps46
  go_wp2_with (first
    | (with_reducible refine wpList_alloc_row (o := ⟨some 3, _, _, _, _, _⟩) rfl _ rfl zeros16 zero_b16 ?_; intro w1 hrow1 hs1 hg1; have hb1 : Below w.heap.size w w1 := grown_below hg1 (Nat.le_refl _) (by simp))
    | (with_reducible refine wpList_load_at (o := ⟨some 15, _, _, _, _, _⟩) rfl _ _ rfl ad rfl (bvs d) (fun j u hu => (hb1.cell (by rw [block_of_add]; exact hab)).trans (HC.out j u hu)) _ Tryd.underlying23 rfl (b16_size _ HD.out) ?_))
  clear hg1
  refine (HLF _ (hK.on hb1)).out.mono ?_
  rintro e w2 ⟨rfl, hb2⟩
  have hrow2 := hrow1.on hb2
  have hb2' := hb1.trans (hb2.mono hb1.size)
  go_wp2_with (with_reducible refine wpList_store_all (o := ⟨none, _, _, _, _, _⟩) rfl _ _ _ rfl w.heap.size rfl _ _ hrow2 (bvs D) rfl (bvs_one _) (b16_zeros _ HRL.out) (b16_size _ HRL.out) ?_; intro wz hrowz hgz)
  have hload := run_loadVar_at (P := Tryd.prog) wz 23 ⟨w.heap.size, 0, none⟩ (bvs D) hrowz.cells _ Tryd.underlying23 rfl (b16_size _ HRL.out)
  exact bodyPost_ret (results_cell1 Tryd.results46 _ _ _ _ rfl hload) rfl ⟨rfl, below_kept hb2' hgz hb2'.size (by rintro k hk; cases hk; exact Nat.le_refl _)⟩
set_option maxRecDepth 100000 in
set_option maxHeartbeats 2000000 in
theorem fold_any (pb : Addr) (m : Nat) : ∀ (A : Option Addr) (c n : Nat) (ds : List (List UInt8)) (w : World), n ≤ m → Consts w → w.cell? pb = some (foldV pb) → ReadsD w A n ds → n ≤ c → n ≤ 1000 →
    Calls Tryd.prog 46 #[.slice A n c, .pointer (some pb)] w (GivesV (.agg (bvs (root ds)).toArray) w) := by
  induction m with
  | zero =>
    intro A c n ds w hm hK hf hr hc hn
    obtain rfl : n = 0 := by omega
    obtain rfl : ds = [] := List.eq_nil_of_length_eq_zero hr.len
    exact fold_none pb A c w hK
  | succ m ih =>
    intro A c n ds w hm hK hf hr hc hn
    have HLN := Lib.hid hr.len
    have HRL := Lib.hid (root_len ds)
    by_cases h2 : 2 ≤ n
    · obtain ⟨ad, rfl⟩ : ∃ ad, A = some ad := by obtain ⟨ad, h, _⟩ := hr.1.2 (by omega); exact ⟨ad, h⟩
      have HS1 := split_pos n
      have HS2 := split_lt h2
      have hr1 := hr.first (k := split n) (by omega)
      have hr2 := hr.last (k := split n) (cap := n) (by omega) (Nat.le_refl _)
      rw [if_neg (by omega)] at hr2
      have hpb : pb.block < w.heap.size := World.block_lt_of_cell? w pb hf
      have HSP := fun W => Lib.hid (subtrees_any ad c n h2 hc hn W)
      have HL := fun W (hW : Below w.heap.size w W) => Lib.hid (ih (some ad) (split n) (split n) (ds.take (split n)) W (by omega) (hK.on hW) ((hW.cell hpb).trans hf) (hr1.on hW) (by omega) (by omega))
      have HR := fun W (hW : Below w.heap.size w W) => Lib.hid (ih (some (ad.add (split n * 16))) (n - split n) (n - split n) (ds.drop (split n)) W (by omega) (hK.on hW) ((hW.cell hpb).trans hf) (hr2.on hW) (by omega) (by omega))
      have HE : Hid (root ds = mNode (root (ds.take (split n))) (root (ds.drop (split n)))) := by
        have e := root_more (l := ds) (by rw [HLN.out]; exact h2)
        rw [HLN.out] at e
        exact e
      have HL1 := Lib.hid (root_len (ds.take (split n)))
      have HL2 := Lib.hid (root_len (ds.drop (split n)))
      generalize root ds = D at *
      generalize root (ds.take (split n)) = D1 at *
      generalize root (ds.drop (split n)) = D2 at *
      generalize split n = k at *
      clear hr1 hr2 ih
      go_enter Tryd.func46, Tryd.ntmps46
      go_wp2_with (with_reducible refine wpList_alloc_row (o := ⟨some 3, _, _, _, _, _⟩) rfl _ rfl zeros16 zero_b16 ?_; intro w1 hrow1 hs1 hg1)
      refine (HSP _).out.mono ?_
      rintro e w2 ⟨rfl, m, rfl⟩
      have hb1 : Below w.heap.size w (w1.drewN m) := below_drewN (grown_below hg1 (Nat.le_refl _) (by simp)) m
      have hrow2 : Row (w1.drewN m) w.heap.size 23 zeros16 := hrow1.drewN m
      clear hg1 HSP hrow1
      generalize w1.drewN m = w2 at *
      go_wp2_with fail
      have hCo := hK
      have zd : w2.drew.heap.size = w2.heap.size := rfl
      have hf2 : w2.drew.cell? pb = some (foldV pb) := (hb1.drew.cell hpb).trans hf
      refine wp_region_plan (fun w' => w'.cell? pb = some (foldV pb)) (.take 0 <| .take 1 <| .take 3 <| .take 4 <| .one 2 <| .one 5 <| .one 6 <| .one 7 <| .done) (by kernel_rfl) (by kernel_rfl) (by kernel_rfl) (fun _ _ _ _ _ h => h) hf2 ?_
      repeat (refine plan_take _ rfl ?_; (first | (refine wpQuiet_valueG rfl _ (by intro _ h; exact exec_load1 _ 58 _ rfl pb rfl _ h _ Tryd.underlying58 rfl) (wpQuiet_nil ?_); (try unfold foldV); simp only [Act.put, List.setIfInBounds_toArray, List.set_cons_zero, List.set_cons_succ]) | (go_big_quiet_step ((intros; rfl)); refine wpQuiet_nil ?_)))
      refine plan_one _ rfl fun K hK => ?_
      go_simp
      refine ((HL _ hb1.drew).out).mono ?_
      rintro e wx1 ⟨rfl, hx1⟩
      have Bx2 := hb1.drew.trans (hx1.mono hb1.drew.size)
      have rrx2 := hrow2.drew.on hx1
      have hfx2 : wx1.cell? pb = some (foldV pb) := (Bx2.cell hpb).trans hf
      refine hK _ _ hfx2 ?_
      clear hK K
      refine plan_one _ rfl fun K hK => ?_
      go_simp
      refine ((HR _ Bx2).out).mono ?_
      rintro e wx3 ⟨rfl, hx3⟩
      have Bx4 := Bx2.trans (hx3.mono Bx2.size)
      have rrx4 := rrx2.on hx3
      have hfx4 : wx3.cell? pb = some (foldV pb) := (Bx4.cell hpb).trans hf
      refine hK _ _ hfx4 ?_
      clear hK K
      refine plan_one _ rfl fun K hK => ?_
      go_simp
      refine (node_any D1 D2 HL1.out HL2.out _ (hCo.on Bx4)).mono ?_
      rintro e wx5 ⟨rfl, hx5⟩
      rw [← HE.out]
      have Bx6 := Bx4.trans (hx5.mono Bx4.size)
      have rrx6 := rrx4.on hx5
      have hfx6 : wx5.cell? pb = some (foldV pb) := (Bx6.cell hpb).trans hf
      refine hK _ _ hfx6 ?_
      clear hK K
      refine plan_one _ rfl fun K hK => ?_
      refine step_store_all rfl _ _ _ rfl w.heap.size rfl _ _ rrx6 (bvs D) rfl (bvs_one _) (b16_zeros _ HRL.out) (b16_size _ HRL.out) ?_
      intro wy hrowy hgy
      have By := below_kept Bx6 hgy Bx6.size (by rintro k hk; cases hk; exact Nat.le_refl _)
      have hfy : wy.cell? pb = some (foldV pb) := (By.cell hpb).trans hf
      refine hK _ _ hfy ?_
      clear hK K
      simp only [Act.put]
      refine plan_done ?_
      go_wp2_with fail
      have hload := run_loadVar_at (P := Tryd.prog) wy 23 ⟨w.heap.size, 0, none⟩ (bvs D) hrowy.cells _ Tryd.underlying23 rfl (b16_size _ HRL.out)
      exact bodyPost_ret (results_cell1 Tryd.results46 _ _ _ _ rfl hload) rfl ⟨rfl, By⟩
    · by_cases h1 : n = 1
      · subst h1
        obtain ⟨d, rfl⟩ := one_of (l := ds) (by rw [HLN.out]; omega) (by rw [HLN.out]; omega)
        exact fold_one pb A c d w hK hr
      · obtain rfl : n = 0 := by omega
        obtain rfl : ds = [] := List.eq_nil_of_length_eq_zero HLN.out
        exact fold_none pb A c w hK
set_option maxRecDepth 100000 in
set_option maxHeartbeats 1000000 in
theorem root_any (A : Option Addr) (c n : Nat) (ds : List (List UInt8)) (w : World) (hK : Consts w) (hr : ReadsD w A n ds) (hc : n ≤ c) (hn : n ≤ 1000) :
    Calls Tryd.prog 24 #[.slice A n c] w (GivesV (.agg (bvs (root ds)).toArray) w) := by
  have HRL := Lib.hid (root_len ds)
  have HF := fun pb W (hKW : Consts W) hf hW => Lib.hid (fold_any pb 1000 A c n ds W hn hKW hf hW hc hn)
  generalize root ds = D at *
  unfold foldV at HF
  go_enter Tryd.func24, Tryd.ntmps24
  go_wp2_with (first
    | (with_reducible refine wpList_alloc_row (o := ⟨some 2, _, _, _, _, _⟩) rfl _ rfl zeros16 zero_b16 ?_; intro w1 hrow1 hs1 hg1)
    | (with_reducible refine wpList_alloc_row (o := ⟨some 3, _, _, _, _, _⟩) rfl _ rfl [.nilFunc] (by kernel_rfl) ?_; intro w2 hrow2 hs2 hg2)
    | (refine wpList_at ⟨none, .store 58 _ _, _, _, _, _⟩ ?_; refine wpList_store_elem rfl _ _ _ rfl w1.heap.size 0 rfl _ _ hrow2 (.func (.func 46) #[] #[.pointer (some ⟨w1.heap.size, 0, none⟩)]) rfl rfl (by simp) (by kernel_rfl) ?_; intro w3 hrow3 hg3; have hf3 : w3.cell? ⟨w1.heap.size, 0, none⟩ = some (.func (.func 46) #[] #[.pointer (some ⟨w1.heap.size, 0, none⟩)]) := hrow3.cell rfl)
    | (refine wpList_valueG (o := ⟨some 5, _, _, _, _, _⟩) rfl _ (by exact exec_load1 _ 58 _ rfl ⟨w1.heap.size, 0, none⟩ rfl _ hf3 _ Tryd.underlying58 rfl) ?_))
  have hb1 : Below w.heap.size w w1 := grown_below hg1 (Nat.le_refl _) (by simp)
  have hb3 : Below w.heap.size w w3 := below_kept (below_kept hb1 hg2 hb1.size (by simp)) hg3 (by have := hb1.size; omega) (by rintro k hk; cases hk; exact hb1.size)
  have hrow1' := (hrow1.kept hg2 (by simp)).kept hg3 (by simp; omega)
  clear hg1 hg2 hg3 hrow1 hrow2
  refine (HF _ _ (hK.on hb3) hf3 (hr.on hb3)).out.mono ?_
  rintro e w4 ⟨rfl, hb4⟩
  have hrow4 := hrow1'.on hb4
  have hb4' := hb3.trans (hb4.mono hb3.size)
  go_wp2_with (with_reducible refine wpList_store_all (o := ⟨none, _, _, _, _, _⟩) rfl _ _ _ rfl w.heap.size rfl _ _ hrow4 (bvs D) rfl (bvs_one _) (b16_zeros _ HRL.out) (b16_size _ HRL.out) ?_; intro wz hrowz hgz)
  have hload := run_loadVar_at (P := Tryd.prog) wz 23 ⟨w.heap.size, 0, none⟩ (bvs D) hrowz.cells _ Tryd.underlying23 rfl (b16_size _ HRL.out)
  exact bodyPost_ret (results_cell1 Tryd.results24 _ _ _ _ rfl hload) rfl ⟨rfl, below_kept hb4' hgz hb4'.size (by rintro k hk; cases hk; exact Nat.le_refl _)⟩
end Go.Proofs.YtfmcgcdppbcfjaaDoor

/-
  What merkle.Prove's closure and Prove return: contracts by walks, by induction on the number of leaves. Conditions: the table of constants as laid; at most 1000 leaves; the captured variable holds the closure.
-/
namespace Go.Proofs.YtfmcgcdppbcfjaaDoor
open Go.RowKit

/-- The captured variable holds the closure itself. -/
def sibV (pb : Addr) : Value := .func (.func 57) #[] #[.pointer (some pb)]

set_option maxRecDepth 100000 in
set_option maxHeartbeats 1000000 in
theorem sib_any (pb : Addr) (m : Nat) : ∀ (A : Option Addr) (c n i : Nat) (ds : List (List UInt8)) (w : World), n ≤ m → Consts w → w.cell? pb = some (sibV pb) → ReadsD w A n ds → n ≤ c → n ≤ 1000 → i < n →
    Calls Tryd.prog 57 #[.slice A n c, .int .i64 (i : Int), .pointer (some pb)] w (GivesDS (mProof ds i) w) := by
  obtain ⟨i0, hi0, hz0, hz1, hz2⟩ := info_parts info_dig
  induction m with
  | zero => intro A c n i ds w hm hK hf hr hc hn hi; omega
  | succ m ih =>
    intro A c n i ds w hm hK hf hr hc hn hi
    have HLN := Lib.hid hr.len
    by_cases h2 : 2 ≤ n
    · obtain ⟨ad, rfl⟩ : ∃ ad, A = some ad := by obtain ⟨ad, h, _⟩ := hr.1.2 (by omega); exact ⟨ad, h⟩
      have HS1 := split_pos n
      have HS2 := split_lt h2
      have hr1 := hr.first (k := split n) (by omega)
      have hr2 := hr.last (k := split n) (cap := n) (by omega) (Nat.le_refl _)
      rw [if_neg (by omega)] at hr2
      have hpb : pb.block < w.heap.size := World.block_lt_of_cell? w pb hf
      have HSP := fun W => Lib.hid (subtrees_any ad c n h2 hc hn W)
      by_cases hik : i < split n
      · have HP := fun W (hW : Below w.heap.size w W) => Lib.hid (ih (some ad) (split n) (split n) i (ds.take (split n)) W (by omega) (hK.on hW) ((hW.cell hpb).trans hf) (hr1.on hW) (by omega) (by omega) hik)
        have HR := fun W (hW : Below w.heap.size w W) => Lib.hid (root_any (some (ad.add (split n * 16))) (n - split n) (n - split n) (ds.drop (split n)) W (hK.on hW) (hr2.on hW) (by omega) (by omega))
        have HE : Hid (mProof ds i = mProof (ds.take (split n)) i ++ [root (ds.drop (split n))]) := by
          have e := proveR_left (l := ds) (by rw [HLN.out]; exact h2) (i := i) (by rw [HLN.out]; exact hik)
          rw [HLN.out] at e
          show _ = _
          unfold mProof
          rw [e, List.reverse_cons]
        have HPL := Lib.hid (mProof_len (l := ds.take (split n)) (i := i) hr1.len (by omega))
        have HRL := Lib.hid (root_len (ds.drop (split n)))
        generalize mProof ds i = D at *
        generalize mProof (ds.take (split n)) i = D1 at *
        generalize root (ds.drop (split n)) = D2 at *
        have HBL : Hid ((bvs D2).length = 16) := by show _ = _; rw [bvs_length, HRL.out]
        generalize split n = k at *
        clear hr1 hr2 ih
        go_enter Tryd.func57, Tryd.ntmps57
        go_wp2_with fail
        refine (HSP _).out.mono ?_
        rintro e w2 ⟨rfl, m2, rfl⟩
        have hb2 : Below w.heap.size w (w.drewN m2) := below_drewN (Below.refl _ _) m2
        have hsz : (w.drewN m2).heap.size = w.heap.size := rfl
        clear HSP
        generalize w.drewN m2 = w2 at *
        have hf2 := (hb2.cell hpb).trans hf
        unfold sibV at hf2
        go_wp2_with (refine wpList_valueG (o := ⟨some 20, _, _, _, _, _⟩) rfl _ (by exact exec_load1 _ 86 _ rfl pb rfl _ hf2 _ Tryd.underlying86 rfl) ?_)
        refine (HP _ hb2).out.mono ?_
        rintro e w3 ⟨v3, rfl, hown3, hb3⟩
        have hb3' := hb2.trans (hb3.mono hb2.size)
        rw [hsz] at hown3
        go_wp2_with fail
        refine (HR _ hb3').out.mono ?_
        rintro e w4 ⟨rfl, hb4⟩
        have hown4 := own_below hown3 hb4
        have hb4' := hb3'.trans (hb4.mono hb3'.size)
        have hl1 := HPL.out
        go_wp2_with (first
          | (refine wpList_valueW (o := ⟨some 26, _, _, _, _, _⟩) rfl _ (by exact exec_slice1 _ 30 23 _ rfl Tryd.underlying30 i0 _ hi0 hz0 (bvs D2) (by rw [hz1, HBL.out]) (by rw [HBL.out]; omega) (by rw [HBL.out]; omega) rfl) ?_)
          | (at_builtin
             refine wpList_append_src _ rfl (.tmp 23) (.tmp 26) _ _ rfl w.heap.size 23 i0 _ 16 16 Tryd.underlying30 hi0 hz0 hz1 hz2 rfl _ _ _ rfl (own_below hown4 ((Below.refl _ _).alloc (Nat.le_refl _) _)) 1 (bvs D2) (Src.boxRow Tryd.underlying30 _ _ _ 16 HBL.out (bvs_one D2) _) (by unfold maxLen; omega) (by omega) (by have := hb4'.size; simp; omega) ?_
             intro v5 w5 hown5 hb5))
        go_ret
        refine ⟨_, rfl, ?_, (hb4'.alloc hb4'.size _).trans hb5⟩
        rw [HE.out, List.length_append, List.flatten_append, bvs_append]
        simpa using hown5
      · have hik2 : split n ≤ i := by omega
        have HP := fun W (hW : Below w.heap.size w W) => Lib.hid (ih (some (ad.add (split n * 16))) (n - split n) (n - split n) (i - split n) (ds.drop (split n)) W (by omega) (hK.on hW) ((hW.cell hpb).trans hf) (hr2.on hW) (by omega) (by omega) (by omega))
        simp only [show ((i - split n : Nat) : Int) = (i : Int) - (split n : Int) from by omega] at HP
        have HR := fun W (hW : Below w.heap.size w W) => Lib.hid (root_any (some ad) (split n) (split n) (ds.take (split n)) W (hK.on hW) (hr1.on hW) (by omega) (by omega))
        have HE : Hid (mProof ds i = mProof (ds.drop (split n)) (i - split n) ++ [root (ds.take (split n))]) := by
          have e := proveR_right (l := ds) (by rw [HLN.out]; exact h2) (i := i) (by rw [HLN.out]; exact hik)
          rw [HLN.out] at e
          show _ = _
          unfold mProof
          rw [e, List.reverse_cons]
        have HPL := Lib.hid (mProof_len (l := ds.drop (split n)) (i := i - split n) hr2.len (by omega))
        have HRL := Lib.hid (root_len (ds.take (split n)))
        generalize mProof ds i = D at *
        generalize mProof (ds.drop (split n)) (i - split n) = D1 at *
        generalize root (ds.take (split n)) = D2 at *
        have HBL : Hid ((bvs D2).length = 16) := by show _ = _; rw [bvs_length, HRL.out]
        generalize split n = k at *
        clear hr1 hr2 ih
        go_enter Tryd.func57, Tryd.ntmps57
        go_wp2_with fail
        refine (HSP _).out.mono ?_
        rintro e w2 ⟨rfl, m2, rfl⟩
        have hb2 : Below w.heap.size w (w.drewN m2) := below_drewN (Below.refl _ _) m2
        have hsz : (w.drewN m2).heap.size = w.heap.size := rfl
        clear HSP
        generalize w.drewN m2 = w2 at *
        have hf2 := (hb2.cell hpb).trans hf
        unfold sibV at hf2
        go_wp2_with (refine wpList_valueG (o := ⟨some 28, _, _, _, _, _⟩) rfl _ (by exact exec_load1 _ 86 _ rfl pb rfl _ hf2 _ Tryd.underlying86 rfl) ?_)
        refine (HP _ hb2).out.mono ?_
        rintro e w3 ⟨v3, rfl, hown3, hb3⟩
        have hb3' := hb2.trans (hb3.mono hb2.size)
        rw [hsz] at hown3
        go_wp2_with fail
        refine (HR _ hb3').out.mono ?_
        rintro e w4 ⟨rfl, hb4⟩
        have hown4 := own_below hown3 hb4
        have hb4' := hb3'.trans (hb4.mono hb3'.size)
        have hl1 := HPL.out
        go_wp2_with (first
          | (refine wpList_valueW (o := ⟨some 37, _, _, _, _, _⟩) rfl _ (by exact exec_slice1 _ 30 23 _ rfl Tryd.underlying30 i0 _ hi0 hz0 (bvs D2) (by rw [hz1, HBL.out]) (by rw [HBL.out]; omega) (by rw [HBL.out]; omega) rfl) ?_)
          | (at_builtin
             refine wpList_append_src _ rfl (.tmp 34) (.tmp 37) _ _ rfl w.heap.size 23 i0 _ 16 16 Tryd.underlying30 hi0 hz0 hz1 hz2 rfl _ _ _ rfl (own_below hown4 ((Below.refl _ _).alloc (Nat.le_refl _) _)) 1 (bvs D2) (Src.boxRow Tryd.underlying30 _ _ _ 16 HBL.out (bvs_one D2) _) (by unfold maxLen; omega) (by omega) (by have := hb4'.size; simp; omega) ?_
             intro v5 w5 hown5 hb5))
        go_ret
        refine ⟨_, rfl, ?_, (hb4'.alloc hb4'.size _).trans hb5⟩
        rw [HE.out, List.length_append, List.flatten_append, bvs_append]
        simpa using hown5
    · obtain rfl : n = 1 := by omega
      have HE : Hid (mProof ds i = []) := by show _ = _; unfold mProof; rw [proveR_less (by rw [HLN.out]; omega)]; rfl
      rw [HE.out]
      obtain rfl : i = 0 := by omega
      go_enter Tryd.func57, Tryd.ntmps57
      go_wp2_with fail
      go_ret
      exact ⟨_, rfl, World.ownsRow_nil w _ _ _, Below.refl _ _⟩

set_option maxRecDepth 100000 in
set_option maxHeartbeats 1000000 in
theorem prove_bad (A : Option Addr) (c n : Nat) (i : Int) (w : World) (hi : i < 0 ∨ (n : Int) ≤ i) :
    Calls Tryd.prog 29 #[.slice A n c, .int .i64 i] w (GivesDE [] 1 w) := by
  by_cases h0 : i < 0
  · go_enter Tryd.func29, Tryd.ntmps29
    go_wp2_with fail
    go_ret2
    exact ⟨_, rfl, World.ownsRow_nil w _ _ _, Below.refl _ _⟩
  · have h1 : (n : Int) ≤ i := by omega
    go_enter Tryd.func29, Tryd.ntmps29
    go_wp2_with fail
    go_ret2
    exact ⟨_, rfl, World.ownsRow_nil w _ _ _, Below.refl _ _⟩

set_option maxRecDepth 100000 in
set_option maxHeartbeats 1000000 in
theorem prove_any (A : Option Addr) (c n i : Nat) (ds : List (List UInt8)) (w : World) (hK : Consts w) (hr : ReadsD w A n ds) (hc : n ≤ c) (hn : n ≤ 1000) (hi : i < n) :
    Calls Tryd.prog 29 #[.slice A n c, .int .i64 (i : Int)] w (GivesDE (mProof ds i) 0 w) := by
  have HF := fun pb W (hKW : Consts W) hf hW => Lib.hid (sib_any pb 1000 A c n i ds W hn hKW hf hW hc hn hi)
  generalize mProof ds i = D at *
  unfold sibV at HF
  have hin : ¬ n ≤ i := by omega
  go_enter Tryd.func29, Tryd.ntmps29
  go_wp2_with (first
    | (with_reducible refine wpList_alloc_row (o := ⟨some 6, _, _, _, _, _⟩) rfl _ rfl [.nilFunc] (by kernel_rfl) ?_; intro w2 hrow2 hs2 hg2)
    | (refine wpList_at ⟨none, .store 86 _ _, _, _, _, _⟩ ?_; refine wpList_store_elem rfl _ _ _ rfl w.heap.size 0 rfl _ _ hrow2 (.func (.func 57) #[] #[.pointer (some ⟨w.heap.size, 0, none⟩)]) rfl rfl (by simp) (by kernel_rfl) ?_; intro w3 hrow3 hg3; have hf3 : w3.cell? ⟨w.heap.size, 0, none⟩ = some (.func (.func 57) #[] #[.pointer (some ⟨w.heap.size, 0, none⟩)]) := hrow3.cell rfl)
    | (refine wpList_valueG (o := ⟨some 16, _, _, _, _, _⟩) rfl _ (by exact exec_load1 _ 86 _ rfl ⟨w.heap.size, 0, none⟩ rfl _ hf3 _ Tryd.underlying86 rfl) ?_))
  have hb2 : Below w.heap.size w w2 := grown_below hg2 (Nat.le_refl _) (by simp)
  have hb3 : Below w.heap.size w w3 := below_kept hb2 hg3 hb2.size (by rintro k hk; cases hk; exact Nat.le_refl _)
  clear hg2 hg3 hrow2
  refine (HF _ _ (hK.on hb3) hf3 (hr.on hb3)).out.mono ?_
  rintro e w4 ⟨v, rfl, hown, hb4⟩
  go_wp2_with fail
  go_ret2
  exact ⟨_, rfl, own_base hown hb3.size, hb3.trans (hb4.mono hb3.size)⟩
end Go.Proofs.YtfmcgcdppbcfjaaDoor

/-
  What slices.Reverse does to a slice of bools of the call's own: a contract by a walk. Condition: at most 1000 elements.
-/
namespace Go.Proofs.YtfmcgcdppbcfjaaDoor
open Go.RowKit

theorem Row.setCell {w : World} {g : Nat} {e : TypeId} {cs : List Value} (h : Row w g e cs) (j : Nat) (u : Value) : Row (w.setCell ⟨g, j, none⟩ u) g e (cs.set j u) := by
  unfold Row at h ⊢
  simp [World.setCell, Array.getElem?_modify, h]
theorem grown_setCell (w : World) (g j : Nat) (u : Value) : w.grownBy (w.setCell ⟨g, j, none⟩ u) (some g) :=
  ⟨rfl, rfl, rfl, by simp, fun k _ hk => Go.Deep.blk_setCell_other w _ u k (fun e => hk (by rw [e]))⟩

theorem grown_drew {a w : World} {row : Option Nat} (h : a.grownBy w row) : a.grownBy w.drew row := ⟨h.os, h.tape, h.output, h.size, h.block⟩
/-- The cells of bools. -/
def bls (l : List Bool) : List Value := l.map Value.bool
/-- The list whose ends have been exchanged i times. -/
def revK (l : List Bool) (i : Nat) : List Bool := (List.range l.length).map fun t => if t < i ∨ l.length - i ≤ t then l.getD (l.length - 1 - t) false else l.getD t false
theorem revK_len (l : List Bool) (i : Nat) : (revK l i).length = l.length := by simp [revK]
theorem revK_at (l : List Bool) (i : Nat) {t : Nat} (ht : t < l.length) : (revK l i)[t]? = some (if t < i ∨ l.length - i ≤ t then l.getD (l.length - 1 - t) false else l.getD t false) := by simp [revK, ht]
theorem revK_zero (l : List Bool) : revK l 0 = l := by
  refine List.ext_getElem? fun t => ?_
  by_cases ht : t < l.length
  · rw [revK_at l 0 ht, if_neg (by omega)]; simp [ht]
  · rw [List.getElem?_eq_none (by rw [revK_len]; omega), List.getElem?_eq_none (by omega)]
theorem revK_end (l : List Bool) {i : Nat} (h : l.length ≤ 2 * i + 1) : revK l i = l.reverse := by
  refine List.ext_getElem? fun t => ?_
  by_cases ht : t < l.length
  · rw [revK_at l i ht, List.getElem?_reverse ht]
    by_cases hc : t < i ∨ l.length - i ≤ t
    · rw [if_pos hc]; simp [show l.length - 1 - t < l.length by omega]
    · rw [if_neg hc, show l.length - 1 - t = t by omega]; simp [ht]
  · rw [List.getElem?_eq_none (by rw [revK_len]; omega), List.getElem?_eq_none (by rw [List.length_reverse]; omega)]
theorem revK_step (l : List Bool) {i j : Nat} (hij : i < j) (hj : i + j + 1 = l.length) (x y : Bool) (hx : (revK l i)[i]? = some x) (hy : (revK l i)[j]? = some y) : ((revK l i).set i y).set j x = revK l (i + 1) := by
  rw [revK_at l i (by omega), if_neg (by omega)] at hx hy
  simp only [Option.some.injEq] at hx hy
  refine List.ext_getElem? fun t => ?_
  by_cases ht : t < l.length
  · rw [revK_at l (i + 1) ht, List.getElem?_set, List.getElem?_set]
    by_cases h1 : j = t
    · subst h1
      rw [if_pos rfl, if_pos (by rw [List.length_set, revK_len]; omega), if_pos (by omega), show l.length - 1 - j = i by omega, ← hx]
    · rw [if_neg h1]
      by_cases h2 : i = t
      · subst h2
        rw [if_pos rfl, if_pos (by rw [revK_len]; omega), if_pos (by omega), show l.length - 1 - i = j by omega, ← hy]
      · rw [if_neg h2, revK_at l i ht]
        by_cases h3 : t < i ∨ l.length - i ≤ t
        · rw [if_pos h3, if_pos (by omega)]
        · rw [if_neg h3, if_neg (by omega)]
  · rw [List.getElem?_eq_none (by simp [revK_len]; omega), List.getElem?_eq_none (by rw [revK_len]; omega)]
theorem bls_get {l : List Bool} {t : Nat} {x : Bool} (h : l[t]? = some x) (r : List Value) : (bls l ++ r)[t]? = some (.bool x) := by
  have ht := (List.getElem?_eq_some_iff.1 h).1
  rw [List.getElem?_append_left (by simpa [bls] using ht)]
  simp [bls, h]
theorem bls_set {l : List Bool} {t : Nat} (h : t < l.length) (x : Bool) (r : List Value) : (bls l ++ r).set t (.bool x) = bls (l.set t x) ++ r := by
  rw [List.set_append_left _ _ (by simpa [bls] using h)]
  simp [bls, List.map_set]

set_option maxRecDepth 100000 in
set_option maxHeartbeats 1000000 in
theorem reverse_any (g n c : Nat) (l : List Bool) (r : List Value) (w : World) (hr : Row w g 4 (bls l ++ r)) (hl : l.length = n) (hn : n ≤ 1000) :
    Calls Tryd.prog 77 #[.slice (some ⟨g, 0, none⟩) n c] w fun e w' => e = .returned (.tuple #[]) ∧ Row w' g 4 (bls l.reverse ++ r) ∧ w.grownBy w' (some g) := by
  have HL := Lib.hid hl
  go_enter Tryd.func77, Tryd.ntmps77
  go_wp2_with fail
  go_loopg [2, 3] n (fun gk s2 s3 wr => ∃ i : Nat, s2 = .int .i64 (i : Int) ∧ s3 = .int .i64 ((n : Int) - 1 - i) ∧ n ≤ gk + i ∧ 2 * i ≤ n + 1 ∧ Row wr g 4 (bls (revK l i) ++ r) ∧ w.grownBy wr (some g))
  case atStart => exact ⟨0, rfl, by go_num, by omega, by omega, by rw [revK_zero]; exact hr, World.grownBy.refl _ _⟩
  case round =>
    obtain ⟨i, rfl, rfl, hg, h2, hrow, hgr⟩ := hrel
    by_cases hlt : 2 * i + 1 < n
    · obtain ⟨j, hj⟩ : ∃ j, i + j + 1 = n := ⟨n - 1 - i, by omega⟩
      have hij : i < j := by omega
      rw [show (n : Int) - 1 - i = (j : Int) by omega]
      obtain ⟨x, hx⟩ : ∃ x, (revK l i)[i]? = some x := ⟨_, List.getElem?_eq_getElem (by rw [revK_len, HL.out]; omega)⟩
      obtain ⟨y, hy⟩ : ∃ y, (revK l i)[j]? = some y := ⟨_, List.getElem?_eq_getElem (by rw [revK_len, HL.out]; omega)⟩
      have hci : wr.cell? ⟨g, i, none⟩ = some (.bool x) := hrow.cell (bls_get hx r)
      have hcj : wr.cell? ⟨g, j, none⟩ = some (.bool y) := hrow.cell (bls_get hy r)
      have hfi := hrow.free i
      have hfj := hrow.free j
      have HROW := Lib.hid hrow
      have hin : i < n := by omega
      have hjn : j < n := by omega
      clear hr hrow
      go_wp2_with fail
      go_region
      have hrow2 : Row ((wr.setCell ⟨g, i, none⟩ (.bool y)).setCell ⟨g, j, none⟩ (.bool x)).drew g 4 (bls (revK l (i + 1)) ++ r) := by
        have h := (HROW.out.setCell i (.bool y)).setCell j (.bool x)
        rw [bls_set (by rw [revK_len, HL.out]; omega), bls_set (by rw [List.length_set, revK_len, HL.out]; omega), revK_step l hij (by rw [HL.out]; omega) x y hx hy] at h
        exact h
      have hgr2 : w.grownBy ((wr.setCell ⟨g, i, none⟩ (.bool y)).setCell ⟨g, j, none⟩ (.bool x)).drew (some g) := grown_drew ((hgr.trans (grown_setCell wr g i _)).trans (grown_setCell _ g j _))
      generalize ((wr.setCell ⟨g, i, none⟩ (.bool y)).setCell ⟨g, j, none⟩ (.bool x)).drew = wn at *
      clear hci hcj hfi hfj HROW hx hy
      go_wp2_with fail
      go_roundg (gk - 1)
      case measure => omega
      case rel => exact ⟨i + 1, by go_num, by go_num, by omega, by omega, hrow2, hgr2⟩
    · go_wp2_with fail
      go_end0
      refine ⟨rfl, ?_, hgr⟩
      rw [← revK_end l (i := i) (by rw [HL.out]; omega)]
      exact hrow
end Go.Proofs.YtfmcgcdppbcfjaaDoor

/-
  What merkle.turns returns: a contract by a walk. Condition: at most 1000 leaves.
-/
namespace Go.Proofs.YtfmcgcdppbcfjaaDoor
open Go.RowKit

theorem info_bool : (Tryd.prog.info? 4).map (fun i => (i.zero, i.size, i.bytes)) = some (some (.bool false), 1, 1) := by kernel_rfl

set_option maxRecDepth 100000 in
set_option maxHeartbeats 1000000 in
theorem reverse_nil (c : Nat) (w : World) : Calls Tryd.prog 77 #[.slice none 0 c] w fun e w' => e = .returned (.tuple #[]) ∧ w' = w := by
  go_enter Tryd.func77, Tryd.ntmps77
  go_wp2_with fail
  go_loopg [2, 3] 0 (fun _ s2 s3 wr => s2 = .int .i64 0 ∧ s3 = .int .i64 (-1) ∧ wr = w)
  case atStart => exact ⟨rfl, rfl, rfl⟩
  case round =>
    obtain ⟨rfl, rfl, rfl⟩ := hrel
    go_wp2_with fail
    go_end0
    exact ⟨rfl, rfl⟩
/-- A slice of bools of the call's own, turned round by slices.Reverse. -/
theorem reverse_own (base n : Nat) (v : Value) (l : List Bool) (w : World) (ho : w.ownsRow base 4 1 v n (bls l)) (hb : base ≤ w.heap.size) (hl : l.length = n) (hn : n ≤ 1000) :
    Calls Tryd.prog 77 #[v] w fun e w' => e = .returned (.tuple #[]) ∧ w'.ownsRow base 4 1 v n (bls l.reverse) ∧ Below base w w' := by
  obtain ⟨hlen, ⟨rfl, h0⟩ | ⟨g, cap, cur, rfl, hbg, hg, hnc, hcm, hcs, htk⟩⟩ := ho
  · subst h0
    obtain rfl : l = [] := List.eq_nil_of_length_eq_zero hl
    exact (reverse_nil 0 w).mono fun e w' h => ⟨h.1, by rw [h.2]; exact World.ownsRow_nil w _ _ _, by rw [h.2]; exact Below.refl _ _⟩
  · have hrow : Row w g 4 (bls l ++ cur.toList.drop n) := by
      show w.heap[g]? = _
      rw [hg, ← htk, Nat.mul_one, List.take_append_drop]
    have hlr : (bls l.reverse).length = n := by unfold bls; rw [List.length_map, List.length_reverse, hl]
    refine (reverse_any g n cap l _ w hrow hl hn).mono fun e w' h => ⟨h.1, ⟨by rw [hlr, Nat.mul_one], Or.inr ⟨g, cap, (bls l.reverse ++ cur.toList.drop n).toArray, rfl, hbg, h.2.1, hnc, hcm, ?_, ?_⟩⟩, (Below.refl _ _).grown h.2.2 hb (by rintro k hk; cases hk; exact hbg)⟩
    · simp only [List.size_toArray, List.length_append, hlr, List.length_drop, Array.length_toList]
      omega
    · rw [Nat.mul_one, List.take_append_of_le_length (by omega), List.take_of_length_le (by omega)]

set_option maxRecDepth 100000 in
set_option maxHeartbeats 1000000 in
theorem turns_any (n i : Nat) (hn : n ≤ 1000) (hi : i < n) (w : World) : Calls Tryd.prog 61 #[.int .i64 (n : Int), .int .i64 (i : Int)] w fun e w' =>
    ∃ v, e = .returned v ∧ w'.ownsRow w.heap.size 4 1 v (turns n i).length (bls (turns n i)) ∧ Below w.heap.size w w' := by
  obtain ⟨i0, hi0, hz0, hz1, hz2⟩ := info_parts info_bool
  have HT := Lib.hid (turnsR_len n n i (Nat.le_refl _))
  have hpl : plen n i ≤ 10 := plen_le 10 n i (by omega)
  have HE : Hid (turns n i = (turnsR n i).reverse) := rfl
  generalize turns n i = T at *
  go_enter Tryd.func61, Tryd.ntmps61
  go_wp2_with fail
  go_loopg [0, 1, 5] n (fun g a b v wr => ∃ (x y : Nat) (P : List Bool), x ≤ g ∧ x ≤ 1000 ∧ y < x ∧ a = .int .i64 (x : Int) ∧ b = .int .i64 (y : Int) ∧ Hid (P ++ turnsR x y = turnsR n i) ∧ wr.ownsRow w.heap.size 4 1 v P.length (bls P) ∧ Below w.heap.size w wr)
  case atStart => exact ⟨n, i, [], Nat.le_refl _, hn, hi, rfl, rfl, rfl, World.ownsRow_nil w _ _ _, Below.refl _ _⟩
  case round =>
    obtain ⟨x, y, P, hxg, hx, hyx, rfl, rfl, HP, hown, hb⟩ := hrel
    have hPl : P.length ≤ 10 := by
      have e := congrArg List.length HP.out
      rw [List.length_append, HT.out] at e
      omega
    by_cases h2 : 2 ≤ x
    · have hs1 := split_pos x
      have hs2 := split_lt h2
      have HSP := fun W => Lib.hid (split_any x h2 hx W)
      by_cases hys : y < split x
      · have HQ : Hid ((P ++ [false]) ++ turnsR (split x) y = turnsR n i) := by
          show _ = _
          rw [← HP.out, turnsR_left h2 hys]; simp
        generalize split x = k at *
        go_wp2_with fail
        refine (HSP _).out.mono ?_
        rintro e w2 ⟨rfl, rfl⟩
        go_wp2_with (at_builtin; refine wpList_append_src _ rfl (.tmp 23) (.tmp 25) _ _ rfl w.heap.size 4 i0 _ 1 1 Tryd.underlying91 hi0 hz0 hz1 hz2 rfl _ _ _ rfl (hown.alloc _) 1 _ (Src.box Tryd.underlying91 _ _ _ rfl _) (by unfold maxLen; omega) (by omega) (by have := hb.size; simp; omega) ?_; intro v3 w3 hown3 hb3)
        go_roundg k
        case measure => omega
        case rel =>
          refine ⟨k, y, P ++ [false], Nat.le_refl _, by omega, hys, rfl, rfl, HQ, ?_, (hb.alloc hb.size _).trans hb3⟩
          rw [List.length_append]
          simpa [bls] using hown3
      · have HQ : Hid ((P ++ [true]) ++ turnsR (x - split x) (y - split x) = turnsR n i) := by
          show _ = _
          rw [← HP.out, turnsR_right h2 hys]; simp
        generalize split x = k at *
        go_wp2_with fail
        refine (HSP _).out.mono ?_
        rintro e w2 ⟨rfl, rfl⟩
        go_wp2_with (at_builtin; refine wpList_append_src _ rfl (.tmp 23) (.tmp 25) _ _ rfl w.heap.size 4 i0 _ 1 1 Tryd.underlying91 hi0 hz0 hz1 hz2 rfl _ _ _ rfl (hown.alloc _) 1 _ (Src.box Tryd.underlying91 _ _ _ rfl _) (by unfold maxLen; omega) (by omega) (by have := hb.size; simp; omega) ?_; intro v3 w3 hown3 hb3)
        go_roundg (x - k)
        case measure => omega
        case rel =>
          refine ⟨x - k, y - k, P ++ [true], Nat.le_refl _, by omega, by omega, by go_num, by go_num, HQ, ?_, (hb.alloc hb.size _).trans hb3⟩
          rw [List.length_append]
          simpa [bls] using hown3
    · have HQ : Hid (P = turnsR n i) := by
        have e := HP.out
        rw [turnsR_less h2, List.append_nil] at e
        exact e
      go_wp2_with fail
      refine (reverse_own w.heap.size P.length _ P _ hown hb.size rfl (by omega)).mono ?_
      rintro e w2 ⟨rfl, hown2, hb2⟩
      go_wp2_with fail
      go_ret
      refine ⟨_, rfl, ?_, hb.trans hb2⟩
      rw [HE.out, ← HQ.out, List.length_reverse]
      exact hown2
end Go.Proofs.YtfmcgcdppbcfjaaDoor

/-
  What merkle.Verify returns: contracts by walks. Conditions: the table of constants as laid; sizes of at most 1000. (With these, all contracts of package merkle are here: Root and Prove are imported.)
-/
namespace Go.Proofs.YtfmcgcdppbcfjaaDoor
open Go.RowKit

set_option maxRecDepth 100000 in
set_option maxHeartbeats 1000000 in
theorem verify_bad (A : Option Addr) (c q n : Nat) (i : Int) (rt leaf : List UInt8) (w : World) (hi : i < 0 ∨ (n : Int) ≤ i) :
    Calls Tryd.prog 34 #[.agg (bvs rt).toArray, .int .i64 (n : Int), .int .i64 i, .agg (bvs leaf).toArray, .slice A q c] w (TellsB false w) := by
  by_cases h0 : i < 0
  · go_enter Tryd.func34, Tryd.ntmps34
    go_wp2_with (first
      | (with_reducible refine wpList_box_row (o := ⟨some 5, _, _, _, _, _⟩) rfl _ _ rfl (bvs rt) rfl ?_; intro w1 hrow1 hs1 hg1)
      | (with_reducible refine wpList_box_row (o := ⟨some 8, _, _, _, _, _⟩) rfl _ _ rfl (bvs leaf) rfl ?_; intro w2 hrow2 hs2 hg2))
    go_ret
    exact ⟨rfl, below_kept (grown_below hg1 (Nat.le_refl _) (by simp)) hg2 (by omega) (by simp)⟩
  · have h1 : (n : Int) ≤ i := by omega
    go_enter Tryd.func34, Tryd.ntmps34
    go_wp2_with (first
      | (with_reducible refine wpList_box_row (o := ⟨some 5, _, _, _, _, _⟩) rfl _ _ rfl (bvs rt) rfl ?_; intro w1 hrow1 hs1 hg1)
      | (with_reducible refine wpList_box_row (o := ⟨some 8, _, _, _, _, _⟩) rfl _ _ rfl (bvs leaf) rfl ?_; intro w2 hrow2 hs2 hg2))
    go_ret
    exact ⟨rfl, below_kept (grown_below hg1 (Nat.le_refl _) (by simp)) hg2 (by omega) (by simp)⟩

set_option maxRecDepth 100000 in
set_option maxHeartbeats 1000000 in
theorem verify_any (A : Option Addr) (c q n i : Nat) (rt leaf : List UInt8) (p : List (List UInt8)) (w : World) (hK : Consts w) (ht : rt.length = 16) (hl : leaf.length = 16) (hr : ReadsD w A q p) (hc : q ≤ c) (hq : q ≤ 1000) (hn : n ≤ 1000) (hi : i < n) :
    Calls Tryd.prog 34 #[.agg (bvs rt).toArray, .int .i64 (n : Int), .int .i64 (i : Int), .agg (bvs leaf).toArray, .slice A q c] w (TellsB (mVerify rt leaf p n i) w) := by
  have HT := Lib.hid ht
  have HL := Lib.hid hl
  have HPL := Lib.hid hr.len
  have HTL := Lib.hid (turns_len n i)
  have HNO : plen n i ≠ q → Hid (mVerify rt leaf p n i = false) := fun h => mVerify_no (by omega) (by rw [hr.len]; exact fun e => h e.symm)
  have HUP : plen n i = q → Hid (mVerify rt leaf p n i = (upK leaf (turns n i) p q == rt)) := fun h => by
    have e := mVerify_up (rt := rt) (leaf := leaf) (p := p) (n := n) (i := i) (by omega) (by rw [hr.len, h])
    rw [hr.len] at e
    exact e
  have HTU := fun W => Lib.hid (turns_any n i hn hi W)
  generalize mVerify rt leaf p n i = V at *
  generalize turns n i = T at *
  clear ht hl
  have hik : ¬ n ≤ i := by omega
  go_enter Tryd.func34, Tryd.ntmps34
  go_wp2_with (first
    | (with_reducible refine wpList_box_row (o := ⟨some 5, _, _, _, _, _⟩) rfl _ _ rfl (bvs rt) rfl ?_; intro w1 hrow1 hs1 hg1)
    | (with_reducible refine wpList_box_row (o := ⟨some 8, _, _, _, _, _⟩) rfl _ _ rfl (bvs leaf) rfl ?_; intro w2 hrow2 hs2 hg2; have hb2 : Below w.heap.size w w2 := below_kept (grown_below hg1 (Nat.le_refl _) (by simp)) hg2 (by omega) (by simp)))
  have hrow1' := hrow1.kept hg2 (by simp)
  have hlt1 := hrow1'.lt
  have hlt2 := hrow2.lt
  clear hg1 hg2 hrow1
  refine (HTU _).out.mono ?_
  rintro e w3 ⟨v, rfl, hown3, hb3⟩
  have hrow31 := hrow1'.on hb3
  have hrow32 := hrow2.on hb3
  have hb3' := hb2.trans (hb3.mono hb2.size)
  obtain ⟨A3, c3, rfl, hc3, hm3, hrd3⟩ := own_form hown3
  clear hown3 HTU hrow1' hrow2
  by_cases hqp : plen n i = q
  · have HV := (HUP hqp)
    rw [show T.length = q from HTL.out.trans hqp] at hrd3 ⊢
    have HTL2 : Hid (T.length = q) := HTL.out.trans hqp
    clear HUP HNO HTL hqp
    go_wp2_with (with_reducible refine wpList_load_all (o := ⟨some 30, _, _, _, _, _⟩) rfl _ _ rfl w1.heap.size rfl _ _ hrow32 _ Tryd.underlying23 rfl (b16_size _ HL.out) ?_)
    refine (leafDigest_any leaf HL.out _ (hK.on hb3')).mono ?_
    rintro e w4 ⟨rfl, hb4⟩
    have hb4' := hb3'.trans (hb4.mono hb3'.size)
    have hrow41 := hrow31.on hb4
    have hrd4 := hrd3.on hb4
    have hlt4 := hrow41.lt
    have hsz4 := hb4.size
    clear hrow31 hrow32 hrd3
    have HML := Lib.hid (mLeaf_len leaf)
    have HU0 : Hid (mLeaf leaf = upK leaf T p 0) := rfl
    generalize mLeaf leaf = D0 at *
    go_wp2_with (first
      | (with_reducible refine wpList_alloc_row (o := ⟨some 12, _, _, _, _, _⟩) rfl _ rfl zeros16 zero_b16 ?_; intro w5 hrow5 hs5 hg5)
      | (with_reducible refine wpList_store_all (o := ⟨none, _, _, _, _, _⟩) rfl _ _ _ rfl w4.heap.size rfl _ _ hrow5 (bvs D0) rfl (bvs_one _) (b16_zeros _ HML.out) (b16_size _ HML.out) ?_; intro w6 hrow6 hg6))
    have hb6 : Below w.heap.size w w6 := below_kept (below_kept hb4' hg5 hb4'.size (by simp)) hg6 (by have := hb4'.size; omega) (by rintro k hk; cases hk; exact hb4'.size)
    have hb46 : Below w4.heap.size w4 w6 := below_kept (grown_below hg5 (Nat.le_refl _) (by simp)) hg6 (by omega) (by rintro k hk; cases hk; exact Nat.le_refl _)
    have hrow61 := hrow41.on hb46
    have hrd6 := hrd4.on hb46
    clear hrow5 hg5 hg6 hrow61 hrd6
    go_loopg [34] q (fun gk s wr => ∃ j : Nat, s = .int .i64 (j : Int) ∧ q ≤ gk + j ∧ j ≤ q ∧ Row wr w4.heap.size 23 (bvs (upK leaf T p j)) ∧ Below w4.heap.size w4 wr)
    case atStart => exact ⟨0, rfl, by omega, by omega, by rw [← HU0.out]; exact hrow6, hb46⟩
    case round =>
      obtain ⟨j, rfl, hgk, hjq, hrow, hbr⟩ := hrel
      have hbw := hb4'.trans (hbr.mono hb4'.size)
      have hrt := hrow41.on hbr
      have HUL := Lib.hid (upK_len leaf T p j)
      by_cases hlt : j < q
      · have hpr := hr.on hbw
        obtain ⟨ad, u, rfl, hab, hu, hcu⟩ := (hrd4.on hbr).at_ hlt
        obtain ⟨b, hb, rfl⟩ : ∃ b, T[j]? = some b ∧ u = .bool b := by
          unfold bls at hu
          rw [List.getElem?_map] at hu
          cases hT : T[j]? with
          | none => rw [hT] at hu; simp at hu
          | some b => rw [hT] at hu; exact ⟨b, rfl, by simpa using hu.symm⟩
        obtain ⟨ap, d, rfl, hapb, hd, hd16, hcl⟩ := hpr.1.dig_at hpr.2 (k := j) hlt
        have HD := Lib.hid hd16
        have HC := Lib.hid hcl
        have HUS : Hid (upK leaf T p (j + 1) = if b then mNode d (upK leaf T p j) else mNode (upK leaf T p j) d) := by
          show _ = _
          rw [upK, List.getD_eq_getElem?_getD, hb, List.getD_eq_getElem?_getD, hd]; rfl
        have HNL := Lib.hid (upK_len leaf T p (j + 1))
        have hzr := hbr.size
        generalize hDE : upK leaf T p (j + 1) = D' at HUS HNL
        have HDE := Lib.hid hDE
        clear hDE
        generalize upK leaf T p j = D at *
        clear hd16 hcl hpr hu hb hd
        cases b with
        | true =>
          have HS2 : Hid (mNode d D = D') := by show _ = _; rw [HUS.out]; rfl
          clear HUS
          go_wp2_with fail
          refine wp_region_tail 5 (by kernel_rfl) (by kernel_rfl) ?_
          simp only [List.take_succ_cons, List.take_zero, List.drop_succ_cons, List.drop_zero]
          repeat (first
            | (refine wpQuiet_valueG (o := ⟨some 43, _, _, _, _, _⟩) rfl _ (by rintro _ rfl; exact exec_load16 _ _ rfl _ rfl d HD.out (fun k u hu => by rw [add_of_add]; exact HC.out k u hu)) ?_; simp only [Act.put, List.setIfInBounds_toArray, List.set_cons_zero, List.set_cons_succ])
            | (refine wpQuiet_valueG (o := ⟨some 44, _, _, _, _, _⟩) rfl _ (by rintro _ rfl; exact exec_load16 _ _ rfl _ rfl D HUL.out hrow.drew.cells) ?_; simp only [Act.put, List.setIfInBounds_toArray, List.set_cons_zero, List.set_cons_succ])
            | go_big_quiet_step (fail))
          refine wpQuiet_nil ?_
          go_wp2_with fail
          refine (node_any d D HD.out HUL.out _ (hK.on hbw.drew)).mono ?_
          rintro e w7 ⟨rfl, hb7⟩
          rw [HS2.out]
          have hrow7 := hrow.drew.on hb7
          have hbr7 : Below w4.heap.size w4 w7 := hbr.drew.trans (hb7.mono hzr)
          have hz7 := hbr7.size
          go_wp2_with (with_reducible refine wpList_store_all (o := ⟨none, _, _, _, _, _⟩) rfl _ _ _ rfl w4.heap.size rfl _ _ hrow7 (bvs D') rfl (bvs_one _) (by rw [bvs_length, bvs_length, HUL.out, HNL.out]) (b16_size _ HNL.out) ?_; intro w8 hrow8 hg8)
          go_roundg (gk - 1)
          case measure => omega
          case rel => exact ⟨j + 1, by go_num, by omega, by omega, by rw [HDE.out]; exact hrow8, below_kept hbr7 hg8 hz7 (by rintro k hk; cases hk; exact Nat.le_refl _)⟩
        | false =>
          have HS2 : Hid (mNode D d = D') := by show _ = _; rw [HUS.out]; rfl
          clear HUS
          go_wp2_with fail
          refine wp_region_tail 5 (by kernel_rfl) (by kernel_rfl) ?_
          simp only [List.take_succ_cons, List.take_zero, List.drop_succ_cons, List.drop_zero]
          repeat (first
            | (refine wpQuiet_valueG (o := ⟨some 50, _, _, _, _, _⟩) rfl _ (by rintro _ rfl; exact exec_load16 _ _ rfl _ rfl d HD.out (fun k u hu => by rw [add_of_add]; exact HC.out k u hu)) ?_; simp only [Act.put, List.setIfInBounds_toArray, List.set_cons_zero, List.set_cons_succ])
            | (refine wpQuiet_valueG (o := ⟨some 46, _, _, _, _, _⟩) rfl _ (by rintro _ rfl; exact exec_load16 _ _ rfl _ rfl D HUL.out hrow.drew.cells) ?_; simp only [Act.put, List.setIfInBounds_toArray, List.set_cons_zero, List.set_cons_succ])
            | go_big_quiet_step (fail))
          refine wpQuiet_nil ?_
          go_wp2_with fail
          refine (node_any D d HUL.out HD.out _ (hK.on hbw.drew)).mono ?_
          rintro e w7 ⟨rfl, hb7⟩
          rw [HS2.out]
          have hrow7 := hrow.drew.on hb7
          have hbr7 : Below w4.heap.size w4 w7 := hbr.drew.trans (hb7.mono hzr)
          have hz7 := hbr7.size
          go_wp2_with (with_reducible refine wpList_store_all (o := ⟨none, _, _, _, _, _⟩) rfl _ _ _ rfl w4.heap.size rfl _ _ hrow7 (bvs D') rfl (bvs_one _) (by rw [bvs_length, bvs_length, HUL.out, HNL.out]) (b16_size _ HNL.out) ?_; intro w8 hrow8 hg8)
          go_roundg (gk - 1)
          case measure => omega
          case rel => exact ⟨j + 1, by go_num, by omega, by omega, by rw [HDE.out]; exact hrow8, below_kept hbr7 hg8 hz7 (by rintro k hk; cases hk; exact Nat.le_refl _)⟩
      · obtain rfl : j = q := by omega
        go_wp2_with (first
          | (refine wpList_valueG (o := ⟨some 53, _, _, _, _, _⟩) rfl _ (by exact exec_load16 _ _ rfl _ rfl _ HUL.out hrow.cells) ?_)
          | (refine wpList_valueG (o := ⟨some 54, _, _, _, _, _⟩) rfl _ (by exact exec_load16 _ _ rfl _ rfl rt HT.out hrt.cells) ?_)
          | (refine wpList_valueG (o := ⟨some 55, _, _, _, _, _⟩) rfl _ (by exact exec_eql16 _ _ _ rfl _ rt HUL.out HT.out rfl rfl) ?_))
        go_ret
        exact ⟨by rw [HV.out]; rfl, hbw⟩
  · have HV := (HNO hqp)
    have hne : ((q : Int) != (T.length : Int)) = true := by simp; intro h; exact hqp (by rw [← HTL.out]; omega)
    generalize T.length = L at *
    go_wp2_with fail
    go_ret
    exact ⟨by rw [HV.out]; rfl, hb3'⟩
end Go.Proofs.YtfmcgcdppbcfjaaDoor
