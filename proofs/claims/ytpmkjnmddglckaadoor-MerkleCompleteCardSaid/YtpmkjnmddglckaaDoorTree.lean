/-
  What merkle's leafDigest, nodeDigest and subtrees return: contracts by walks. Conditions: the table of constants as laid; between 2 and 1000 leaves.
-/
import Derived.Test.YtpmkjnmddglckaaDoorRMk
import Derived.Test.YtpmkjnmddglckaaDoorLen
import Derived.Test.YtpmkjnmddglckaaDoorCmp
namespace Go.Proofs.YtpmkjnmddglckaaDoor
open Go.RowKit

set_option maxRecDepth 100000 in
set_option maxHeartbeats 1000000 in
theorem leafDigest_any (d : List UInt8) (hd : d.length = 16) (w : World) (hK : Consts w) : Calls Tryd.prog 25 #[.agg (bvs d).toArray] w (GivesV (.agg (bvs (mLeaf d)).toArray) w) := by
  have HD := Lib.hid hd
  have HL := Lib.hid (mLeaf_len d)
  have HH : ∀ A c, Hid (dig 1 [⟨A, 16, c, d⟩] = mLeaf d) := fun _ _ => rfl
  clear hd
  generalize mLeaf d = D at *
  go_enter Tryd.func25, Tryd.ntmps25
  go_wp2_with (first
    | (with_reducible refine wpList_box_row (o := ⟨some 1, _, _, _, _, _⟩) rfl _ _ rfl (bvs d) rfl ?_; intro w1 hrow1 hs1 hg1)
    | (with_reducible refine wpList_alloc_row (o := ⟨some 2, _, _, _, _, _⟩) rfl _ rfl zeros16 zero_b16 ?_; intro w2 hrow2 hs2 hg2))
  have hrow1' := hrow1.kept hg2 (by simp)
  have hrp := readsP_one w2 39 (some ⟨w.heap.size, 0, none⟩) 16 16 d (hrow1'.reads16 HD.out) (Nat.le_refl _)
  have hb2 : Below w.heap.size w w2 := below_kept (grown_below hg1 (Nat.le_refl _) (by simp)) hg2 (by omega) (by simp)
  have hlt2 := hrow2.lt
  clear hrow1 hrow1' hg1 hg2
  refine (digest_any 1 _ _ _ _ _ (hK.on (hb2.alloc hb2.size _)) hrp (by omega) (parts_one_le _ 300 (show 16 ≤ 300 by omega))).mono ?_
  rintro e w3 ⟨rfl, hb3⟩
  rw [(HH _ _).out]
  have hb3' : Below w2.heap.size w2 w3 := ((Below.refl _ _).alloc (Nat.le_refl _) _).trans (hb3.mono (by simp))
  have hrow3 := hrow2.on hb3'
  go_wp2_with (with_reducible refine wpList_store_all (o := ⟨none, _, _, _, _, _⟩) rfl _ _ _ rfl w1.heap.size rfl _ _ hrow3 (bvs D) rfl (bvs_one _) (b16_zeros _ HL.out) (b16_size _ HL.out) ?_; intro wz hrowz hgz)
  have hload := run_loadVar_at (P := Tryd.prog) wz 28 ⟨w1.heap.size, 0, none⟩ (bvs D) hrowz.cells _ Tryd.underlying28 rfl (b16_size _ HL.out)
  have hb3w := hb2.trans (hb3'.mono hb2.size)
  exact bodyPost_ret (results_cell1 Tryd.results25 _ _ _ _ rfl hload) rfl ⟨rfl, below_kept hb3w hgz hb3w.size (by rintro k hk; cases hk; omega)⟩

set_option maxRecDepth 100000 in
set_option maxHeartbeats 1000000 in
theorem node_any (x y : List UInt8) (hx : x.length = 16) (hy : y.length = 16) (w : World) (hK : Consts w) : Calls Tryd.prog 26 #[.agg (bvs x).toArray, .agg (bvs y).toArray] w (GivesV (.agg (bvs (mNode x y)).toArray) w) := by
  have HX := Lib.hid hx
  have HY := Lib.hid hy
  have HL := Lib.hid (mNode_len x y)
  have HH : ∀ A c B b, Hid (dig 2 [⟨A, 16, c, x⟩, ⟨B, 16, b, y⟩] = mNode x y) := fun _ _ _ _ => rfl
  clear hx hy
  generalize mNode x y = D at *
  go_enter Tryd.func26, Tryd.ntmps26
  go_wp2_with (first
    | (with_reducible refine wpList_box_row (o := ⟨some 2, _, _, _, _, _⟩) rfl _ _ rfl (bvs x) rfl ?_; intro w1 hrow1 hs1 hg1)
    | (with_reducible refine wpList_box_row (o := ⟨some 3, _, _, _, _, _⟩) rfl _ _ rfl (bvs y) rfl ?_; intro w2 hrow2 hs2 hg2)
    | (with_reducible refine wpList_alloc_row (o := ⟨some 4, _, _, _, _, _⟩) rfl _ rfl zeros16 zero_b16 ?_; intro w3 hrow3 hs3 hg3))
  have hrow1' := (hrow1.kept hg2 (by simp)).kept hg3 (by simp)
  have hrow2' := hrow2.kept hg3 (by simp)
  refine wp_region_tail 2 (by kernel_rfl) (by kernel_rfl) ?_
  simp only [List.take_succ_cons, List.take_zero, List.drop_succ_cons, List.drop_zero, Act.put, List.setIfInBounds_toArray, List.set_cons_zero, List.set_cons_succ]
  repeat (go_big_quiet_step (fail))
  refine wpQuiet_nil ?_
  have hrp := readsP_two w3.drew 39 (some ⟨w.heap.size, 0, none⟩) (some ⟨w1.heap.size, 0, none⟩) 16 16 16 16 x y (hrow1'.drew.reads16 HX.out) (Nat.le_refl _) (hrow2'.drew.reads16 HY.out) (Nat.le_refl _)
  have hb3 : Below w.heap.size w w3 := below_kept (below_kept (grown_below hg1 (Nat.le_refl _) (by simp)) hg2 (by omega) (by simp)) hg3 (by omega) (by simp)
  have hlt3 := hrow3.lt
  clear hrow1 hrow1' hrow2 hrow2' hg1 hg2 hg3
  go_wp2_with fail
  refine (digest_any 2 _ _ _ _ _ (hK.on (hb3.drew.alloc hb3.size _)) hrp (by omega) (parts_two_le _ _ 300 (show 16 ≤ 300 by omega) (show 16 ≤ 300 by omega))).mono ?_
  rintro e w4 ⟨rfl, hb4⟩
  rw [(HH _ _ _ _).out]
  have hb4' : Below w3.heap.size w3 w4 := (((Below.refl _ _).drew).alloc (Nat.le_refl _) _).trans (hb4.mono (by simp))
  have hrow4 := hrow3.on hb4'
  go_wp2_with (with_reducible refine wpList_store_all (o := ⟨none, _, _, _, _, _⟩) rfl _ _ _ rfl w2.heap.size rfl _ _ hrow4 (bvs D) rfl (bvs_one _) (b16_zeros _ HL.out) (b16_size _ HL.out) ?_; intro wz hrowz hgz)
  have hload := run_loadVar_at (P := Tryd.prog) wz 28 ⟨w2.heap.size, 0, none⟩ (bvs D) hrowz.cells _ Tryd.underlying28 rfl (b16_size _ HL.out)
  have hb4w := hb3.trans (hb4'.mono hb3.size)
  exact bodyPost_ret (results_cell1 Tryd.results26 _ _ _ _ rfl hload) rfl ⟨rfl, below_kept hb4w hgz hb4w.size (by rintro k hk; cases hk; omega)⟩

set_option maxRecDepth 100000 in
set_option maxHeartbeats 1000000 in
theorem subtrees_any (ad : Addr) (c n : Nat) (h2 : 2 ≤ n) (hc : n ≤ c) (hn : n ≤ 1000) (w : World) : Calls Tryd.prog 22 #[.slice (some ad) n c] w fun e w' =>
    e = .returned (.tuple #[.slice (some ad) (split n) (split n), .slice (some (ad.add (split n * 16))) (n - split n) (n - split n)]) ∧ ∃ m, w' = w.drewN m := by
  have HS1 := split_pos n
  have HS2 := split_lt h2
  have HSP := fun W => Lib.hid (split_any n h2 hn W)
  generalize split n = k at *
  go_enter Tryd.func22, Tryd.ntmps22
  go_wp2_with fail
  refine (HSP _).out.mono ?_
  rintro e w2 ⟨rfl, rfl⟩
  go_wp2_with fail
  go_quiet (fail)
  go_wp2_with fail
  go_ret2
  exact ⟨rfl, _, rfl⟩
end Go.Proofs.YtpmkjnmddglckaaDoor
