/-
  What the reference's Leaf, Node and Split return: contracts by walks. No condition but bounded sizes.
-/
import Derived.Test.YtpmkjnmddglckaaDoorMerkle
namespace Go.Proofs.YtpmkjnmddglckaaDoor
open Go.RowKit

theorem readsP_one (w : World) (t : TypeId) (A1 : Option Addr) (n1 c1 : Nat) (l1 : List UInt8) (h1 : Reads w w.heap.size 1 A1 n1 (bvs l1)) (hc1 : n1 ≤ c1) :
    ReadsP (w.alloc (.cells #[.slice A1 n1 c1] t)) (w.alloc (.cells #[.slice A1 n1 c1] t)).heap.size (some ⟨w.heap.size, 0, none⟩) 1 [⟨A1, n1, c1, l1⟩] := by
  have hsz : (w.alloc (.cells #[.slice A1 n1 c1] t)).heap.size = w.heap.size + 1 := by simp
  refine ⟨⟨rfl, fun _ => ⟨_, rfl, by rw [hsz]; exact Nat.lt_succ_self _, (row_alloc w t [.slice A1 n1 c1]).cells⟩⟩, fun p hp => ?_⟩
  simp only [List.mem_cons, List.not_mem_nil, or_false] at hp
  subst hp
  exact ⟨(h1.alloc (Nat.le_refl _) _).more (by rw [hsz]; omega), hc1⟩
theorem readsP_none (w : World) (B : Nat) : ReadsP w B none 0 [] := ⟨⟨rfl, fun h => absurd h (by omega)⟩, by simp⟩
theorem parts_one_le (p : Part) (m : Nat) (hp : p.n ≤ m) : ∀ r ∈ [p], r.n ≤ m := by
  intro r hr
  simp only [List.mem_cons, List.not_mem_nil, or_false] at hr
  subst hr
  exact hp
theorem Row.reads16 {w : World} {g : Nat} {e : TypeId} {d : List UInt8} (h : Row w g e (bvs d)) (hd : d.length = 16) : Reads w w.heap.size 1 (some ⟨g, 0, none⟩) 16 (bvs d) :=
  h.reads (by rw [bvs_length, hd])

set_option maxRecDepth 100000 in
set_option maxHeartbeats 1000000 in
theorem refLeaf_any (d : List UInt8) (hd : d.length = 16) (w : World) : Calls Tryd.prog 28 #[.agg (bvs d).toArray] w (GivesV (.agg (bvs (mLeaf d)).toArray) w) := by
  have HD := Lib.hid hd
  have HL := Lib.hid (mLeaf_len d)
  have HH : ∀ A c, Hid (dig 1 [⟨A, 16, c, d⟩] = mLeaf d) := fun _ _ => rfl
  clear hd
  generalize mLeaf d = D at *
  go_enter Tryd.func28, Tryd.ntmps28
  go_wp2_with (first
    | (with_reducible refine wpList_box_row (o := ⟨some 1, _, _, _, _, _⟩) rfl _ _ rfl (bvs d) rfl ?_; intro w1 hrow1 hs1 hg1)
    | (with_reducible refine wpList_alloc_row (o := ⟨some 2, _, _, _, _, _⟩) rfl _ rfl zeros16 zero_b16 ?_; intro w2 hrow2 hs2 hg2))
  have hrow1' := hrow1.kept hg2 (by simp)
  have hrp := readsP_one w2 39 (some ⟨w.heap.size, 0, none⟩) 16 16 d (hrow1'.reads16 HD.out) (Nat.le_refl _)
  have hb2 : Below w.heap.size w w2 := below_kept (grown_below hg1 (Nat.le_refl _) (by simp)) hg2 (by omega) (by simp)
  have hlt2 := hrow2.lt
  clear hrow1 hrow1' hg1 hg2
  refine (refDigest_any 1 _ _ _ _ _ hrp (by omega) (parts_one_le _ 300 (show 16 ≤ 300 by omega))).mono ?_
  rintro e w3 ⟨rfl, hb3⟩
  rw [(HH _ _).out]
  have hb3' : Below w2.heap.size w2 w3 := ((Below.refl _ _).alloc (Nat.le_refl _) _).trans (hb3.mono (by simp))
  have hrow3 := hrow2.on hb3'
  go_wp2_with (with_reducible refine wpList_store_all (o := ⟨none, _, _, _, _, _⟩) rfl _ _ _ rfl w1.heap.size rfl _ _ hrow3 (bvs D) rfl (bvs_one _) (b16_zeros _ HL.out) (b16_size _ HL.out) ?_; intro wz hrowz hgz)
  have hload := run_loadVar_at (P := Tryd.prog) wz 28 ⟨w1.heap.size, 0, none⟩ (bvs D) hrowz.cells _ Tryd.underlying28 rfl (b16_size _ HL.out)
  have hb3w := hb2.trans (hb3'.mono hb2.size)
  exact bodyPost_ret (results_cell1 Tryd.results28 _ _ _ _ rfl hload) rfl ⟨rfl, below_kept hb3w hgz hb3w.size (by rintro k hk; cases hk; omega)⟩

set_option maxRecDepth 100000 in
set_option maxHeartbeats 1000000 in
theorem refNode_any (x y : List UInt8) (hx : x.length = 16) (hy : y.length = 16) (w : World) : Calls Tryd.prog 29 #[.agg (bvs x).toArray, .agg (bvs y).toArray] w (GivesV (.agg (bvs (mNode x y)).toArray) w) := by
  have HX := Lib.hid hx
  have HY := Lib.hid hy
  have HL := Lib.hid (mNode_len x y)
  have HH : ∀ A c B b, Hid (dig 2 [⟨A, 16, c, x⟩, ⟨B, 16, b, y⟩] = mNode x y) := fun _ _ _ _ => rfl
  clear hx hy
  generalize mNode x y = D at *
  go_enter Tryd.func29, Tryd.ntmps29
  go_wp2_with (first
    | (with_reducible refine wpList_box_row (o := ⟨some 2, _, _, _, _, _⟩) rfl _ _ rfl (bvs x) rfl ?_; intro w1 hrow1 hs1 hg1)
    | (with_reducible refine wpList_box_row (o := ⟨some 3, _, _, _, _, _⟩) rfl _ _ rfl (bvs y) rfl ?_; intro w2 hrow2 hs2 hg2)
    | (with_reducible refine wpList_alloc_row (o := ⟨some 4, _, _, _, _, _⟩) rfl _ rfl zeros16 zero_b16 ?_; intro w3 hrow3 hs3 hg3))
  have hrow1' := (hrow1.kept hg2 (by simp)).kept hg3 (by simp)
  have hrow2' := hrow2.kept hg3 (by simp)
  refine wp_region_tail 2 (by kernel_rfl) (by kernel_rfl) ?_
  simp only [List.take_succ_cons, List.take_zero, List.drop_succ_cons, List.drop_zero, Act.put, List.setIfInBounds_toArray, List.set_cons_zero, List.set_cons_succ]
  repeat (go_big_quiet_step (fail))
  refine wpQuiet_nil ?_
  have hrp := readsP_two w3.drew 39 (some ⟨w.heap.size, 0, none⟩) (some ⟨w1.heap.size, 0, none⟩) 16 16 16 16 x y (hrow1'.drew.reads16 HX.out) (Nat.le_refl _) (hrow2'.drew.reads16 HY.out) (Nat.le_refl _)
  have hb3 : Below w.heap.size w w3 := below_kept (below_kept (grown_below hg1 (Nat.le_refl _) (by simp)) hg2 (by omega) (by simp)) hg3 (by omega) (by simp)
  have hlt3 := hrow3.lt
  clear hrow1 hrow1' hrow2 hrow2' hg1 hg2 hg3
  go_wp2_with fail
  refine (refDigest_any 2 _ _ _ _ _ hrp (by omega) (parts_two_le _ _ 300 (show 16 ≤ 300 by omega) (show 16 ≤ 300 by omega))).mono ?_
  rintro e w4 ⟨rfl, hb4⟩
  rw [(HH _ _ _ _).out]
  have hb4' : Below w3.heap.size w3 w4 := (((Below.refl _ _).drew).alloc (Nat.le_refl _) _).trans (hb4.mono (by simp))
  have hrow4 := hrow3.on hb4'
  go_wp2_with (with_reducible refine wpList_store_all (o := ⟨none, _, _, _, _, _⟩) rfl _ _ _ rfl w2.heap.size rfl _ _ hrow4 (bvs D) rfl (bvs_one _) (b16_zeros _ HL.out) (b16_size _ HL.out) ?_; intro wz hrowz hgz)
  have hload := run_loadVar_at (P := Tryd.prog) wz 28 ⟨w2.heap.size, 0, none⟩ (bvs D) hrowz.cells _ Tryd.underlying28 rfl (b16_size _ HL.out)
  have hb4w := hb3.trans (hb4'.mono hb3.size)
  exact bodyPost_ret (results_cell1 Tryd.results29 _ _ _ _ rfl hload) rfl ⟨rfl, below_kept hb4w hgz hb4w.size (by rintro k hk; cases hk; omega)⟩

set_option maxRecDepth 100000 in
set_option maxHeartbeats 1000000 in
theorem refSplit_any (n : Nat) (h2 : 2 ≤ n) (hn : n ≤ 1000000000) (w : World) : Calls Tryd.prog 23 #[.int .i64 (n : Int)] w fun e w' => e = .returned (.int .i64 (split n : Int)) ∧ w' = w := by
  have HS : ∀ e : Nat, 2 ^ e < n → n ≤ 2 * 2 ^ e → Hid (2 ^ e = split n) := fun e h1 h2 => split_eq h1 h2
  generalize split n = S at *
  go_enter Tryd.func23, Tryd.ntmps23
  go_wp2_with fail
  go_loopg [3] (n - 1) (fun g i wr => ∃ k e : Nat, Hid (k + g = n) ∧ 1 ≤ k ∧ k < n ∧ i = .int .i64 (k : Int) ∧ wr = w ∧ Hid (k = 2 ^ e))
  case atStart => exact ⟨1, 0, by show _ = _; omega, by omega, by omega, rfl, rfl, rfl⟩
  case round =>
    obtain ⟨k, e, HK, hk1, hkn, rfl, rfl, HE⟩ := hrel
    by_cases hlt : 2 * k < n
    · go_wp2_with fail
      go_roundg (n - 2 * k)
      case measure => have := HK.out; omega
      case rel =>
        refine ⟨2 * k, e + 1, by show _ = _; omega, by omega, hlt, by go_num, rfl, ?_⟩
        show _ = _
        rw [Nat.pow_succ, HE.out]; omega
    · go_wp2_with fail
      go_ret
      refine ⟨?_, rfl⟩
      rw [← (HS e (by rw [← HE.out]; exact hkn) (by rw [← HE.out]; omega)).out, ← HE.out]
      rfl
end Go.Proofs.YtpmkjnmddglckaaDoor
