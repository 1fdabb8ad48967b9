/-
  What the reference's Verify returns: a contract by a walk. Conditions: bounded sizes.
-/
import Derived.Test.YtpmkjnmddglckaaDoorRComb
import Derived.Test.YtpmkjnmddglckaaDoorGuard
namespace Go.Proofs.YtpmkjnmddglckaaDoor
open Go.RowKit

/-- Whether a proof (from the leaf up) yields the root. -/
def mVerify (rt leaf : List UInt8) (p : List (List UInt8)) (n i : Nat) : Bool := (combL leaf p n i).2 && (combL leaf p n i).1 == rt

set_option maxRecDepth 100000 in
set_option maxHeartbeats 1000000 in
theorem refVerify_bad (A : Option Addr) (c q n : Nat) (i : Int) (rt leaf : List UInt8) (w : World) (hi : i < 0 ∨ (n : Int) ≤ i) :
    Calls Tryd.prog 16 #[.agg (bvs rt).toArray, .int .i64 (n : Int), .int .i64 i, .agg (bvs leaf).toArray, .slice A q c] w (TellsB false w) := by
  by_cases h0 : i < 0
  · go_enter Tryd.func16, Tryd.ntmps16
    go_wp2_with (first
      | (with_reducible refine wpList_box_row (o := ⟨some 5, _, _, _, _, _⟩) rfl _ _ rfl (bvs rt) rfl ?_; intro w1 hrow1 hs1 hg1)
      | (with_reducible refine wpList_box_row (o := ⟨some 8, _, _, _, _, _⟩) rfl _ _ rfl (bvs leaf) rfl ?_; intro w2 hrow2 hs2 hg2))
    go_ret
    exact ⟨rfl, below_kept (grown_below hg1 (Nat.le_refl _) (by simp)) hg2 (by omega) (by simp)⟩
  · have h1 : (n : Int) ≤ i := by omega
    go_enter Tryd.func16, Tryd.ntmps16
    go_wp2_with (first
      | (with_reducible refine wpList_box_row (o := ⟨some 5, _, _, _, _, _⟩) rfl _ _ rfl (bvs rt) rfl ?_; intro w1 hrow1 hs1 hg1)
      | (with_reducible refine wpList_box_row (o := ⟨some 8, _, _, _, _, _⟩) rfl _ _ rfl (bvs leaf) rfl ?_; intro w2 hrow2 hs2 hg2))
    go_ret
    exact ⟨rfl, below_kept (grown_below hg1 (Nat.le_refl _) (by simp)) hg2 (by omega) (by simp)⟩

set_option maxRecDepth 100000 in
set_option maxHeartbeats 1000000 in
theorem refVerify_any (A : Option Addr) (c q n i : Nat) (rt leaf : List UInt8) (p : List (List UInt8)) (w : World) (ht : rt.length = 16) (hl : leaf.length = 16) (hr : ReadsD w A q p) (hc : q ≤ c) (hq : q ≤ 1000) (hn : n ≤ 1000000000) (hi : i < n) :
    Calls Tryd.prog 16 #[.agg (bvs rt).toArray, .int .i64 (n : Int), .int .i64 (i : Int), .agg (bvs leaf).toArray, .slice A q c] w (TellsB (mVerify rt leaf p n i) w) := by
  have HT := Lib.hid ht
  have HL := Lib.hid hl
  have HRL := Lib.hid (combL_len leaf p n i)
  have HC := fun W hW => Lib.hid (combine_any 1000 A c q n i leaf p W hq hl (hr.on hW) hc hq (by omega) hn hi)
  unfold mVerify
  generalize combL leaf p n i = R at *
  obtain ⟨D, ok⟩ := R
  clear ht hl
  have hik : ¬ n ≤ i := by omega
  go_enter Tryd.func16, Tryd.ntmps16
  go_wp2_with (first
    | (with_reducible refine wpList_box_row (o := ⟨some 5, _, _, _, _, _⟩) rfl _ _ rfl (bvs rt) rfl ?_; intro w1 hrow1 hs1 hg1)
    | (with_reducible refine wpList_box_row (o := ⟨some 8, _, _, _, _, _⟩) rfl _ _ rfl (bvs leaf) rfl ?_; intro w2 hrow2 hs2 hg2; have hb2 : Below w.heap.size w w2 := below_kept (grown_below hg1 (Nat.le_refl _) (by simp)) hg2 (by omega) (by simp))
    | (with_reducible refine wpList_load_all (o := ⟨some 23, _, _, _, _, _⟩) rfl _ _ rfl w1.heap.size rfl _ _ hrow2 _ Tryd.underlying28 rfl (b16_size _ HL.out) ?_))
  have hrow1' := hrow1.kept hg2 (by simp)
  clear hg1 hg2
  refine (HC _ hb2).out.mono ?_
  rintro e w3 ⟨rfl, hb3⟩
  have hrow3 := hrow1'.on hb3
  have hb3' := hb2.trans (hb3.mono hb2.size)
  have hlt3 := hrow3.lt
  cases ok with
  | false =>
    go_wp2_with (first
      | (with_reducible refine wpList_alloc_row (o := ⟨some 11, _, _, _, _, _⟩) rfl _ rfl zeros16 zero_b16 ?_; intro w4 hrow4 hs4 hg4)
      | (with_reducible refine wpList_store_all (o := ⟨none, _, _, _, _, _⟩) rfl _ _ _ rfl w3.heap.size rfl _ _ hrow4 (bvs D) rfl (bvs_one _) (b16_zeros _ HRL.out) (b16_size _ HRL.out) ?_; intro w5 hrow5 hg5))
    have hb5 := below_kept (below_kept hb3' hg4 hb3'.size (by simp)) hg5 (by have := hb3'.size; omega) (by rintro k hk; cases hk; exact hb3'.size)
    go_ret
    exact ⟨rfl, hb5⟩
  | true =>
    go_wp2_with (first
      | (with_reducible refine wpList_alloc_row (o := ⟨some 11, _, _, _, _, _⟩) rfl _ rfl zeros16 zero_b16 ?_; intro w4 hrow4 hs4 hg4)
      | (with_reducible refine wpList_store_all (o := ⟨none, _, _, _, _, _⟩) rfl _ _ _ rfl w3.heap.size rfl _ _ hrow4 (bvs D) rfl (bvs_one _) (b16_zeros _ HRL.out) (b16_size _ HRL.out) ?_; intro w5 hrow5 hg5; have hrow3' := (hrow3.kept hg4 (by simp)).kept hg5 (by simp; omega))
      | (refine wpList_valueG (o := ⟨some 30, _, _, _, _, _⟩) rfl _ (by exact exec_load16 _ _ rfl _ rfl D HRL.out hrow5.cells) ?_)
      | (refine wpList_valueG (o := ⟨some 31, _, _, _, _, _⟩) rfl _ (by exact exec_load16 _ _ rfl _ rfl rt HT.out hrow3'.cells) ?_)
      | (refine wpList_valueG (o := ⟨some 32, _, _, _, _, _⟩) rfl _ (by exact exec_eql16 _ _ _ rfl D rt HRL.out HT.out rfl rfl) ?_))
    have hb5 := below_kept (below_kept hb3' hg4 hb3'.size (by simp)) hg5 (by have := hb3'.size; omega) (by rintro k hk; cases hk; exact hb3'.size)
    go_ret
    exact ⟨rfl, hb5⟩
end Go.Proofs.YtpmkjnmddglckaaDoor
