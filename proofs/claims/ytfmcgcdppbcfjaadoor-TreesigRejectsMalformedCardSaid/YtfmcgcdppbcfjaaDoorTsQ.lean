/-
  What treesig.Same returns: a contract by a walk. No condition but bounded lengths.
-/
import Derived.Test.YtfmcgcdppbcfjaaDoorTs
import Derived.Test.YtfmcgcdppbcfjaaDoorTsE
import Derived.Test.YtfmcgcdppbcfjaaDoorWref
namespace Go.Proofs.YtfmcgcdppbcfjaaDoor
open Go.RowKit

set_option maxRecDepth 100000 in
set_option maxHeartbeats 1000000 in
theorem tsame_any (i j : Int) (A B E F : Option Addr) (n c m d n' c' m' d' : Nat) (C P C' P' : List (List UInt8)) (w : World) (_hK : Consts w) (hC : ReadsD w A n C) (hP : ReadsD w B m P) (hC' : ReadsD w E n' C') (hP' : ReadsD w F m' P')
    (_hnc : n ≤ c) (_hmd : m ≤ d) (_hnc' : n' ≤ c') (_hmd' : m' ≤ d') (hn : n ≤ 1000) (hm : m ≤ 1000) (hn' : n' ≤ 1000) (hm' : m' ≤ 1000) :
    Calls Tryd.prog 18 #[.agg #[.int .i64 i, .slice A n c, .slice B m d], .agg #[.int .i64 j, .slice E n' c', .slice F m' d']] w (TellsB (tSame i C P j C' P') w) := by
  have HD1 := fun W (h1 : ReadsD W A n C) (h2 : ReadsD W E n' C') => Lib.hid (tequal_any A E c c' C C' n n' W _ _ h1.1 h2.1 h1.2 h2.2 (by omega) (by omega))
  have HD2 := fun W (h1 : ReadsD W B m P) (h2 : ReadsD W F m' P') => Lib.hid (tequal_any B F d d' P P' m m' W _ _ h1.1 h2.1 h1.2 h2.2 (by omega) (by omega))
  unfold tSame
  by_cases hij : i = j
  · subst hij
    have hbb : (i == i) = true := by simp
    rw [hbb, Bool.true_and]
    generalize hx : (C == C') = x at *
    generalize hy : (P == P') = y at *
    clear hx hy
    go_enter Tryd.func18, Tryd.ntmps18
    go_wp2_with (first
      | (with_reducible refine wpList_box_row (o := ⟨some 2, _, _, _, _, _⟩) rfl _ _ rfl [.int .i64 i, .slice A n c, .slice B m d] rfl ?_; intro w1 hrow1 hs1 hg1)
      | (with_reducible refine wpList_box_row (o := ⟨some 3, _, _, _, _, _⟩) rfl _ _ rfl [.int .i64 i, .slice E n' c', .slice F m' d'] rfl ?_; intro w2 hrow2 hs2 hg2; have hrow1' := hrow1.kept hg2 (by simp); have a0 := hrow1'.cell (j := 0) rfl; have a1 := hrow1'.cell (j := 1) rfl; have b0 := hrow2.cell (j := 0) rfl; have b1 := hrow2.cell (j := 1) rfl))
    have hb2 : Below w.heap.size w w2 := below_kept (grown_below hg1 (Nat.le_refl _) (by simp)) hg2 (by omega) (by simp)
    clear hrow1 hg1 hg2 a0 b0 a1 b1
    refine (HD1 _ (hC.on hb2) (hC'.on hb2)).out.mono ?_
    rintro e w3 ⟨rfl, q, rfl⟩
    have hb3 : Below w2.heap.size w2 (w2.drewN q) := below_drewN (Below.refl _ _) q
    generalize w2.drewN q = w3 at *
    have hra := hrow1'.on hb3
    have hrb := hrow2.on hb3
    have B3 := hb2.trans (hb3.mono hb2.size)
    have a2 := hra.cell (j := 2) rfl
    have b2 := hrb.cell (j := 2) rfl
    cases x with
    | false =>
      go_wp2_with fail
      go_ret
      exact ⟨rfl, B3⟩
    | true =>
      go_wp2_with fail
      refine (HD2 _ (hP.on B3) (hP'.on B3)).out.mono ?_
      rintro e w4 ⟨rfl, q4, rfl⟩
      have hb4 : Below w3.heap.size w3 (w3.drewN q4) := below_drewN (Below.refl _ _) q4
      generalize w3.drewN q4 = w4 at *
      go_wp2_with fail
      go_ret
      exact ⟨rfl, B3.trans (hb4.mono B3.size)⟩
  · have hbb : (i == j) = false := by simpa using hij
    rw [hbb, Bool.false_and]
    clear hij HD1 HD2
    go_enter Tryd.func18, Tryd.ntmps18
    go_wp2_with (first
      | (with_reducible refine wpList_box_row (o := ⟨some 2, _, _, _, _, _⟩) rfl _ _ rfl [.int .i64 i, .slice A n c, .slice B m d] rfl ?_; intro w1 hrow1 hs1 hg1)
      | (with_reducible refine wpList_box_row (o := ⟨some 3, _, _, _, _, _⟩) rfl _ _ rfl [.int .i64 j, .slice E n' c', .slice F m' d'] rfl ?_; intro w2 hrow2 hs2 hg2; have hrow1' := hrow1.kept hg2 (by simp); have a0 := hrow1'.cell (j := 0) rfl; have a1 := hrow1'.cell (j := 1) rfl; have b0 := hrow2.cell (j := 0) rfl; have b1 := hrow2.cell (j := 1) rfl))
    have hb2 : Below w.heap.size w w2 := below_kept (grown_below hg1 (Nat.le_refl _) (by simp)) hg2 (by omega) (by simp)
    go_ret
    exact ⟨rfl, hb2⟩
end Go.Proofs.YtfmcgcdppbcfjaaDoor
