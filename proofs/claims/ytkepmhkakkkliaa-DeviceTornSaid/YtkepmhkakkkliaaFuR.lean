/-
  What the reference's Exists, Width and Read return: contracts by walks. No condition but bounded lengths.
-/
import Derived.Test.YtkepmhkakkkliaaFuK
namespace Go.Proofs.Ytkepmhkakkkliaa
open Go.RowKit

set_option maxRecDepth 100000 in
set_option maxHeartbeats 1000000 in
theorem rexists_any (A : Option Addr) (n c : Nat) (ps : List Part) (b j : Int) (w : World) (hr : ReadsP w w.heap.size A n ps) :
    Calls Try.prog 43 #[fuv A n c, .int .i64 b, .int .i64 j] w (TellsB (fuEx (bk ps) b j) w) := by
  have hlen := hr.len
  unfold fuv
  by_cases hb : b < 0
  · have HE := Lib.hid (fuEx_out (c := j) (fuIn_neg (bs := bk ps) hb))
    generalize fuEx (bk ps) b j = E at *
    go_enter Try.func43, Try.ntmps43
    go_wp2_with (with_reducible refine wpList_box_row (o := ⟨some 3, _, _, _, _, _⟩) rfl _ _ rfl [.slice A n c] rfl ?_; intro w1 hrow1 hs1 hg1; have hf1 := hrow1.cell (j := 0) rfl; have hb1 := grown_below hg1 (Nat.le_refl _) (by simp))
    go_ret
    exact ⟨by rw [HE.out]; rfl, hb1⟩
  · obtain ⟨k, rfl⟩ : ∃ k : Nat, b = (k : Int) := ⟨b.toNat, by omega⟩
    by_cases hkn : k < n
    · by_cases hj : j < 0
      · have HE := Lib.hid (fuEx_neg (bs := bk ps) (b := (k : Int)) hj)
        generalize fuEx (bk ps) k j = E at *
        go_enter Try.func43, Try.ntmps43
        go_wp2_with (with_reducible refine wpList_box_row (o := ⟨some 3, _, _, _, _, _⟩) rfl _ _ rfl [.slice A n c] rfl ?_; intro w1 hrow1 hs1 hg1; have hf1 := hrow1.cell (j := 0) rfl; have hb1 := grown_below hg1 (Nat.le_refl _) (by simp))
        go_ret
        exact ⟨by rw [HE.out]; rfl, hb1⟩
      · obtain ⟨i, rfl⟩ : ∃ i : Nat, j = (i : Int) := ⟨j.toNat, by omega⟩
        obtain ⟨ad, p, rfl, hlt, hpk, hc, hp, _⟩ := hr.at_ hkn
        have HE := Lib.hid (fuEx_nat (c := i) (bk_get hpk))
        rw [hp.bytes_len] at HE
        generalize fuEx (bk ps) k i = E at *
        clear hpk hp
        go_enter Try.func43, Try.ntmps43
        go_wp2_with (with_reducible refine wpList_box_row (o := ⟨some 3, _, _, _, _, _⟩) rfl _ _ rfl [.slice (some ad) n c] rfl ?_; intro w1 hrow1 hs1 hg1; have hf1 := hrow1.cell (j := 0) rfl; have hb1 := grown_below hg1 (Nat.le_refl _) (by simp); have hc1 := (hb1.cell (by rw [block_of_add]; exact hlt)).trans hc; clear hc)
        go_ret
        exact ⟨by rw [HE.out]; rfl, hb1⟩
    · have HE := Lib.hid (fuEx_out (c := j) (fuIn_far (bs := bk ps) (b := (k : Int)) (by rw [bk_len]; omega)))
      generalize fuEx (bk ps) k j = E at *
      go_enter Try.func43, Try.ntmps43
      go_wp2_with (with_reducible refine wpList_box_row (o := ⟨some 3, _, _, _, _, _⟩) rfl _ _ rfl [.slice A n c] rfl ?_; intro w1 hrow1 hs1 hg1; have hf1 := hrow1.cell (j := 0) rfl; have hb1 := grown_below hg1 (Nat.le_refl _) (by simp))
      go_ret
      exact ⟨by rw [HE.out]; rfl, hb1⟩

set_option maxRecDepth 100000 in
set_option maxHeartbeats 1000000 in
theorem rread_any (A : Option Addr) (n c : Nat) (ps : List Part) (b j : Int) (noise : Bool) (w : World) (hr : ReadsP w w.heap.size A n ps) :
    Calls Try.prog 24 #[fuv A n c, .int .i64 b, .int .i64 j, .bool noise] w (TellsII (fuRead (bk ps) b j noise) (fuErr (bk ps) b j) w) := by
  have HX := fun W hW => Lib.hid (rexists_any A n c ps b j W hW)
  unfold fuv at *
  cases hx : fuEx (bk ps) b j with
  | false =>
    have HE := Lib.hid (fuRead_out (noise := noise) hx)
    have HO := Lib.hid (fuErr_out hx)
    rw [hx] at HX
    clear hx
    generalize fuRead (bk ps) b j noise = E at *
    generalize fuErr (bk ps) b j = O at *
    go_enter Try.func24, Try.ntmps24
    go_wp2_with (with_reducible refine wpList_box_row (o := ⟨some 4, _, _, _, _, _⟩) rfl _ _ rfl [.slice A n c] rfl ?_; intro w1 hrow1 hs1 hg1; have hf1 := hrow1.cell (j := 0) rfl; have hb1 := grown_below hg1 (Nat.le_refl _) (by simp))
    refine (HX _ (hr.on hb1)).out.mono ?_
    rintro e w2 ⟨rfl, hb2⟩
    go_wp2_with fail
    go_ret2
    exact ⟨by rw [HE.out, HO.out]; rfl, hb1.trans (hb2.mono hb1.size)⟩
  | true =>
    obtain ⟨k, i, l, rfl, rfl, hl, hil⟩ := fuEx_iff.1 hx
    have hln := hr.len
    obtain ⟨ad, p, rfl, hlt, hpk, hc, hp, _⟩ := hr.at_ (k := k) (by rw [← hln, ← bk_len]; exact (List.getElem?_eq_some_iff.1 hl).1)
    rw [bk_get hpk] at hl
    cases hl
    have hin : i < p.n := by rw [← hp.bytes_len]; exact hil
    have hkn : k < n := by rw [← hln]; exact (List.getElem?_eq_some_iff.1 hpk).1
    obtain ⟨s, hs⟩ : ∃ s, p.l[i]? = some s := ⟨_, List.getElem?_eq_getElem hil⟩
    obtain ⟨pd, hpA, hlp, hd⟩ := hp.byte_at hs
    have HE := Lib.hid (fuRead_in (noise := noise) hx)
    have HO := Lib.hid (fuErr_in hx)
    rw [fuAt_nat (bk_get hpk) hs] at HE
    rw [hx] at HX
    clear hx hp hil hln
    generalize fuRead (bk ps) k i noise = E at *
    generalize fuErr (bk ps) k i = O at *
    rw [hpA] at hc
    clear hpk hs
    obtain ⟨pA, pn, pc, pl⟩ := p
    simp only at hc hin hpA
    clear hpA
    unfold bv at hd
    rcases fu_states s with ⟨h2, hq⟩ | ⟨h2, h1, hq⟩ | ⟨h2, h1, hq⟩
    · rw [h2] at hd
      rw [hq] at HE
      go_enter Try.func24, Try.ntmps24
      go_wp2_with (with_reducible refine wpList_box_row (o := ⟨some 4, _, _, _, _, _⟩) rfl _ _ rfl [.slice (some ad) n c] rfl ?_; intro w1 hrow1 hs1 hg1; have hf1 := hrow1.cell (j := 0) rfl; have hb1 := grown_below hg1 (Nat.le_refl _) (by simp))
      refine (HX _ (hr.on hb1)).out.mono ?_
      rintro e w2 ⟨rfl, hb2⟩
      have hf2 := (hrow1.on hb2).cell (j := 0) rfl
      have B2 := hb1.trans (hb2.mono hb1.size)
      have hc2 := (B2.cell (by rw [block_of_add]; exact hlt)).trans hc
      have hd2 := (B2.cell (by rw [block_of_add]; exact hlp)).trans hd
      go_wp2_with fail
      go_ret2
      exact ⟨by rw [HE.out, HO.out]; rfl, B2⟩
    · rw [h1] at hd
      rw [hq] at HE
      cases noise with
      | false =>
        go_enter Try.func24, Try.ntmps24
        go_wp2_with (with_reducible refine wpList_box_row (o := ⟨some 4, _, _, _, _, _⟩) rfl _ _ rfl [.slice (some ad) n c] rfl ?_; intro w1 hrow1 hs1 hg1; have hf1 := hrow1.cell (j := 0) rfl; have hb1 := grown_below hg1 (Nat.le_refl _) (by simp))
        refine (HX _ (hr.on hb1)).out.mono ?_
        rintro e w2 ⟨rfl, hb2⟩
        have hf2 := (hrow1.on hb2).cell (j := 0) rfl
        have B2 := hb1.trans (hb2.mono hb1.size)
        have hc2 := (B2.cell (by rw [block_of_add]; exact hlt)).trans hc
        have hd2 := (B2.cell (by rw [block_of_add]; exact hlp)).trans hd
        go_wp2_with fail
        go_ret2
        exact ⟨by rw [HE.out, HO.out]; rfl, B2⟩
      | true =>
        go_enter Try.func24, Try.ntmps24
        go_wp2_with (with_reducible refine wpList_box_row (o := ⟨some 4, _, _, _, _, _⟩) rfl _ _ rfl [.slice (some ad) n c] rfl ?_; intro w1 hrow1 hs1 hg1; have hf1 := hrow1.cell (j := 0) rfl; have hb1 := grown_below hg1 (Nat.le_refl _) (by simp))
        refine (HX _ (hr.on hb1)).out.mono ?_
        rintro e w2 ⟨rfl, hb2⟩
        have hf2 := (hrow1.on hb2).cell (j := 0) rfl
        have B2 := hb1.trans (hb2.mono hb1.size)
        have hc2 := (B2.cell (by rw [block_of_add]; exact hlt)).trans hc
        have hd2 := (B2.cell (by rw [block_of_add]; exact hlp)).trans hd
        go_wp2_with fail
        go_ret2
        exact ⟨by rw [HE.out, HO.out]; rfl, B2⟩
    · have e2 : (((s.toNat : Nat) : Int) == 2) = false := by simp only [beq_eq_false_iff_ne, ne_eq]; omega
      have e1 : (((s.toNat : Nat) : Int) == 1) = false := by simp only [beq_eq_false_iff_ne, ne_eq]; omega
      rw [hq] at HE
      generalize s.toNat = v at *
      clear h1 h2
      go_enter Try.func24, Try.ntmps24
      go_wp2_with (with_reducible refine wpList_box_row (o := ⟨some 4, _, _, _, _, _⟩) rfl _ _ rfl [.slice (some ad) n c] rfl ?_; intro w1 hrow1 hs1 hg1; have hf1 := hrow1.cell (j := 0) rfl; have hb1 := grown_below hg1 (Nat.le_refl _) (by simp))
      refine (HX _ (hr.on hb1)).out.mono ?_
      rintro e w2 ⟨rfl, hb2⟩
      have hf2 := (hrow1.on hb2).cell (j := 0) rfl
      have B2 := hb1.trans (hb2.mono hb1.size)
      have hc2 := (B2.cell (by rw [block_of_add]; exact hlt)).trans hc
      have hd2 := (B2.cell (by rw [block_of_add]; exact hlp)).trans hd
      go_wp2_with fail
      go_ret2
      exact ⟨by rw [HE.out, HO.out]; rfl, B2⟩
end Go.Proofs.Ytkepmhkakkkliaa
