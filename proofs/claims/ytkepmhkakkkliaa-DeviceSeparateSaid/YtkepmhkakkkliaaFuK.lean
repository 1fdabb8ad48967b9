/-
  What fuse.exists, fuse.Width, fuse.Read and fuse.pulsed return: contracts by walks. No condition but bounded lengths.
-/
import Derived.Test.YtkepmhkakkkliaaProg
import Derived.Test.YtkepmhkakkkliaaFuM
import Derived.Test.YtkepmhkakkkliaaBase
import Derived.Deep.LoopGhost
namespace Go.Proofs.Ytkepmhkakkkliaa
open Go.RowKit

/-- The banks that the parts read as. -/
def bk (ps : List Part) : List (List UInt8) := ps.map Part.l
theorem bk_len (ps : List Part) : (bk ps).length = ps.length := List.length_map _
theorem bk_get {ps : List Part} {k : Nat} {p : Part} (h : ps[k]? = some p) : (bk ps)[k]? = some p.l := by unfold bk; rw [List.getElem?_map, h]; rfl
/-- The value of fuses. -/
def fuv (A : Option Addr) (n c : Nat) : Value := .agg #[.slice A n c]
/-- An integer comes back; nothing that was there has changed. -/
def TellsI (x : Int) (w : World) (e : Ending) (w' : World) : Prop := e = .returned (.int .i64 x) ∧ Below w.heap.size w w'
def TellsII (x y : Int) (w : World) (e : Ending) (w' : World) : Prop := e = .returned (.tuple #[.int .i64 x, .int .i64 y]) ∧ Below w.heap.size w w'
theorem Reads.byte_at {w : World} {B n : Nat} {A : Option Addr} {l : List UInt8} (h : Reads w B 1 A n (bvs l)) {i : Nat} {s : UInt8} (hs : l[i]? = some s) : ∃ ad, A = some ad ∧ ad.block < B ∧ w.cell? (ad.add i) = some (bv s) := by
  have hi : i < n := by have := h.bytes_len; have := (List.getElem?_eq_some_iff.1 hs).1; omega
  obtain ⟨ad, u, hA, hb, hu, hc⟩ := h.at_ hi
  unfold bvs at hu
  rw [List.getElem?_map, hs] at hu
  cases hu
  exact ⟨ad, hA, hb, hc⟩
/-- The states of a cell, as a reading tells them apart. -/
theorem fu_states (s : UInt8) : (s.toNat = 2 ∧ ∀ z, fuRd s z = true) ∨ (s.toNat ≠ 2 ∧ s.toNat = 1 ∧ ∀ z, fuRd s z = z) ∨ (s.toNat ≠ 2 ∧ s.toNat ≠ 1 ∧ ∀ z, fuRd s z = false) := by
  unfold fuRd
  by_cases h2 : s = 2
  · subst h2; exact .inl ⟨rfl, fun z => rfl⟩
  · have g2 : s.toNat ≠ 2 := fun h => h2 (UInt8.toNat.inj h)
    by_cases h1 : s = 1
    · subst h1; exact .inr (.inl ⟨by decide, rfl, fun z => by cases z <;> rfl⟩)
    · exact .inr (.inr ⟨g2, fun h => h1 (UInt8.toNat.inj h), fun z => by rw [beq_eq_false_iff_ne.2 h2, beq_eq_false_iff_ne.2 h1]; rfl⟩)

set_option maxRecDepth 100000 in
set_option maxHeartbeats 1000000 in
theorem fexists_any (A : Option Addr) (n c : Nat) (ps : List Part) (b j : Int) (w : World) (hr : ReadsP w w.heap.size A n ps) :
    Calls Try.prog 61 #[fuv A n c, .int .i64 b, .int .i64 j] w (TellsB (fuEx (bk ps) b j) w) := by
  have hlen := hr.len
  unfold fuv
  by_cases hb : b < 0
  · have HE := Lib.hid (fuEx_out (c := j) (fuIn_neg (bs := bk ps) hb))
    generalize fuEx (bk ps) b j = E at *
    go_enter Try.func61, Try.ntmps61
    go_wp2_with (with_reducible refine wpList_box_row (o := ⟨some 3, _, _, _, _, _⟩) rfl _ _ rfl [.slice A n c] rfl ?_; intro w1 hrow1 hs1 hg1; have hf1 := hrow1.cell (j := 0) rfl; have hb1 := grown_below hg1 (Nat.le_refl _) (by simp))
    go_ret
    exact ⟨by rw [HE.out]; rfl, hb1⟩
  · obtain ⟨k, rfl⟩ : ∃ k : Nat, b = (k : Int) := ⟨b.toNat, by omega⟩
    by_cases hkn : k < n
    · by_cases hj : j < 0
      · have HE := Lib.hid (fuEx_neg (bs := bk ps) (b := (k : Int)) hj)
        generalize fuEx (bk ps) k j = E at *
        go_enter Try.func61, Try.ntmps61
        go_wp2_with (with_reducible refine wpList_box_row (o := ⟨some 3, _, _, _, _, _⟩) rfl _ _ rfl [.slice A n c] rfl ?_; intro w1 hrow1 hs1 hg1; have hf1 := hrow1.cell (j := 0) rfl; have hb1 := grown_below hg1 (Nat.le_refl _) (by simp))
        go_ret
        exact ⟨by rw [HE.out]; rfl, hb1⟩
      · obtain ⟨i, rfl⟩ : ∃ i : Nat, j = (i : Int) := ⟨j.toNat, by omega⟩
        obtain ⟨ad, p, rfl, hlt, hpk, hc, hp, _⟩ := hr.at_ hkn
        have HE := Lib.hid (fuEx_nat (c := i) (bk_get hpk))
        rw [hp.bytes_len] at HE
        generalize fuEx (bk ps) k i = E at *
        clear hpk hp
        go_enter Try.func61, Try.ntmps61
        go_wp2_with (with_reducible refine wpList_box_row (o := ⟨some 3, _, _, _, _, _⟩) rfl _ _ rfl [.slice (some ad) n c] rfl ?_; intro w1 hrow1 hs1 hg1; have hf1 := hrow1.cell (j := 0) rfl; have hb1 := grown_below hg1 (Nat.le_refl _) (by simp); have hc1 := (hb1.cell (by rw [block_of_add]; exact hlt)).trans hc; clear hc)
        go_ret
        exact ⟨by rw [HE.out]; rfl, hb1⟩
    · have HE := Lib.hid (fuEx_out (c := j) (fuIn_far (bs := bk ps) (b := (k : Int)) (by rw [bk_len]; omega)))
      generalize fuEx (bk ps) k j = E at *
      go_enter Try.func61, Try.ntmps61
      go_wp2_with (with_reducible refine wpList_box_row (o := ⟨some 3, _, _, _, _, _⟩) rfl _ _ rfl [.slice A n c] rfl ?_; intro w1 hrow1 hs1 hg1; have hf1 := hrow1.cell (j := 0) rfl; have hb1 := grown_below hg1 (Nat.le_refl _) (by simp))
      go_ret
      exact ⟨by rw [HE.out]; rfl, hb1⟩

set_option maxRecDepth 100000 in
set_option maxHeartbeats 1000000 in
theorem fwidth_any (A : Option Addr) (n c : Nat) (ps : List Part) (b : Int) (w : World) (hr : ReadsP w w.heap.size A n ps) (hz : ∀ p ∈ ps, p.n ≤ maxLen) :
    Calls Try.prog 48 #[fuv A n c, .int .i64 b] w (TellsI (fuWidth (bk ps) b) w) := by
  have hlen := hr.len
  unfold fuv
  by_cases hb : b < 0
  · have HE := Lib.hid (fuWidth_out (fuIn_neg (bs := bk ps) hb))
    generalize fuWidth (bk ps) b = E at *
    clear hz
    go_enter Try.func48, Try.ntmps48
    go_wp2_with (with_reducible refine wpList_box_row (o := ⟨some 2, _, _, _, _, _⟩) rfl _ _ rfl [.slice A n c] rfl ?_; intro w1 hrow1 hs1 hg1; have hf1 := hrow1.cell (j := 0) rfl; have hb1 := grown_below hg1 (Nat.le_refl _) (by simp))
    go_ret
    exact ⟨by rw [HE.out]; rfl, hb1⟩
  · obtain ⟨k, rfl⟩ : ∃ k : Nat, b = (k : Int) := ⟨b.toNat, by omega⟩
    by_cases hkn : k < n
    · obtain ⟨ad, p, rfl, hlt, hpk, hc, hp, _⟩ := hr.at_ hkn
      have HE := Lib.hid (fuWidth_nat (bk_get hpk))
      rw [hp.bytes_len] at HE
      have hpn := hz p (List.mem_of_getElem? hpk)
      have HD : Hid (((p.n / 3 : Nat) : Int) = (p.n : Int) / 3) := by show _ = _; omega
      generalize fuWidth (bk ps) k = E at *
      unfold maxLen at hpn
      clear hpk hp hz
      go_enter Try.func48, Try.ntmps48
      go_wp2_with (with_reducible refine wpList_box_row (o := ⟨some 2, _, _, _, _, _⟩) rfl _ _ rfl [.slice (some ad) n c] rfl ?_; intro w1 hrow1 hs1 hg1; have hf1 := hrow1.cell (j := 0) rfl; have hb1 := grown_below hg1 (Nat.le_refl _) (by simp); have hc1 := (hb1.cell (by rw [block_of_add]; exact hlt)).trans hc; clear hc)
      go_ret
      exact ⟨by rw [HE.out, HD.out]; go_num, hb1⟩
    · have HE := Lib.hid (fuWidth_out (fuIn_far (bs := bk ps) (b := (k : Int)) (by rw [bk_len]; omega)))
      generalize fuWidth (bk ps) k = E at *
      clear hz
      go_enter Try.func48, Try.ntmps48
      go_wp2_with (with_reducible refine wpList_box_row (o := ⟨some 2, _, _, _, _, _⟩) rfl _ _ rfl [.slice A n c] rfl ?_; intro w1 hrow1 hs1 hg1; have hf1 := hrow1.cell (j := 0) rfl; have hb1 := grown_below hg1 (Nat.le_refl _) (by simp))
      go_ret
      exact ⟨by rw [HE.out]; rfl, hb1⟩

set_option maxRecDepth 100000 in
set_option maxHeartbeats 1000000 in
theorem fread_any (A : Option Addr) (n c : Nat) (ps : List Part) (b j : Int) (noise : Bool) (w : World) (hr : ReadsP w w.heap.size A n ps) :
    Calls Try.prog 50 #[fuv A n c, .int .i64 b, .int .i64 j, .bool noise] w (TellsII (fuRead (bk ps) b j noise) (fuErr (bk ps) b j) w) := by
  have HX := fun W hW => Lib.hid (fexists_any A n c ps b j W hW)
  unfold fuv at *
  cases hx : fuEx (bk ps) b j with
  | false =>
    have HE := Lib.hid (fuRead_out (noise := noise) hx)
    have HO := Lib.hid (fuErr_out hx)
    rw [hx] at HX
    clear hx
    generalize fuRead (bk ps) b j noise = E at *
    generalize fuErr (bk ps) b j = O at *
    go_enter Try.func50, Try.ntmps50
    go_wp2_with (with_reducible refine wpList_box_row (o := ⟨some 4, _, _, _, _, _⟩) rfl _ _ rfl [.slice A n c] rfl ?_; intro w1 hrow1 hs1 hg1; have hf1 := hrow1.cell (j := 0) rfl; have hb1 := grown_below hg1 (Nat.le_refl _) (by simp))
    refine (HX _ (hr.on hb1)).out.mono ?_
    rintro e w2 ⟨rfl, hb2⟩
    go_wp2_with fail
    go_ret2
    exact ⟨by rw [HE.out, HO.out]; rfl, hb1.trans (hb2.mono hb1.size)⟩
  | true =>
    obtain ⟨k, i, l, rfl, rfl, hl, hil⟩ := fuEx_iff.1 hx
    have hln := hr.len
    obtain ⟨ad, p, rfl, hlt, hpk, hc, hp, _⟩ := hr.at_ (k := k) (by rw [← hln, ← bk_len]; exact (List.getElem?_eq_some_iff.1 hl).1)
    rw [bk_get hpk] at hl
    cases hl
    have hin : i < p.n := by rw [← hp.bytes_len]; exact hil
    have hkn : k < n := by rw [← hln]; exact (List.getElem?_eq_some_iff.1 hpk).1
    obtain ⟨s, hs⟩ : ∃ s, p.l[i]? = some s := ⟨_, List.getElem?_eq_getElem hil⟩
    obtain ⟨pd, hpA, hlp, hd⟩ := hp.byte_at hs
    have HE := Lib.hid (fuRead_in (noise := noise) hx)
    have HO := Lib.hid (fuErr_in hx)
    rw [fuAt_nat (bk_get hpk) hs] at HE
    rw [hx] at HX
    clear hx hp hil hln
    generalize fuRead (bk ps) k i noise = E at *
    generalize fuErr (bk ps) k i = O at *
    rw [hpA] at hc
    clear hpk hs
    obtain ⟨pA, pn, pc, pl⟩ := p
    simp only at hc hin hpA
    clear hpA
    unfold bv at hd
    rcases fu_states s with ⟨h2, hq⟩ | ⟨h2, h1, hq⟩ | ⟨h2, h1, hq⟩
    · rw [h2] at hd
      rw [hq] at HE
      go_enter Try.func50, Try.ntmps50
      go_wp2_with (with_reducible refine wpList_box_row (o := ⟨some 4, _, _, _, _, _⟩) rfl _ _ rfl [.slice (some ad) n c] rfl ?_; intro w1 hrow1 hs1 hg1; have hf1 := hrow1.cell (j := 0) rfl; have hb1 := grown_below hg1 (Nat.le_refl _) (by simp))
      refine (HX _ (hr.on hb1)).out.mono ?_
      rintro e w2 ⟨rfl, hb2⟩
      have hf2 := (hrow1.on hb2).cell (j := 0) rfl
      have B2 := hb1.trans (hb2.mono hb1.size)
      have hc2 := (B2.cell (by rw [block_of_add]; exact hlt)).trans hc
      have hd2 := (B2.cell (by rw [block_of_add]; exact hlp)).trans hd
      go_wp2_with fail
      go_ret2
      exact ⟨by rw [HE.out, HO.out]; rfl, B2⟩
    · rw [h1] at hd
      rw [hq] at HE
      cases noise with
      | false =>
        go_enter Try.func50, Try.ntmps50
        go_wp2_with (with_reducible refine wpList_box_row (o := ⟨some 4, _, _, _, _, _⟩) rfl _ _ rfl [.slice (some ad) n c] rfl ?_; intro w1 hrow1 hs1 hg1; have hf1 := hrow1.cell (j := 0) rfl; have hb1 := grown_below hg1 (Nat.le_refl _) (by simp))
        refine (HX _ (hr.on hb1)).out.mono ?_
        rintro e w2 ⟨rfl, hb2⟩
        have hf2 := (hrow1.on hb2).cell (j := 0) rfl
        have B2 := hb1.trans (hb2.mono hb1.size)
        have hc2 := (B2.cell (by rw [block_of_add]; exact hlt)).trans hc
        have hd2 := (B2.cell (by rw [block_of_add]; exact hlp)).trans hd
        go_wp2_with fail
        go_ret2
        exact ⟨by rw [HE.out, HO.out]; rfl, B2⟩
      | true =>
        go_enter Try.func50, Try.ntmps50
        go_wp2_with (with_reducible refine wpList_box_row (o := ⟨some 4, _, _, _, _, _⟩) rfl _ _ rfl [.slice (some ad) n c] rfl ?_; intro w1 hrow1 hs1 hg1; have hf1 := hrow1.cell (j := 0) rfl; have hb1 := grown_below hg1 (Nat.le_refl _) (by simp))
        refine (HX _ (hr.on hb1)).out.mono ?_
        rintro e w2 ⟨rfl, hb2⟩
        have hf2 := (hrow1.on hb2).cell (j := 0) rfl
        have B2 := hb1.trans (hb2.mono hb1.size)
        have hc2 := (B2.cell (by rw [block_of_add]; exact hlt)).trans hc
        have hd2 := (B2.cell (by rw [block_of_add]; exact hlp)).trans hd
        go_wp2_with fail
        go_ret2
        exact ⟨by rw [HE.out, HO.out]; rfl, B2⟩
    · have e2 : (((s.toNat : Nat) : Int) == 2) = false := by simp only [beq_eq_false_iff_ne, ne_eq]; omega
      have e1 : (((s.toNat : Nat) : Int) == 1) = false := by simp only [beq_eq_false_iff_ne, ne_eq]; omega
      rw [hq] at HE
      generalize s.toNat = v at *
      clear h1 h2
      go_enter Try.func50, Try.ntmps50
      go_wp2_with (with_reducible refine wpList_box_row (o := ⟨some 4, _, _, _, _, _⟩) rfl _ _ rfl [.slice (some ad) n c] rfl ?_; intro w1 hrow1 hs1 hg1; have hf1 := hrow1.cell (j := 0) rfl; have hb1 := grown_below hg1 (Nat.le_refl _) (by simp))
      refine (HX _ (hr.on hb1)).out.mono ?_
      rintro e w2 ⟨rfl, hb2⟩
      have hf2 := (hrow1.on hb2).cell (j := 0) rfl
      have B2 := hb1.trans (hb2.mono hb1.size)
      have hc2 := (B2.cell (by rw [block_of_add]; exact hlt)).trans hc
      have hd2 := (B2.cell (by rw [block_of_add]; exact hlp)).trans hd
      go_wp2_with fail
      go_ret2
      exact ⟨by rw [HE.out, HO.out]; rfl, B2⟩

theorem fu_pstates (s : UInt8) (cut : Bool) : ((s.toNat = 0 ∨ s.toNat = 1) ∧ fuPl s cut = if cut then 1 else 2) ∨ (s.toNat ≠ 0 ∧ s.toNat ≠ 1 ∧ fuPl s cut = s) := by
  unfold fuPl
  by_cases h0 : s = 0
  · subst h0; exact .inl ⟨.inl rfl, rfl⟩
  · by_cases h1 : s = 1
    · subst h1; exact .inl ⟨.inr rfl, rfl⟩
    · exact .inr ⟨fun h => h0 (UInt8.toNat.inj h), fun h => h1 (UInt8.toNat.inj h), by rw [beq_eq_false_iff_ne.2 h0, beq_eq_false_iff_ne.2 h1]; rfl⟩
set_option maxRecDepth 100000 in
set_option maxHeartbeats 1000000 in
theorem pulsed_any (s : UInt8) (cut : Bool) (w : World) : Calls Try.prog 72 #[bv s, .bool cut] w fun e w' => e = .returned (bv (fuPl s cut)) ∧ w' = w := by
  have HP := Lib.hid (fu_pstates s cut)
  have HS : Hid (bv s = .int .u8 (s.toNat : Int)) := rfl
  generalize hE : fuPl s cut = E at *
  clear hE
  rcases HP.out with ⟨h, hE⟩ | ⟨h0, h1, hE⟩
  · have HE := Lib.hid hE
    clear hE HP
    rw [HS.out]
    rcases h with h | h <;> rw [h] <;> cases cut
    all_goals
      go_enter Try.func72, Try.ntmps72
      go_wp2_with fail
      go_ret
      exact ⟨by rw [HE.out]; rfl, rfl⟩
  · have HE := Lib.hid hE
    have e0 : (((s.toNat : Nat) : Int) != 0) = true := by simp only [bne_iff_ne, ne_eq]; omega
    have e1 : (((s.toNat : Nat) : Int) != 1) = true := by simp only [bne_iff_ne, ne_eq]; omega
    have HS2 : Hid (s = E) := Lib.hid hE.symm
    clear hE HP h0 h1
    rw [HS.out]
    generalize hv : s.toNat = v at *
    go_enter Try.func72, Try.ntmps72
    go_wp2_with fail
    go_ret
    exact ⟨by rw [← HS2.out, HS.out]; rfl, rfl⟩
end Go.Proofs.Ytkepmhkakkkliaa
