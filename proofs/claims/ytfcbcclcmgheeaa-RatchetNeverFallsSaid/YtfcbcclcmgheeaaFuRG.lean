/-
  What the reference's Exists, Width and Read return: contracts by walks. No condition but bounded lengths.
-/
import Derived.Test.YtfcbcclcmgheeaaFuG
import Derived.Test.YtfcbcclcmgheeaaFuL
namespace Go.Proofs.Ytfcbcclcmgheeaa
open Go.RowKit

set_option maxRecDepth 100000 in
set_option maxHeartbeats 1000000 in
theorem rexists_any (A : Option Addr) (n c : Nat) (ps : List Part) (b j : Int) (w : World) (hr : ReadsP w w.heap.size A n ps) :
    Calls Try.prog 42 #[fuv A n c, .int .i64 b, .int .i64 j] w (TellsB (fuEx (bk ps) b j) w) := by
  have hlen := hr.len
  unfold fuv
  by_cases hb : b < 0
  · have HE := Lib.hid (fuEx_out (c := j) (fuIn_neg (bs := bk ps) hb))
    generalize fuEx (bk ps) b j = E at *
    go_enter Try.func42, Try.ntmps42
    go_wp2_with (with_reducible refine wpList_box_row (o := ⟨some 3, _, _, _, _, _⟩) rfl _ _ rfl [.slice A n c] rfl ?_; intro w1 hrow1 hs1 hg1; have hf1 := hrow1.cell (j := 0) rfl; have hb1 := grown_below hg1 (Nat.le_refl _) (by simp))
    go_ret
    exact ⟨by rw [HE.out]; rfl, hb1⟩
  · obtain ⟨k, rfl⟩ : ∃ k : Nat, b = (k : Int) := ⟨b.toNat, by omega⟩
    by_cases hkn : k < n
    · by_cases hj : j < 0
      · have HE := Lib.hid (fuEx_neg (bs := bk ps) (b := (k : Int)) hj)
        generalize fuEx (bk ps) k j = E at *
        go_enter Try.func42, Try.ntmps42
        go_wp2_with (with_reducible refine wpList_box_row (o := ⟨some 3, _, _, _, _, _⟩) rfl _ _ rfl [.slice A n c] rfl ?_; intro w1 hrow1 hs1 hg1; have hf1 := hrow1.cell (j := 0) rfl; have hb1 := grown_below hg1 (Nat.le_refl _) (by simp))
        go_ret
        exact ⟨by rw [HE.out]; rfl, hb1⟩
      · obtain ⟨i, rfl⟩ : ∃ i : Nat, j = (i : Int) := ⟨j.toNat, by omega⟩
        obtain ⟨ad, p, rfl, hlt, hpk, hc, hp, _⟩ := hr.at_ hkn
        have HE := Lib.hid (fuEx_nat (c := i) (bk_get hpk))
        rw [hp.bytes_len] at HE
        generalize fuEx (bk ps) k i = E at *
        clear hpk hp
        go_enter Try.func42, Try.ntmps42
        go_wp2_with (with_reducible refine wpList_box_row (o := ⟨some 3, _, _, _, _, _⟩) rfl _ _ rfl [.slice (some ad) n c] rfl ?_; intro w1 hrow1 hs1 hg1; have hf1 := hrow1.cell (j := 0) rfl; have hb1 := grown_below hg1 (Nat.le_refl _) (by simp); have hc1 := (hb1.cell (by rw [block_of_add]; exact hlt)).trans hc; clear hc)
        go_ret
        exact ⟨by rw [HE.out]; rfl, hb1⟩
    · have HE := Lib.hid (fuEx_out (c := j) (fuIn_far (bs := bk ps) (b := (k : Int)) (by rw [bk_len]; omega)))
      generalize fuEx (bk ps) k j = E at *
      go_enter Try.func42, Try.ntmps42
      go_wp2_with (with_reducible refine wpList_box_row (o := ⟨some 3, _, _, _, _, _⟩) rfl _ _ rfl [.slice A n c] rfl ?_; intro w1 hrow1 hs1 hg1; have hf1 := hrow1.cell (j := 0) rfl; have hb1 := grown_below hg1 (Nat.le_refl _) (by simp))
      go_ret
      exact ⟨by rw [HE.out]; rfl, hb1⟩

set_option maxRecDepth 100000 in
set_option maxHeartbeats 1000000 in
theorem rwidth_any (A : Option Addr) (n c : Nat) (ps : List Part) (b : Int) (w : World) (hr : ReadsP w w.heap.size A n ps) (hz : ∀ p ∈ ps, p.n ≤ maxLen) :
    Calls Try.prog 38 #[fuv A n c, .int .i64 b] w (TellsI (fuWidth (bk ps) b) w) := by
  have hlen := hr.len
  unfold fuv
  by_cases hb : b < 0
  · have HE := Lib.hid (fuWidth_out (fuIn_neg (bs := bk ps) hb))
    generalize fuWidth (bk ps) b = E at *
    clear hz
    go_enter Try.func38, Try.ntmps38
    go_wp2_with (with_reducible refine wpList_box_row (o := ⟨some 2, _, _, _, _, _⟩) rfl _ _ rfl [.slice A n c] rfl ?_; intro w1 hrow1 hs1 hg1; have hf1 := hrow1.cell (j := 0) rfl; have hb1 := grown_below hg1 (Nat.le_refl _) (by simp))
    go_ret
    exact ⟨by rw [HE.out]; rfl, hb1⟩
  · obtain ⟨k, rfl⟩ : ∃ k : Nat, b = (k : Int) := ⟨b.toNat, by omega⟩
    by_cases hkn : k < n
    · obtain ⟨ad, p, rfl, hlt, hpk, hc, hp, _⟩ := hr.at_ hkn
      have HE := Lib.hid (fuWidth_nat (bk_get hpk))
      rw [hp.bytes_len] at HE
      have hpn := hz p (List.mem_of_getElem? hpk)
      have HD : Hid (((p.n / 3 : Nat) : Int) = (p.n : Int) / 3) := by show _ = _; omega
      generalize fuWidth (bk ps) k = E at *
      unfold maxLen at hpn
      clear hpk hp hz
      go_enter Try.func38, Try.ntmps38
      go_wp2_with (with_reducible refine wpList_box_row (o := ⟨some 2, _, _, _, _, _⟩) rfl _ _ rfl [.slice (some ad) n c] rfl ?_; intro w1 hrow1 hs1 hg1; have hf1 := hrow1.cell (j := 0) rfl; have hb1 := grown_below hg1 (Nat.le_refl _) (by simp); have hc1 := (hb1.cell (by rw [block_of_add]; exact hlt)).trans hc; clear hc)
      go_ret
      exact ⟨by rw [HE.out, HD.out]; go_num, hb1⟩
    · have HE := Lib.hid (fuWidth_out (fuIn_far (bs := bk ps) (b := (k : Int)) (by rw [bk_len]; omega)))
      generalize fuWidth (bk ps) k = E at *
      clear hz
      go_enter Try.func38, Try.ntmps38
      go_wp2_with (with_reducible refine wpList_box_row (o := ⟨some 2, _, _, _, _, _⟩) rfl _ _ rfl [.slice A n c] rfl ?_; intro w1 hrow1 hs1 hg1; have hf1 := hrow1.cell (j := 0) rfl; have hb1 := grown_below hg1 (Nat.le_refl _) (by simp))
      go_ret
      exact ⟨by rw [HE.out]; rfl, hb1⟩

set_option maxRecDepth 100000 in
set_option maxHeartbeats 1000000 in
theorem rread_any (A : Option Addr) (n c : Nat) (ps : List Part) (b j : Int) (noise : Bool) (w : World) (hr : ReadsP w w.heap.size A n ps) :
    Calls Try.prog 34 #[fuv A n c, .int .i64 b, .int .i64 j, .bool noise] w (TellsII (fuRead (bk ps) b j noise) (fuErr (bk ps) b j) w) := by
  have HX := fun W hW => Lib.hid (rexists_any A n c ps b j W hW)
  unfold fuv at *
  cases hx : fuEx (bk ps) b j with
  | false =>
    have HE := Lib.hid (fuRead_out (noise := noise) hx)
    have HO := Lib.hid (fuErr_out hx)
    rw [hx] at HX
    clear hx
    generalize fuRead (bk ps) b j noise = E at *
    generalize fuErr (bk ps) b j = O at *
    go_enter Try.func34, Try.ntmps34
    go_wp2_with (with_reducible refine wpList_box_row (o := ⟨some 4, _, _, _, _, _⟩) rfl _ _ rfl [.slice A n c] rfl ?_; intro w1 hrow1 hs1 hg1; have hf1 := hrow1.cell (j := 0) rfl; have hb1 := grown_below hg1 (Nat.le_refl _) (by simp))
    refine (HX _ (hr.on hb1)).out.mono ?_
    rintro e w2 ⟨rfl, hb2⟩
    go_wp2_with fail
    go_ret2
    exact ⟨by rw [HE.out, HO.out]; rfl, hb1.trans (hb2.mono hb1.size)⟩
  | true =>
    obtain ⟨k, i, l, rfl, rfl, hl, hil⟩ := fuEx_iff.1 hx
    have hln := hr.len
    obtain ⟨ad, p, rfl, hlt, hpk, hc, hp, _⟩ := hr.at_ (k := k) (by rw [← hln, ← bk_len]; exact (List.getElem?_eq_some_iff.1 hl).1)
    rw [bk_get hpk] at hl
    cases hl
    have hin : i < p.n := by rw [← hp.bytes_len]; exact hil
    have hkn : k < n := by rw [← hln]; exact (List.getElem?_eq_some_iff.1 hpk).1
    obtain ⟨s, hs⟩ : ∃ s, p.l[i]? = some s := ⟨_, List.getElem?_eq_getElem hil⟩
    obtain ⟨pd, hpA, hlp, hd⟩ := hp.byte_at hs
    have HE := Lib.hid (fuRead_in (noise := noise) hx)
    have HO := Lib.hid (fuErr_in hx)
    rw [fuAt_nat (bk_get hpk) hs] at HE
    rw [hx] at HX
    clear hx hp hil hln
    generalize fuRead (bk ps) k i noise = E at *
    generalize fuErr (bk ps) k i = O at *
    rw [hpA] at hc
    clear hpk hs
    obtain ⟨pA, pn, pc, pl⟩ := p
    simp only at hc hin hpA
    clear hpA
    unfold bv at hd
    rcases fu_states s with ⟨h2, hq⟩ | ⟨h2, h1, hq⟩ | ⟨h2, h1, hq⟩
    · rw [h2] at hd
      rw [hq] at HE
      go_enter Try.func34, Try.ntmps34
      go_wp2_with (with_reducible refine wpList_box_row (o := ⟨some 4, _, _, _, _, _⟩) rfl _ _ rfl [.slice (some ad) n c] rfl ?_; intro w1 hrow1 hs1 hg1; have hf1 := hrow1.cell (j := 0) rfl; have hb1 := grown_below hg1 (Nat.le_refl _) (by simp))
      refine (HX _ (hr.on hb1)).out.mono ?_
      rintro e w2 ⟨rfl, hb2⟩
      have hf2 := (hrow1.on hb2).cell (j := 0) rfl
      have B2 := hb1.trans (hb2.mono hb1.size)
      have hc2 := (B2.cell (by rw [block_of_add]; exact hlt)).trans hc
      have hd2 := (B2.cell (by rw [block_of_add]; exact hlp)).trans hd
      go_wp2_with fail
      go_ret2
      exact ⟨by rw [HE.out, HO.out]; rfl, B2⟩
    · rw [h1] at hd
      rw [hq] at HE
      cases noise with
      | false =>
        go_enter Try.func34, Try.ntmps34
        go_wp2_with (with_reducible refine wpList_box_row (o := ⟨some 4, _, _, _, _, _⟩) rfl _ _ rfl [.slice (some ad) n c] rfl ?_; intro w1 hrow1 hs1 hg1; have hf1 := hrow1.cell (j := 0) rfl; have hb1 := grown_below hg1 (Nat.le_refl _) (by simp))
        refine (HX _ (hr.on hb1)).out.mono ?_
        rintro e w2 ⟨rfl, hb2⟩
        have hf2 := (hrow1.on hb2).cell (j := 0) rfl
        have B2 := hb1.trans (hb2.mono hb1.size)
        have hc2 := (B2.cell (by rw [block_of_add]; exact hlt)).trans hc
        have hd2 := (B2.cell (by rw [block_of_add]; exact hlp)).trans hd
        go_wp2_with fail
        go_ret2
        exact ⟨by rw [HE.out, HO.out]; rfl, B2⟩
      | true =>
        go_enter Try.func34, Try.ntmps34
        go_wp2_with (with_reducible refine wpList_box_row (o := ⟨some 4, _, _, _, _, _⟩) rfl _ _ rfl [.slice (some ad) n c] rfl ?_; intro w1 hrow1 hs1 hg1; have hf1 := hrow1.cell (j := 0) rfl; have hb1 := grown_below hg1 (Nat.le_refl _) (by simp))
        refine (HX _ (hr.on hb1)).out.mono ?_
        rintro e w2 ⟨rfl, hb2⟩
        have hf2 := (hrow1.on hb2).cell (j := 0) rfl
        have B2 := hb1.trans (hb2.mono hb1.size)
        have hc2 := (B2.cell (by rw [block_of_add]; exact hlt)).trans hc
        have hd2 := (B2.cell (by rw [block_of_add]; exact hlp)).trans hd
        go_wp2_with fail
        go_ret2
        exact ⟨by rw [HE.out, HO.out]; rfl, B2⟩
    · have e2 : (((s.toNat : Nat) : Int) == 2) = false := by simp only [beq_eq_false_iff_ne, ne_eq]; omega
      have e1 : (((s.toNat : Nat) : Int) == 1) = false := by simp only [beq_eq_false_iff_ne, ne_eq]; omega
      rw [hq] at HE
      generalize s.toNat = v at *
      clear h1 h2
      go_enter Try.func34, Try.ntmps34
      go_wp2_with (with_reducible refine wpList_box_row (o := ⟨some 4, _, _, _, _, _⟩) rfl _ _ rfl [.slice (some ad) n c] rfl ?_; intro w1 hrow1 hs1 hg1; have hf1 := hrow1.cell (j := 0) rfl; have hb1 := grown_below hg1 (Nat.le_refl _) (by simp))
      refine (HX _ (hr.on hb1)).out.mono ?_
      rintro e w2 ⟨rfl, hb2⟩
      have hf2 := (hrow1.on hb2).cell (j := 0) rfl
      have B2 := hb1.trans (hb2.mono hb1.size)
      have hc2 := (B2.cell (by rw [block_of_add]; exact hlt)).trans hc
      have hd2 := (B2.cell (by rw [block_of_add]; exact hlp)).trans hd
      go_wp2_with fail
      go_ret2
      exact ⟨by rw [HE.out, HO.out]; rfl, B2⟩
end Go.Proofs.Ytfcbcclcmgheeaa

/-
  What the reference's Level, Least and Most return: contracts by walks. No condition but bounded lengths.
-/
namespace Go.Proofs.Ytfcbcclcmgheeaa
open Go.RowKit

set_option maxRecDepth 100000 in
set_option maxHeartbeats 2000000 in
theorem rlevel_any (A : Option Addr) (n c : Nat) (ps : List Part) (b : Int) (noise : Bool) (w : World) (hr : ReadsP w w.heap.size A n ps) (hz : ∀ p ∈ ps, p.n ≤ maxLen) :
    Calls Try.prog 29 #[fuv A n c, .int .i64 b, .bool noise] w (TellsI (fuLevel (bk ps) b noise) w) := by
  have HW := fun W hW => Lib.hid (rwidth_any A n c ps b W hW hz)
  have HX := fun k W hW => Lib.hid (rread_any A n c ps b k noise W hW)
  unfold fuv at *
  have HBD := fun k => Lib.hid (fuRead_bd (bk ps) b k noise)
  cases hin : fuIn (bk ps) b with
  | false =>
    have HE := Lib.hid (fuLevel_out (noise := noise) hin)
    rw [fuWidth_out hin] at HW
    generalize fuLevel (bk ps) b noise = E at *
    clear hin hz HX HBD
    go_enter Try.func29, Try.ntmps29
    go_wp2_with (with_reducible refine wpList_box_row (o := ⟨some 3, _, _, _, _, _⟩) rfl _ _ rfl [.slice A n c] rfl ?_; intro w1 r1 s1 g1; have c1 := r1.cell (j := 0) rfl; have b1 := grown_below g1 (Nat.le_refl _) (by simp))
    refine (HW _ (hr.on b1)).out.mono ?_
    rintro e w2 ⟨rfl, b2⟩
    go_wp2_with fail
    go_loopg [8] 0 (fun _ s8 wr => s8 = .int .i64 0 ∧ wr = w2)
    case atStart => exact ⟨rfl, rfl⟩
    case round =>
      obtain ⟨rfl, rfl⟩ := hrel
      go_wp2_with fail
      go_ret
      exact ⟨by rw [HE.out]; rfl, b1.trans (b2.mono b1.size)⟩
  | true =>
    obtain ⟨k, rfl, hk⟩ := fuIn_iff.1 hin
    obtain ⟨p, hpk⟩ : ∃ p, ps[k]? = some p := ⟨_, List.getElem?_eq_getElem (by rw [← bk_len]; exact hk)⟩
    have HE := Lib.hid (fuLevel_nat (noise := noise) (bk_get hpk))
    rw [fuWidth_nat (bk_get hpk)] at HW
    have hpn := hz p (List.mem_of_getElem? hpk)
    rw [← (hr.2 p (List.mem_of_getElem? hpk)).1.bytes_len] at hpn
    have hm : p.l.length / 3 ≤ 3074457345618258602 := by unfold maxLen at hpn; omega
    generalize p.l.length / 3 = m at *
    generalize fuLevel (bk ps) k noise = E at *
    have hR : ∃ r : Int → Int, r = fun j => fuRead (bk ps) (k : Int) j noise := ⟨_, rfl⟩
    obtain ⟨r, hr0⟩ := hR
    have hrk : ∀ j, fuRead (bk ps) (k : Int) j noise = r j := fun j => by rw [hr0]
    simp only [hrk] at HX HBD HE
    clear hr0 hrk hin hz hk hpk hpn
    obtain ⟨q, hq⟩ : ∃ q : Nat → Int, q = fun j : Nat => r (j : Int) := ⟨_, rfl⟩
    have HQ : ∀ j : Nat, Hid (r (j : Int) = q j) := fun j => Lib.hid (by rw [hq])
    have HS := fun j => Lib.hid (show 0 ≤ q j ∧ q j ≤ 1 by rw [← (HQ j).out]; exact (HBD (j : Int)).out)
    rw [← hq] at HE
    clear hq
    go_enter Try.func29, Try.ntmps29
    go_wp2_with (with_reducible refine wpList_box_row (o := ⟨some 3, _, _, _, _, _⟩) rfl _ _ rfl [.slice A n c] rfl ?_; intro w1 r1 s1 g1; have c1 := r1.cell (j := 0) rfl; have b1 := grown_below g1 (Nat.le_refl _) (by simp))
    refine (HW _ (hr.on b1)).out.mono ?_
    rintro e w2 ⟨rfl, b2⟩
    have r2 := r1.on b2
    have B2 := b1.trans (b2.mono b1.size)
    clear r1 g1 c1 b1 b2
    go_wp2_with fail
    go_loopg [8] m (fun g s8 wr => ∃ i : Nat, Hid (i + g = m) ∧ i ≤ m ∧ s8 = .int .i64 (i : Int) ∧ Hid (fuLev q 0 m = fuLev q i g) ∧ Row wr w.heap.size 40 [.slice A n c] ∧ Below w.heap.size w wr)
    case atStart => exact ⟨0, by show _ = _; omega, by omega, rfl, Lib.hid rfl, r2, B2⟩
    case round =>
     obtain ⟨i, HI, hi, rfl, HL, r3, B3⟩ := hrel
     by_cases hlt : i < m
     · have c3 := r3.cell (j := 0) rfl
       have H1 : Hid (r (3 * (i : Int)) = q (3 * i)) := Lib.hid (by rw [← (HQ _).out]; congr 1)
       have H2 : Hid (r (3 * (i : Int) + 1) = q (3 * i + 1)) := Lib.hid (by rw [← (HQ _).out]; congr 1)
       have H3 : Hid (r (3 * (i : Int) + 2) = q (3 * i + 2)) := Lib.hid (by rw [← (HQ _).out]; congr 1)
       go_wp2_with fail
       refine (HX _ _ (hr.on B3)).out.mono ?_
       rintro e w4 ⟨rfl, b4⟩
       have B4 := B3.trans (b4.mono B3.size)
       have r4 := r3.on b4
       have c4 := r4.cell (j := 0) rfl
       rw [H1.out]
       clear c3 b4
       go_wp2_with fail
       refine (HX _ _ (hr.on B4)).out.mono ?_
       rintro e w5 ⟨rfl, b5⟩
       have B5 := B4.trans (b5.mono B4.size)
       have r5 := r4.on b5
       have c5 := r5.cell (j := 0) rfl
       rw [H2.out]
       clear c4 b5
       go_wp2_with fail
       refine (HX _ _ (hr.on B5)).out.mono ?_
       rintro e w6 ⟨rfl, b6⟩
       have B6 := B5.trans (b6.mono B5.size)
       have r6 := r5.on b6
       have c6 := r6.cell (j := 0) rfl
       rw [H3.out]
       clear c5 b6
       have s1 := (HS (3 * i)).out
       have s2 := (HS (3 * i + 1)).out
       have s3 := (HS (3 * i + 2)).out
       by_cases h2 : q (3 * i) + q (3 * i + 1) + q (3 * i + 2) < 2
       · have HR : Hid (E = i) := by
           show _ = _
           obtain ⟨g1, hg1⟩ : ∃ g1, gk = g1 + 1 := ⟨gk - 1, by have := HI.out; omega⟩
           rw [HE.out, HL.out, hg1, fuLev_stop h2]
         generalize q (3 * i) = x at *
         generalize q (3 * i + 1) = y at *
         generalize q (3 * i + 2) = z at *
         go_wp2_with fail
         go_ret
         exact ⟨by rw [HR.out]; rfl, B6⟩
       · have HR : Hid (fuLev q 0 m = fuLev q (i + 1) (gk - 1)) := by
           show _ = _
           obtain ⟨g1, hg1⟩ : ∃ g1, gk = g1 + 1 := ⟨gk - 1, by have := HI.out; omega⟩
           rw [HL.out, hg1, fuLev_go h2]
           rfl
         generalize q (3 * i) = x at *
         generalize q (3 * i + 1) = y at *
         generalize q (3 * i + 2) = z at *
         go_wp2_with fail
         go_roundg (gk - 1)
         case measure => have := HI.out; omega
         case rel => exact ⟨i + 1, by have := HI.out; show _ = _; omega, by omega, by go_num, HR, r6, B6⟩
     · go_wp2_with fail
       go_ret
       refine ⟨?_, B3⟩
       have := HI.out
       obtain rfl : gk = 0 := by omega
       rw [HE.out, HL.out, fuLev]
       obtain rfl : i = m := by omega
       rfl

set_option maxRecDepth 100000 in
set_option maxHeartbeats 1000000 in
theorem rleast_any (A : Option Addr) (n c : Nat) (ps : List Part) (b : Int) (w : World) (hr : ReadsP w w.heap.size A n ps) (hz : ∀ p ∈ ps, p.n ≤ maxLen) :
    Calls Try.prog 17 #[fuv A n c, .int .i64 b] w (TellsI (fuLevel (bk ps) b false) w) := by
  have HU := fun W hW => Lib.hid (rlevel_any A n c ps b false W hW hz)
  unfold fuv at *
  generalize fuLevel (bk ps) b false = E at *
  clear hz
  go_enter Try.func17, Try.ntmps17
  go_wp2_with (with_reducible refine wpList_box_row (o := ⟨some 2, _, _, _, _, _⟩) rfl _ _ rfl [.slice A n c] rfl ?_; intro w1 r1 s1 g1; have c1 := r1.cell (j := 0) rfl; have b1 := grown_below g1 (Nat.le_refl _) (by simp))
  refine (HU _ (hr.on b1)).out.mono ?_
  rintro e w2 ⟨rfl, b2⟩
  go_wp2_with fail
  go_ret
  exact ⟨rfl, b1.trans (b2.mono b1.size)⟩

set_option maxRecDepth 100000 in
set_option maxHeartbeats 1000000 in
theorem rmost_any (A : Option Addr) (n c : Nat) (ps : List Part) (b : Int) (w : World) (hr : ReadsP w w.heap.size A n ps) (hz : ∀ p ∈ ps, p.n ≤ maxLen) :
    Calls Try.prog 18 #[fuv A n c, .int .i64 b] w (TellsI (fuLevel (bk ps) b true) w) := by
  have HU := fun W hW => Lib.hid (rlevel_any A n c ps b true W hW hz)
  unfold fuv at *
  generalize fuLevel (bk ps) b true = E at *
  clear hz
  go_enter Try.func18, Try.ntmps18
  go_wp2_with (with_reducible refine wpList_box_row (o := ⟨some 2, _, _, _, _, _⟩) rfl _ _ rfl [.slice A n c] rfl ?_; intro w1 r1 s1 g1; have c1 := r1.cell (j := 0) rfl; have b1 := grown_below g1 (Nat.le_refl _) (by simp))
  refine (HU _ (hr.on b1)).out.mono ?_
  rintro e w2 ⟨rfl, b2⟩
  go_wp2_with fail
  go_ret
  exact ⟨rfl, b1.trans (b2.mono b1.size)⟩
end Go.Proofs.Ytfcbcclcmgheeaa
