/-
  What fuse.level, fuse.uniformLevel, fuse.Least and fuse.Most return: contracts by walks. No condition but bounded lengths.
-/
import Derived.Test.YtkepmhkakkkliaaFuK
namespace Go.Proofs.Ytkepmhkakkkliaa
open Go.RowKit

set_option maxRecDepth 100000 in
set_option maxHeartbeats 1000000 in
/-- The reading of a cell, as a closure. -/
theorem fcell_any (g1 g2 g3 : Nat) (A : Option Addr) (n c : Nat) (ps : List Part) (b : Int) (noise : Bool) (k : Int) (w : World) (hr : ReadsP w w.heap.size A n ps)
    (h1 : Row w g1 24 [.slice A n c]) (h2 : Row w g2 3 [.int .i64 b]) (h3 : Row w g3 4 [.bool noise]) :
    Calls Try.prog 49 #[.int .i64 k, .pointer (some ⟨g1, 0, none⟩), .pointer (some ⟨g2, 0, none⟩), .pointer (some ⟨g3, 0, none⟩)] w (TellsI (fuRead (bk ps) b k noise) w) := by
  have HX := fun W hW => Lib.hid (fread_any A n c ps b k noise W hW)
  unfold fuv at HX
  generalize fuRead (bk ps) b k noise = E at *
  have c1 := h1.cell (j := 0) rfl
  have c2 := h2.cell (j := 0) rfl
  have c3 := h3.cell (j := 0) rfl
  clear h1 h2 h3
  go_enter Try.func49, Try.ntmps49
  go_wp2_with fail
  refine (HX _ hr).out.mono ?_
  rintro e w2 ⟨rfl, hb2⟩
  go_wp2_with fail
  go_ret
  exact ⟨rfl, hb2⟩

theorem fuRead_bd (bs : List (List UInt8)) (b c : Int) (noise : Bool) : 0 ≤ fuRead bs b c noise ∧ fuRead bs b c noise ≤ 1 := by unfold fuRead; split <;> omega
set_option maxRecDepth 100000 in
set_option maxHeartbeats 2000000 in
theorem flevel_any (m : Nat) (hm : m ≤ 3074457345618258602) (g1 g2 g3 : Nat) (A : Option Addr) (n c : Nat) (ps : List Part) (b : Int) (noise : Bool) (w : World) (hr : ReadsP w w.heap.size A n ps)
    (h1 : Row w g1 24 [.slice A n c]) (h2 : Row w g2 3 [.int .i64 b]) (h3 : Row w g3 4 [.bool noise]) :
    Calls Try.prog 47 #[.int .i64 (m : Int), .func (.func 49) #[] #[.pointer (some ⟨g1, 0, none⟩), .pointer (some ⟨g2, 0, none⟩), .pointer (some ⟨g3, 0, none⟩)]] w
      (TellsI ((fuLev (fun k => fuRead (bk ps) b (k : Int) noise) 0 m : Nat) : Int) w) := by
  have HX := fun k W (hB : Below w.heap.size w W) => Lib.hid (fcell_any g1 g2 g3 A n c ps b noise k W (hr.on hB) (h1.on hB) (h2.on hB) (h3.on hB))
  have HBD := fun k => Lib.hid (fuRead_bd (bk ps) b k noise)
  have hR : ∃ r : Int → Int, r = fun k => fuRead (bk ps) b k noise := ⟨_, rfl⟩
  obtain ⟨r, hr0⟩ := hR
  have hrk : ∀ k, fuRead (bk ps) b k noise = r k := fun k => by rw [hr0]
  simp only [hrk] at HX HBD ⊢
  clear hr0 hrk hr h1 h2 h3
  obtain ⟨q, hq⟩ : ∃ q : Nat → Int, q = fun k : Nat => r (k : Int) := ⟨_, rfl⟩
  have HQ : ∀ k : Nat, Hid (r (k : Int) = q k) := fun k => Lib.hid (by rw [hq])
  have HS := fun i j => Lib.hid (fuSum_bd q (fun k => by rw [← (HQ k).out]; exact (HBD (k : Int)).out) i j)
  rw [← hq]
  clear hq
  go_enter Try.func47, Try.ntmps47
  go_wp2_with fail
  go_loopg [9] m (fun g s9 wr => ∃ i : Nat, Hid (i + g = m) ∧ i ≤ m ∧ s9 = .int .i64 (i : Int) ∧ Hid (fuLev q 0 m = fuLev q i g) ∧ Below w.heap.size w wr)
  case atStart => exact ⟨0, by show _ = _; omega, by omega, rfl, Lib.hid rfl, Below.refl _ _⟩
  case round =>
    obtain ⟨i, HI, hi, rfl, HL, hB⟩ := hrel
    by_cases hlt : i < m
    · go_wp2_with fail
      obtain ⟨g0, hg0⟩ : ∃ g0 : Nat, g0 = gk := ⟨_, rfl⟩
      have HG0 := Lib.hid hg0
      clear hg0
      go_loopg [6, 12] 3 (fun g s6 s12 wi => ∃ j : Nat, j ≤ 3 ∧ 3 ≤ g + j ∧ s12 = .int .i64 (j : Int) ∧ s6 = .int .i64 (fuSum q i j) ∧ Below w.heap.size w wi)
      case atStart => exact ⟨0, by omega, by omega, rfl, rfl, hB⟩
      case round =>
        obtain ⟨j, hj, hgj, rfl, rfl, hBi⟩ := hrel
        have hs := (HS i j).out
        have HSS : Hid (fuSum q i (j + 1) = fuSum q i j + q (3 * i + j)) := Lib.hid rfl
        by_cases hlj : j < 3
        · generalize fuSum q i j = S at *
          go_wp2_with fail
          refine (HX _ _ hBi).out.mono ?_
          rintro e w2 ⟨rfl, hb2⟩
          have hrd := HBD (3 * (i : Int) + (j : Int))
          have HQ2 : Hid (r (3 * (i : Int) + (j : Int)) = q (3 * i + j)) := by show _ = _; rw [← (HQ _).out]; congr 1
          generalize r (3 * (i : Int) + (j : Int)) = R at *
          have hr1 := hrd.out
          go_wp2_with fail
          go_roundg (gk - 1)
          case measure => omega
          case rel => exact ⟨j + 1, by omega, by omega, by go_num, by rw [HSS.out, ← HQ2.out], hBi.trans (hb2.mono hBi.size)⟩
        · obtain rfl : j = 3 := by omega
          have HS3 := Lib.hid (fuSum_three q i)
          by_cases h2 : fuSum q i 3 < 2
          · have hd : decide (fuSum q i 3 < 2) = true := decide_eq_true h2
            have HR : Hid (fuLev q 0 m = i) := by
              show _ = _
              obtain ⟨g1, hg1⟩ : ∃ g1, g0 = g1 + 1 := ⟨g0 - 1, by have := HI.out; have := HG0.out; omega⟩
              rw [HL.out, ← HG0.out, hg1, fuLev_stop (by rw [← HS3.out]; exact h2)]
            generalize fuSum q i 3 = S at *
            generalize fuLev q 0 m = V at *
            go_wp2_with fail
            go_ret
            exact ⟨by rw [HR.out]; rfl, hBi⟩
          · have hd : decide (fuSum q i 3 < 2) = false := decide_eq_false h2
            have HR : Hid (fuLev q 0 m = fuLev q (i + 1) (g0 - 1)) := by
              show _ = _
              obtain ⟨g1, hg1⟩ : ∃ g1, g0 = g1 + 1 := ⟨g0 - 1, by have := HI.out; have := HG0.out; omega⟩
              rw [HL.out, ← HG0.out, hg1, fuLev_go (by rw [← HS3.out]; exact h2)]
              rfl
            generalize fuSum q i 3 = S at *
            go_wp2_with fail
            go_roundg (g0 - 1)
            case measure => have := HI.out; have := HG0.out; omega
            case rel => exact ⟨i + 1, by have := HI.out; have := HG0.out; show _ = _; omega, by omega, by go_num, HR, hBi⟩
    · go_wp2_with fail
      go_ret
      refine ⟨?_, hB⟩
      have := HI.out
      obtain rfl : gk = 0 := by omega
      rw [HL.out, fuLev]
      obtain rfl : i = m := by omega
      rfl

set_option maxRecDepth 100000 in
set_option maxHeartbeats 1000000 in
theorem flevelneg_any (fv : Value) (w : World) : Calls Try.prog 47 #[.int .i64 (-1), fv] w fun e w' => e = .returned (.int .i64 (-1)) ∧ w' = w := by
  go_enter Try.func47, Try.ntmps47
  go_wp2_with fail
  go_loopg [9] 0 (fun _ s9 wr => s9 = .int .i64 0 ∧ wr = w)
  case atStart => exact ⟨rfl, rfl⟩
  case round =>
    obtain ⟨rfl, rfl⟩ := hrel
    go_wp2_with fail
    go_ret
    exact ⟨rfl, rfl⟩

set_option maxRecDepth 100000 in
set_option maxHeartbeats 1000000 in
theorem funiform_any (A : Option Addr) (n c : Nat) (ps : List Part) (b : Int) (noise : Bool) (w : World) (hr : ReadsP w w.heap.size A n ps) (hz : ∀ p ∈ ps, p.n ≤ maxLen) :
    Calls Try.prog 37 #[fuv A n c, .int .i64 b, .bool noise] w (TellsI (fuLevel (bk ps) b noise) w) := by
  have HW := fun W hW => Lib.hid (fwidth_any A n c ps b W hW hz)
  have HBX : Hid (fuv A n c = .agg #[.slice A n c]) := rfl
  unfold fuv at *
  have arms : True := trivial
  cases hin : fuIn (bk ps) b with
  | false =>
    have HE := Lib.hid (fuLevel_out (noise := noise) hin)
    rw [fuWidth_out hin] at HW
    generalize fuLevel (bk ps) b noise = E at *
    clear hin hz
    go_enter Try.func37, Try.ntmps37
    go_wp2_with (first
      | (with_reducible refine wpList_box_row (o := ⟨some 3, _, _, _, _, _⟩) rfl _ _ rfl [.slice A n c] rfl ?_; intro w1 r1 s1 g1)
      | (with_reducible refine wpList_box_row (o := ⟨some 4, _, _, _, _, _⟩) rfl _ _ rfl [.int .i64 b] rfl ?_; intro w2 r2 s2 g2)
      | (with_reducible refine wpList_box_row (o := ⟨some 5, _, _, _, _, _⟩) rfl _ _ rfl [.bool noise] rfl ?_; intro w3 r3 s3 g3; have q1 := (r1.kept g2 (by simp)).kept g3 (by simp); have q2 := r2.kept g3 (by simp); have b3 := below_kept (below_kept (grown_below g1 (Nat.le_refl _) (by simp)) g2 (Nat.le_of_lt s1) (by simp)) g3 (Nat.le_of_lt (Nat.lt_trans s1 s2)) (by simp); have c1 := q1.cell (j := 0) rfl; have c2 := q2.cell (j := 0) rfl; clear r1 r2 g1 g2 g3 s1 s2 s3))
    refine (HW _ (hr.on b3)).out.mono ?_
    rintro e w4 ⟨rfl, b4⟩
    go_wp2_with fail
    refine (flevelneg_any _ _).mono ?_
    rintro e _ ⟨rfl, rfl⟩
    go_wp2_with fail
    go_ret
    exact ⟨by rw [HE.out]; rfl, b3.trans (b4.mono b3.size)⟩
  | true =>
    obtain ⟨k, rfl, hk⟩ := fuIn_iff.1 hin
    obtain ⟨p, hpk⟩ : ∃ p, ps[k]? = some p := ⟨_, List.getElem?_eq_getElem (by rw [← bk_len]; exact hk)⟩
    have HE := Lib.hid (fuLevel_nat (noise := noise) (bk_get hpk))
    rw [fuWidth_nat (bk_get hpk)] at HW
    have hpn := hz p (List.mem_of_getElem? hpk)
    rw [← (hr.2 p (List.mem_of_getElem? hpk)).1.bytes_len] at hpn
    have hm : p.l.length / 3 ≤ 3074457345618258602 := by unfold maxLen at hpn; omega
    have HL := fun g1 g2 g3 W (h0 : ReadsP W W.heap.size A n ps) h1 h2 h3 => Lib.hid (flevel_any (p.l.length / 3) hm g1 g2 g3 A n c ps (k : Int) noise W h0 h1 h2 h3)
    generalize p.l.length / 3 = M at *
    generalize fuLevel (bk ps) k noise = E at *
    rw [← HE.out] at HL
    clear hin hz hk hpk hpn HE hm
    go_enter Try.func37, Try.ntmps37
    go_wp2_with (first
      | (with_reducible refine wpList_box_row (o := ⟨some 3, _, _, _, _, _⟩) rfl _ _ rfl [.slice A n c] rfl ?_; intro w1 r1 s1 g1)
      | (with_reducible refine wpList_box_row (o := ⟨some 4, _, _, _, _, _⟩) rfl _ _ rfl [.int .i64 (k : Int)] rfl ?_; intro w2 r2 s2 g2)
      | (with_reducible refine wpList_box_row (o := ⟨some 5, _, _, _, _, _⟩) rfl _ _ rfl [.bool noise] rfl ?_; intro w3 r3 s3 g3; have q1 := (r1.kept g2 (by simp)).kept g3 (by simp); have q2 := r2.kept g3 (by simp); have b3 := below_kept (below_kept (grown_below g1 (Nat.le_refl _) (by simp)) g2 (Nat.le_of_lt s1) (by simp)) g3 (Nat.le_of_lt (Nat.lt_trans s1 s2)) (by simp); have c1 := q1.cell (j := 0) rfl; have c2 := q2.cell (j := 0) rfl; clear r1 r2 g1 g2 g3 s1 s2 s3))
    refine (HW _ (hr.on b3)).out.mono ?_
    rintro e w4 ⟨rfl, b4⟩
    have B4 := b3.trans (b4.mono b3.size)
    go_wp2_with fail
    refine (HL _ _ _ _ (hr.on B4) (q1.on b4) (q2.on b4) (r3.on b4)).out.mono ?_
    rintro e w5 ⟨rfl, b5⟩
    go_wp2_with fail
    go_ret
    exact ⟨rfl, B4.trans (b5.mono B4.size)⟩

set_option maxRecDepth 100000 in
set_option maxHeartbeats 1000000 in
theorem fleast_any (A : Option Addr) (n c : Nat) (ps : List Part) (b : Int) (w : World) (hr : ReadsP w w.heap.size A n ps) (hz : ∀ p ∈ ps, p.n ≤ maxLen) :
    Calls Try.prog 19 #[fuv A n c, .int .i64 b] w (TellsI (fuLevel (bk ps) b false) w) := by
  have HU := fun W hW => Lib.hid (funiform_any A n c ps b false W hW hz)
  unfold fuv at *
  generalize fuLevel (bk ps) b false = E at *
  clear hz
  go_enter Try.func19, Try.ntmps19
  go_wp2_with (with_reducible refine wpList_box_row (o := ⟨some 2, _, _, _, _, _⟩) rfl _ _ rfl [.slice A n c] rfl ?_; intro w1 r1 s1 g1; have c1 := r1.cell (j := 0) rfl; have b1 := grown_below g1 (Nat.le_refl _) (by simp))
  refine (HU _ (hr.on b1)).out.mono ?_
  rintro e w2 ⟨rfl, b2⟩
  go_wp2_with fail
  go_ret
  exact ⟨rfl, b1.trans (b2.mono b1.size)⟩

end Go.Proofs.Ytkepmhkakkkliaa
