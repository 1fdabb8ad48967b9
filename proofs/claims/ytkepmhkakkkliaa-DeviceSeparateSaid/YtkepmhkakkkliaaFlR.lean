/-
  What the reference's Valid, Small, Read and Same return: contracts by walks. No condition but bounded lengths.
-/
import Derived.Test.YtkepmhkakkkliaaFlC
namespace Go.Proofs.Ytkepmhkakkkliaa
open Go.RowKit

set_option maxRecDepth 100000 in
set_option maxHeartbeats 1000000 in
theorem rread8_any (A : Option Addr) (n c : Nat) (fs : List ByteArray) (k : Int) (w : World) (hok : FlOK w A n c fs) :
    Calls Try.prog 26 #[flv A n c, .int .i64 k] w (TellsSI (flRead fs k) (flErr fs k) w) := by
  have hlen := hok.len
  have hr := hok.1
  unfold flv
  clear hok
  by_cases hb : k < 0
  · clear hr
    have HE := Lib.hid (flRead_no (fs := fs) (k := k) (flIn_neg hb))
    have HO := Lib.hid (flErr_no (fs := fs) (k := k) (flIn_neg hb))
    generalize flRead fs k = E at *
    generalize flErr fs k = O at *
    clear hlen
    go_enter Try.func26, Try.ntmps26
    go_wp2_with (with_reducible refine wpList_box_row (o := ⟨some 2, _, _, _, _, _⟩) rfl _ _ rfl [.slice A n c] rfl ?_; intro w1 hrow1 hs1 hg1; have hf1 := hrow1.cell (j := 0) rfl; have hb1 := grown_below hg1 (Nat.le_refl _) (by simp))
    go_ret2
    exact ⟨by rw [HE.out, HO.out]; rfl, hb1⟩
  · by_cases hkn : (n : Int) ≤ k
    · clear hr
      have HE := Lib.hid (flRead_no (fs := fs) (k := k) (flIn_far (by omega)))
      have HO := Lib.hid (flErr_no (fs := fs) (k := k) (flIn_far (by omega)))
      generalize flRead fs k = E at *
      generalize flErr fs k = O at *
      clear hlen
      go_enter Try.func26, Try.ntmps26
      go_wp2_with (with_reducible refine wpList_box_row (o := ⟨some 2, _, _, _, _, _⟩) rfl _ _ rfl [.slice A n c] rfl ?_; intro w1 hrow1 hs1 hg1; have hf1 := hrow1.cell (j := 0) rfl; have hb1 := grown_below hg1 (Nat.le_refl _) (by simp))
      go_ret2
      exact ⟨by rw [HE.out, HO.out]; rfl, hb1⟩
    · obtain ⟨i, rfl⟩ : ∃ i : Nat, k = (i : Int) := ⟨k.toNat, by omega⟩
      obtain ⟨ad, s, rfl, hlt, hs, hc⟩ := hr.str_at (i := i) (by omega)
      have HE := Lib.hid (flRead_nat hs)
      have HO := Lib.hid (flErr_nat (fs := fs) (j := i) (by omega))
      generalize flRead fs i = E at *
      generalize flErr fs i = O at *
      clear hlen hs
      go_enter Try.func26, Try.ntmps26
      go_wp2_with (with_reducible refine wpList_box_row (o := ⟨some 2, _, _, _, _, _⟩) rfl _ _ rfl [.slice (some ad) n c] rfl ?_; intro w1 hrow1 hs1 hg1; have hf1 := hrow1.cell (j := 0) rfl; have hb1 := grown_below hg1 (Nat.le_refl _) (by simp); have hc2 := (hb1.cell (by rw [block_of_add]; exact hlt)).trans hc; clear hc)
      go_ret2
      exact ⟨by rw [HE.out, HO.out]; rfl, hb1⟩

end Go.Proofs.Ytkepmhkakkkliaa
