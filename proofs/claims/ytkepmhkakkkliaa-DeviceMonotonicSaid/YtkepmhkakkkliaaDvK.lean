/-
  What device.written, malformed, accesses, faultAt, bytes.Equal and slices.EqualFunc return: contracts by walks. No condition.
-/
import Derived.Test.YtkepmhkakkkliaaDvW
import Derived.Deep.LoopGhost
namespace Go.Proofs.Ytkepmhkakkkliaa
open Go.RowKit

/-- How many bytes of a write reach the memory, as the landed code says it. -/
def dvN (f : DvF) : Int := if f.cut then min (max f.n 0) 256 else 256
theorem flW_dvN (b old : ByteArray) (f : DvF) : flW b (dvN f) old = flW b (dvCut f) old := by
  unfold dvN dvCut
  cases f.cut with
  | false => rw [if_neg (by decide), if_neg (by decide), flW_whole (flWhole_far (by decide)), flW_whole (flWhole_neg (by decide))]
  | true =>
    rw [if_pos rfl, if_pos rfl, show min (max f.n 0) 256 = max 0 (min 256 f.n) by omega]
theorem flWrite_dvN (fs : List ByteArray) (k : Int) (b : ByteArray) (f : DvF) : flWrite fs k b (dvN f) = flWrite fs k b (dvCut f) := by
  unfold flWrite
  rw [flW_dvN]
set_option maxRecDepth 100000 in
set_option maxHeartbeats 4000000 in
theorem written_any9 (f : DvF) (w : World) : Calls Try.prog 65 #[f.v] w (TellsI (dvN f) w) := by
  obtain ⟨cut, n, nz⟩ := f
  cases cut with
  | true =>
    have HE : Hid (dvN ⟨true, n, nz⟩ = min (max n 0) 256) := rfl
    generalize dvN ⟨true, n, nz⟩ = E at *
    go_enter Try.func65, Try.ntmps65
    go_wp2_with ((with_reducible refine wpList_at ⟨some 1, _, _, _, _, _⟩ ?_); refine wpList_box_row rfl _ _ rfl ((⟨true, n, nz⟩ : DvF).cs) rfl ?_; intro w1 f_1 s1 g1; have k1 : Below w.heap.size w w1 := grown_below g1 (Nat.le_refl _) (by simp); have B1 : Below w.heap.size w w1 := k1; have cf0 := f_1.cell (j := 0) rfl; have cf1 := f_1.cell (j := 1) rfl; have cf2 := f_1.cell (j := 2) rfl)
    all_goals
      go_ret
      refine ⟨?_, B1⟩
      rw [HE.out]
      first
        | (rw [show min (max n 0) 256 = 256 by first | omega | (split at * <;> omega)]; rfl)
        | (rw [show min (max n 0) 256 = 0 by first | omega | (split at * <;> omega)]; rfl)
        | (rw [show min (max n 0) 256 = n by first | omega | (split at * <;> omega)]; rfl)
  | false =>
    have HE : Hid (dvN ⟨false, n, nz⟩ = 256) := rfl
    generalize dvN ⟨false, n, nz⟩ = E at *
    go_enter Try.func65, Try.ntmps65
    go_wp2_with ((with_reducible refine wpList_at ⟨some 1, _, _, _, _, _⟩ ?_); refine wpList_box_row rfl _ _ rfl ((⟨false, n, nz⟩ : DvF).cs) rfl ?_; intro w1 f_1 s1 g1; have k1 : Below w.heap.size w w1 := grown_below g1 (Nat.le_refl _) (by simp); have B1 : Below w.heap.size w w1 := k1; have cf0 := f_1.cell (j := 0) rfl; have cf1 := f_1.cell (j := 1) rfl; have cf2 := f_1.cell (j := 2) rfl)
    go_ret
    exact ⟨by rw [HE.out]; rfl, B1⟩

theorem str_empty {s : ByteArray} (h : s ≠ noB) : (s.toList == ([] : List UInt8)) = false := by
  have := str_ne h
  rwa [show noB.toList = [] by rw [ByteArray.toList_eq]; rfl] at this
set_option maxRecDepth 100000 in
set_option maxHeartbeats 4000000 in
theorem malformed_any9 (a : DvA) (w : World) : Calls Try.prog 38 #[a.v] w (TellsB (dvBad a) w) := by
  obtain ⟨k, b, c, s⟩ := a
  by_cases h1 : k = 1
  · subst h1
    have HE := Lib.hid (dvBad_fuse (a := ⟨1, b, c, s⟩) (.inl rfl))
    generalize dvBad ⟨1, b, c, s⟩ = E at *
    by_cases hs : s = noB
    · subst hs
      rw [decide_eq_false (by simp)] at HE
      unfold noB at *
      go_enter Try.func38, Try.ntmps38
      go_wp2_with ((with_reducible refine wpList_at ⟨some 1, _, _, _, _, _⟩ ?_); refine wpList_box_row rfl _ _ rfl ((⟨1, b, c, ⟨#[]⟩⟩ : DvA).cs) rfl ?_; intro w1 a_1 s1 g1; have k1 : Below w.heap.size w w1 := grown_below g1 (Nat.le_refl _) (by simp); have B1 : Below w.heap.size w w1 := k1; have ca0 := a_1.cell (j := 0) rfl; have ca1 := a_1.cell (j := 1) rfl; have ca2 := a_1.cell (j := 2) rfl; have ca3 := a_1.cell (j := 3) rfl)
      go_ret
      exact ⟨by rw [HE.out]; rfl, B1⟩
    · rw [decide_eq_true hs] at HE
      have hq := str_empty hs
      clear hs
      go_enter Try.func38, Try.ntmps38
      go_wp2_with ((with_reducible refine wpList_at ⟨some 1, _, _, _, _, _⟩ ?_); refine wpList_box_row rfl _ _ rfl ((⟨1, b, c, s⟩ : DvA).cs) rfl ?_; intro w1 a_1 s1 g1; have k1 : Below w.heap.size w w1 := grown_below g1 (Nat.le_refl _) (by simp); have B1 : Below w.heap.size w w1 := k1; have ca0 := a_1.cell (j := 0) rfl; have ca1 := a_1.cell (j := 1) rfl; have ca2 := a_1.cell (j := 2) rfl; have ca3 := a_1.cell (j := 3) rfl)
      go_ret
      exact ⟨by rw [HE.out]; rfl, B1⟩
  by_cases h2 : k = 2
  · subst h2
    have HE := Lib.hid (dvBad_fuse (a := ⟨2, b, c, s⟩) (.inr rfl))
    generalize dvBad ⟨2, b, c, s⟩ = E at *
    clear h1
    by_cases hs : s = noB
    · subst hs
      rw [decide_eq_false (by simp)] at HE
      unfold noB at *
      go_enter Try.func38, Try.ntmps38
      go_wp2_with ((with_reducible refine wpList_at ⟨some 1, _, _, _, _, _⟩ ?_); refine wpList_box_row rfl _ _ rfl ((⟨2, b, c, ⟨#[]⟩⟩ : DvA).cs) rfl ?_; intro w1 a_1 s1 g1; have k1 : Below w.heap.size w w1 := grown_below g1 (Nat.le_refl _) (by simp); have B1 : Below w.heap.size w w1 := k1; have ca0 := a_1.cell (j := 0) rfl; have ca1 := a_1.cell (j := 1) rfl; have ca2 := a_1.cell (j := 2) rfl; have ca3 := a_1.cell (j := 3) rfl)
      go_ret
      exact ⟨by rw [HE.out]; rfl, B1⟩
    · rw [decide_eq_true hs] at HE
      have hq := str_empty hs
      clear hs
      go_enter Try.func38, Try.ntmps38
      go_wp2_with ((with_reducible refine wpList_at ⟨some 1, _, _, _, _, _⟩ ?_); refine wpList_box_row rfl _ _ rfl ((⟨2, b, c, s⟩ : DvA).cs) rfl ?_; intro w1 a_1 s1 g1; have k1 : Below w.heap.size w w1 := grown_below g1 (Nat.le_refl _) (by simp); have B1 : Below w.heap.size w w1 := k1; have ca0 := a_1.cell (j := 0) rfl; have ca1 := a_1.cell (j := 1) rfl; have ca2 := a_1.cell (j := 2) rfl; have ca3 := a_1.cell (j := 3) rfl)
      go_ret
      exact ⟨by rw [HE.out]; rfl, B1⟩
  by_cases h3 : k = 3
  · subst h3
    have HE := Lib.hid (dvBad_read (a := ⟨3, b, c, s⟩) rfl)
    generalize dvBad ⟨3, b, c, s⟩ = E at *
    clear h1 h2
    by_cases hs : s = noB
    · subst hs
      unfold noB at *
      by_cases hb : b = 0
      · subst hb
        rw [decide_eq_false (by simp), decide_eq_false (by simp)] at HE
        go_enter Try.func38, Try.ntmps38
        go_wp2_with ((with_reducible refine wpList_at ⟨some 1, _, _, _, _, _⟩ ?_); refine wpList_box_row rfl _ _ rfl ((⟨3, 0, c, ⟨#[]⟩⟩ : DvA).cs) rfl ?_; intro w1 a_1 s1 g1; have k1 : Below w.heap.size w w1 := grown_below g1 (Nat.le_refl _) (by simp); have B1 : Below w.heap.size w w1 := k1; have ca0 := a_1.cell (j := 0) rfl; have ca1 := a_1.cell (j := 1) rfl; have ca2 := a_1.cell (j := 2) rfl; have ca3 := a_1.cell (j := 3) rfl)
        go_ret
        exact ⟨by rw [HE.out]; rfl, B1⟩
      · rw [decide_eq_true hb, Bool.or_true] at HE
        have hq : (b != 0) = true := by simpa using hb
        clear hb
        go_enter Try.func38, Try.ntmps38
        go_wp2_with ((with_reducible refine wpList_at ⟨some 1, _, _, _, _, _⟩ ?_); refine wpList_box_row rfl _ _ rfl ((⟨3, b, c, ⟨#[]⟩⟩ : DvA).cs) rfl ?_; intro w1 a_1 s1 g1; have k1 : Below w.heap.size w w1 := grown_below g1 (Nat.le_refl _) (by simp); have B1 : Below w.heap.size w w1 := k1; have ca0 := a_1.cell (j := 0) rfl; have ca1 := a_1.cell (j := 1) rfl; have ca2 := a_1.cell (j := 2) rfl; have ca3 := a_1.cell (j := 3) rfl)
        go_ret
        exact ⟨by rw [HE.out]; rfl, B1⟩
    · rw [decide_eq_true hs, Bool.true_or] at HE
      have hq := str_empty hs
      clear hs
      go_enter Try.func38, Try.ntmps38
      go_wp2_with ((with_reducible refine wpList_at ⟨some 1, _, _, _, _, _⟩ ?_); refine wpList_box_row rfl _ _ rfl ((⟨3, b, c, s⟩ : DvA).cs) rfl ?_; intro w1 a_1 s1 g1; have k1 : Below w.heap.size w w1 := grown_below g1 (Nat.le_refl _) (by simp); have B1 : Below w.heap.size w w1 := k1; have ca0 := a_1.cell (j := 0) rfl; have ca1 := a_1.cell (j := 1) rfl; have ca2 := a_1.cell (j := 2) rfl; have ca3 := a_1.cell (j := 3) rfl)
      go_ret
      exact ⟨by rw [HE.out]; rfl, B1⟩
  by_cases h4 : k = 4
  · subst h4
    have HE := Lib.hid (dvBad_write (a := ⟨4, b, c, s⟩) rfl)
    generalize dvBad ⟨4, b, c, s⟩ = E at *
    clear h1 h2 h3
    by_cases hb : b = 0
    · subst hb
      rw [decide_eq_false (by simp)] at HE
      go_enter Try.func38, Try.ntmps38
      go_wp2_with ((with_reducible refine wpList_at ⟨some 1, _, _, _, _, _⟩ ?_); refine wpList_box_row rfl _ _ rfl ((⟨4, 0, c, s⟩ : DvA).cs) rfl ?_; intro w1 a_1 s1 g1; have k1 : Below w.heap.size w w1 := grown_below g1 (Nat.le_refl _) (by simp); have B1 : Below w.heap.size w w1 := k1; have ca0 := a_1.cell (j := 0) rfl; have ca1 := a_1.cell (j := 1) rfl; have ca2 := a_1.cell (j := 2) rfl; have ca3 := a_1.cell (j := 3) rfl)
      go_ret
      exact ⟨by rw [HE.out]; rfl, B1⟩
    · rw [decide_eq_true hb] at HE
      have hq : (b != 0) = true := by simpa using hb
      clear hb
      go_enter Try.func38, Try.ntmps38
      go_wp2_with ((with_reducible refine wpList_at ⟨some 1, _, _, _, _, _⟩ ?_); refine wpList_box_row rfl _ _ rfl ((⟨4, b, c, s⟩ : DvA).cs) rfl ?_; intro w1 a_1 s1 g1; have k1 : Below w.heap.size w w1 := grown_below g1 (Nat.le_refl _) (by simp); have B1 : Below w.heap.size w w1 := k1; have ca0 := a_1.cell (j := 0) rfl; have ca1 := a_1.cell (j := 1) rfl; have ca2 := a_1.cell (j := 2) rfl; have ca3 := a_1.cell (j := 3) rfl)
      go_ret
      exact ⟨by rw [HE.out]; rfl, B1⟩
  · have HE := Lib.hid (dvBad_far (a := ⟨k, b, c, s⟩) h1 h2 h3 h4)
    generalize dvBad ⟨k, b, c, s⟩ = E at *
    have q1 : (k == 1) = false := by simpa using h1
    have q2 : (k == 2) = false := by simpa using h2
    have q3 : (k == 3) = false := by simpa using h3
    have q4 : (k == 4) = false := by simpa using h4
    clear h1 h2 h3 h4
    go_enter Try.func38, Try.ntmps38
    go_wp2_with ((with_reducible refine wpList_at ⟨some 1, _, _, _, _, _⟩ ?_); refine wpList_box_row rfl _ _ rfl ((⟨k, b, c, s⟩ : DvA).cs) rfl ?_; intro w1 a_1 s1 g1; have k1 : Below w.heap.size w w1 := grown_below g1 (Nat.le_refl _) (by simp); have B1 : Below w.heap.size w w1 := k1; have ca0 := a_1.cell (j := 0) rfl; have ca1 := a_1.cell (j := 1) rfl; have ca2 := a_1.cell (j := 2) rfl; have ca3 := a_1.cell (j := 3) rfl)
    go_ret
    exact ⟨by rw [HE.out]; rfl, B1⟩

end Go.Proofs.Ytkepmhkakkkliaa
