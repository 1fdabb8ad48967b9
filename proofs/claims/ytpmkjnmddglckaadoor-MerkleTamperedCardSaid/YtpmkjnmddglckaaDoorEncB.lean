/-
  What wire.Int, wire.Bytes and the reference's Int return: contracts by walks.
-/
import Derived.Test.YtpmkjnmddglckaaDoorEnc
namespace Go.Proofs.YtpmkjnmddglckaaDoor
open Go.RowKit

/-- A new slice that reads as the bytes l; nothing that was there has changed. -/
def Gives (l : List UInt8) (w : World) (e : Ending) (w' : World) : Prop :=
  ∃ v, e = .returned v ∧ w'.ownsRow w.heap.size 5 1 v l.length (bvs l) ∧ Below w.heap.size w w'

set_option maxHeartbeats 400000 in
theorem int_any (n : Int) (w : World) (h1 : -9223372036854775808 ≤ n) (h2 : n ≤ 9223372036854775807) : Calls Tryd.prog 50 #[.int .i64 n] w (Gives (encInt n) w) := by
  go_enter Tryd.func50, Tryd.ntmps50
  go_wp2_with fail
  refine (appendInt_any w.heap.size (.slice none 0 0) 0 [] n _ h1 h2 (World.ownsRow_nil _ _ _ _) (Nat.le_refl _) (by omega)).mono ?_
  rintro e w' ⟨v', rfl, hown, hbel⟩
  go_wp2_with fail
  go_ret
  exact ⟨v', rfl, by simpa using hown, hbel⟩

/-! ## The reference's Int -/
set_option maxHeartbeats 400000 in
theorem refZigzag_any (n : Int) (w : World) (h1 : -9223372036854775808 ≤ n) (h2 : n ≤ 9223372036854775807) :
    Calls Tryd.prog 53 #[.int .i64 n] w fun e w' => e = .returned (.int .u64 (zz n : Nat)) ∧ w = w' := by
  by_cases h : 0 ≤ n
  · have HZ : Hid (((zz n : Nat) : Int) = 2 * n) := by show ((zz n : Nat) : Int) = 2 * n; unfold zz; rw [if_pos h]; omega
    go_enter Tryd.func53, Tryd.ntmps53
    go_wp2
    go_ret
    exact ⟨by rw [HZ.out]; rfl, rfl⟩
  · have HZ : Hid (((zz n : Nat) : Int) = 2 * -(n + 1) + 1) := by show ((zz n : Nat) : Int) = 2 * -(n + 1) + 1; unfold zz; rw [if_neg h]; omega
    go_enter Tryd.func53, Tryd.ntmps53
    go_wp2
    go_ret
    exact ⟨by rw [HZ.out]; rfl, rfl⟩

theorem rcell_last (u : Nat) (h : u < 128) : Value.int IntKind.u8 (u : Int) = bv (UInt8.ofNat u) := by
  unfold bv
  congr 1
  simp
  omega
theorem rcell_more (u : Nat) : Value.int IntKind.u8 (128 + (u : Int) % 128) = bv (UInt8.ofNat (u % 128 + 128)) := by
  unfold bv
  congr 1
  simp
  omega

set_option maxRecDepth 100000 in
set_option maxHeartbeats 400000 in
theorem refInt_any (n : Int) (w : World) (h1 : -9223372036854775808 ≤ n) (h2 : n ≤ 9223372036854775807) : Calls Tryd.prog 46 #[.int .i64 n] w (Gives (encInt n) w) := by
  obtain ⟨i0, hi0, hz0, hz1, hz2⟩ := info_parts info_u8
  have hz64 := zz_lt n h1 h2
  have h10 := leb_le10 (zz n) hz64
  go_enter Tryd.func46, Tryd.ntmps46
  go_wp2_with fail
  refine (refZigzag_any n _ h1 h2).mono ?_
  rintro e w' ⟨rfl, rfl⟩
  go_wp2_with fail
  go_loopg [4, 3] (zz n) (fun g v' u wr => ∃ (u' : Nat) (done : List UInt8), u' ≤ g ∧ g ≤ 18446744073709551615 ∧ done.length + (leb u').length ≤ 10 ∧ u = .int .u64 u' ∧ Hid (done ++ leb u' = encInt n) ∧ wr.ownsRow w.heap.size 5 1 v' done.length (bvs done) ∧ Below w.heap.size w wr)
  case atStart => exact ⟨zz n, [], Nat.le_refl _, by omega, by simpa using h10, rfl, rfl, World.ownsRow_nil _ _ _ _, Below.refl _ _⟩
  case round =>
    obtain ⟨u, done, hug, hg64, hlen, rfl, hdone, hown1, hbel⟩ := hrel
    by_cases hu : u < 128
    · go_wp2_with (at_builtin; refine wpList_append_src _ rfl (.tmp 18) (.tmp 21) _ _ rfl w.heap.size 5 i0 _ 1 1 Tryd.underlying39 hi0 hz0 hz1 hz2 rfl _ _ _ rfl (hown1.alloc _) 1 _ (Src.box Tryd.underlying39 _ _ _ rfl _) (by unfold maxLen; omega) (by omega) (by have := hbel.size; simp; omega) ?_; intro v2 w2 hown2 hbel2)
      go_ret
      have hd := hdone.out
      rw [leb_small hu] at hd
      refine ⟨_, rfl, ?_, hbel.trans (((Below.refl _ _).alloc hbel.size _).trans hbel2)⟩
      rw [rcell_last u hu] at hown2
      have e1 : bvs (encInt n) = bvs done ++ [bv (UInt8.ofNat u)] := by rw [← hd, bvs_append]; rfl
      have e2 : (encInt n).length = done.length + 1 := by rw [← hd, List.length_append]; rfl
      rw [e1, e2]
      exact hown2
    · go_wp2_with (at_builtin; refine wpList_append_src _ rfl (.tmp 9) (.tmp 14) _ _ rfl w.heap.size 5 i0 _ 1 1 Tryd.underlying39 hi0 hz0 hz1 hz2 rfl _ _ _ rfl (hown1.alloc _) 1 _ (Src.box Tryd.underlying39 _ _ _ rfl _) (by unfold maxLen; omega) (by omega) (by have := hbel.size; simp; omega) ?_; intro v2 w2 hown2 hbel2)
      go_roundg (gk / 128)
      case measure => omega
      case rel =>
        have hd := hdone.out
        rw [leb_more hu] at hd hlen
        rw [rcell_more u] at hown2
        refine ⟨u / 128, done ++ [UInt8.ofNat (u % 128 + 128)], by omega, by omega, by simp at hlen ⊢; omega, by go_num, ?_, ?_, hbel.trans (((Below.refl _ _).alloc hbel.size _).trans hbel2)⟩
        · show _ = _
          rw [← hd]; simp
        · rw [bvs_append, List.length_append]
          exact hown2

/-! ## Bytes -/
def encBytes (s : List UInt8) : List UInt8 := encInt s.length ++ s
set_option maxHeartbeats 400000 in
theorem bytes_any (s : ByteArray) (w : World) (hs : s.size ≤ 100000000000) : Calls Tryd.prog 44 #[.string s] w (Gives (encBytes s.data.toList) w) := by
  obtain ⟨i0, hi0, hz0, hz1, hz2⟩ := info_parts info_u8
  have hl : (encInt (s.size : Int)).length ≤ 10 := leb_le10 _ (zz_lt _ (by omega) (by omega))
  have hsz : s.data.toList.length = s.size := by simp
  go_enter Tryd.func44, Tryd.ntmps44
  go_wp2_with fail
  refine (int_any (s.size : Int) _ (by omega) (by omega)).mono ?_
  rintro e w' ⟨v, rfl, hown, hbel⟩
  go_wp2_with (at_builtin; refine wpList_append_src _ rfl (.tmp 5) (.tmp 6) _ _ rfl w.heap.size 5 i0 _ 1 1 Tryd.underlying39 hi0 hz0 hz1 hz2 rfl _ _ _ rfl hown s.size _ (Src.ofString _ Tryd.underlying9 s) (by unfold maxLen; omega) (by omega) hbel.size ?_; intro v2 w2 hown2 hbel2)
  go_ret
  refine ⟨v2, rfl, ?_, hbel.trans hbel2⟩
  rw [byteCells_bvs, ← bvs_append] at hown2
  have e : (encBytes s.data.toList).length = (encInt (s.size : Int)).length + s.size := by unfold encBytes; rw [List.length_append, hsz]
  rw [e]
  unfold encBytes
  rw [hsz]
  exact hown2

end Go.Proofs.YtpmkjnmddglckaaDoor
