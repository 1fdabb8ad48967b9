/-
  What wire.Int, wire.appendInt and the reference's Int return: contracts by walks.
-/
import Derived.Test.YtpmkjnmddglckaaDoorProg
import Derived.Test.YtpmkjnmddglckaaDoorWords
import Derived.Test.YtpmkjnmddglckaaDoorBits
import Derived.Test.YtpmkjnmddglckaaDoorMath
import Derived.WalkMore
import Derived.Deep.LoopGhost
namespace Go.Proofs.YtpmkjnmddglckaaDoor
open Go.RowKit

theorem info_u8 : (Tryd.prog.info? 5).map (fun i => (i.zero, i.size, i.bytes)) = some (some (.int .u8 0), 1, 1) := by kernel_rfl

theorem zig_neg (n : Int) (h1 : -9223372036854775808 ≤ n) (h : n < 0) : bits BinOp.or IntKind.u64 (IntKind.u64.wrap (IntKind.u64.wrap (bits BinOp.xor IntKind.i64 (-1) n) * 2)) 1 = ((zz n : Nat) : Int) := by
  obtain ⟨m, hm⟩ : ∃ m : Nat, -n - 1 = (m : Int) := ⟨(-n - 1).toNat, by omega⟩
  have hz : zz n = m * 2 + 1 := by unfold zz; rw [if_neg (by omega)]; omega
  rw [i64_not_any n h1 (by omega), hm, IntWalk.u64_in (m : Int) (by omega), IntWalk.u64_in ((m : Int) * 2) (by omega), hz]
  exact u64_or1 (m * 2) (by omega) (by omega)

set_option maxHeartbeats 400000 in
theorem zigzag_any (n : Int) (w : World) (h1 : -9223372036854775808 ≤ n) (h2 : n ≤ 9223372036854775807) :
    Calls Tryd.prog 60 #[.int .i64 n] w fun e w' => e = .returned (.int .u64 (zz n : Nat)) ∧ w = w' := by
  by_cases h : 0 ≤ n
  · have HZ : Hid (((zz n : Nat) : Int) = n * 2) := by show ((zz n : Nat) : Int) = n * 2; unfold zz; rw [if_pos h]; omega
    go_enter Tryd.func60, Tryd.ntmps60
    go_wp2
    go_ret
    exact ⟨by rw [HZ.out]; rfl, rfl⟩
  · have HZ := Lib.hid (zig_neg n h1 (by omega))
    go_enter Tryd.func60, Tryd.ntmps60
    go_wp2
    go_ret
    exact ⟨by rw [HZ.out]; rfl, rfl⟩

theorem cell_last (u : Nat) (h : u < 128) : Value.int IntKind.u8 (bits BinOp.and IntKind.u64 (u : Int) 127 % 256) = bv (UInt8.ofNat u) := by
  rw [u64_and127 u (by omega)]
  unfold bv
  congr 1
  simp
  omega
theorem cell_more (u : Nat) (h : u < 18446744073709551616) : Value.int IntKind.u8 (bits BinOp.or IntKind.u8 (bits BinOp.and IntKind.u64 (u : Int) 127 % 256) 128) = bv (UInt8.ofNat (u % 128 + 128)) := by
  rw [u64_and127 u (by omega), u8_or128_right _ (by omega) (by omega)]
  unfold bv
  congr 1
  simp
  omega

set_option maxHeartbeats 400000 in
theorem appendInt_any (base : Nat) (v : Value) (k : Nat) (xs : List Value) (n : Int) (w : World) (h1 : -9223372036854775808 ≤ n) (h2 : n ≤ 9223372036854775807)
    (hown : w.ownsRow base 5 1 v k xs) (hb : base ≤ w.heap.size) (hk : k ≤ 1000000000000) :
    Calls Tryd.prog 58 #[v, .int .i64 n] w fun e w' => ∃ v', e = .returned v' ∧ w'.ownsRow base 5 1 v' (k + (encInt n).length) (xs ++ bvs (encInt n)) ∧ Below base w w' := by
  obtain ⟨i0, hi0, hz0, hz1, hz2⟩ := info_parts info_u8
  have hz64 := zz_lt n h1 h2
  have h10 := leb_le10 (zz n) hz64
  go_enter Tryd.func58, Tryd.ntmps58
  go_wp2_with fail
  go_step3
  go_wp2_with fail
  refine (zigzag_any n _ h1 h2).mono ?_
  rintro e w' ⟨rfl, rfl⟩
  go_wp2_with fail
  go_step3
  go_wp2_with fail
  go_loopg [0, 5] (zz n) (fun g v' u wr => ∃ (u' : Nat) (done : List UInt8), u' ≤ g ∧ g ≤ 18446744073709551615 ∧ done.length + (leb u').length ≤ 10 ∧ u = .int .u64 u' ∧ Hid (done ++ leb u' = encInt n) ∧ wr.ownsRow base 5 1 v' (k + done.length) (xs ++ bvs done) ∧ Below base w wr)
  case atStart => exact ⟨zz n, [], Nat.le_refl _, by omega, by simpa using h10, rfl, rfl, by simpa [bvs] using hown, Below.refl _ _⟩
  case round =>
    obtain ⟨u, done, hug, hg64, hlen, rfl, hdone, hown1, hbel⟩ := hrel
    have hu64 : u ≤ 18446744073709551615 := by omega
    by_cases hu : u < 128
    · have hq : ((u : Int) / 128 == 0) = true := by simp; omega
      go_wp2_with (at_builtin; refine wpList_append_src _ rfl (.tmp 22) (.tmp 24) _ _ rfl base 5 i0 _ 1 1 Tryd.underlying39 hi0 hz0 hz1 hz2 rfl _ _ _ rfl (hown1.alloc _) 1 _ (Src.box Tryd.underlying39 _ _ _ rfl _) (by unfold maxLen; omega) (by omega) (by have := hbel.size; simp; omega) ?_; intro v2 w2 hown2 hbel2)
      rw [Exit.noGoto_ret]
      go_ret
      have hd := hdone.out
      rw [leb_small hu] at hd
      refine ⟨_, rfl, ?_, hbel.trans (((Below.refl _ _).alloc (Nat.le_trans hb hbel.size) _).trans hbel2)⟩
      rw [cell_last u hu] at hown2
      have e1 : xs ++ bvs (encInt n) = xs ++ bvs done ++ [bv (UInt8.ofNat u)] := by rw [← hd, bvs_append, List.append_assoc]; rfl
      have e2 : k + (encInt n).length = k + done.length + 1 := by rw [← hd, List.length_append]; rfl
      rw [e1, e2]
      exact hown2
    · have hq : ((u : Int) / 128 == 0) = false := by simp; omega
      go_wp2_with (at_builtin; refine wpList_append_src _ rfl (.tmp 15) (.tmp 18) _ _ rfl base 5 i0 _ 1 1 Tryd.underlying39 hi0 hz0 hz1 hz2 rfl _ _ _ rfl (hown1.alloc _) 1 _ (Src.box Tryd.underlying39 _ _ _ rfl _) (by unfold maxLen; omega) (by omega) (by have := hbel.size; simp; omega) ?_; intro v2 w2 hown2 hbel2)
      go_roundg (gk / 128)
      case measure => omega
      case rel =>
        have hd := hdone.out
        rw [leb_more hu] at hd hlen
        rw [cell_more u (by omega)] at hown2
        refine ⟨u / 128, done ++ [UInt8.ofNat (u % 128 + 128)], by omega, by omega, by simp at hlen ⊢; omega, by go_num, ?_, ?_, hbel.trans (((Below.refl _ _).alloc (Nat.le_trans hb hbel.size) _).trans hbel2)⟩
        · show _ = _
          rw [← hd]; simp
        · rw [bvs_append, ← List.append_assoc, List.length_append, ← Nat.add_assoc]
          exact hown2
end Go.Proofs.YtpmkjnmddglckaaDoor
