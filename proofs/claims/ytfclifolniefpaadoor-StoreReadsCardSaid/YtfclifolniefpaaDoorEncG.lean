/-
  What wire.Int, wire.appendInt and the reference's Int return: contracts by walks.
-/
import Derived.Test.YtfclifolniefpaaDoorProg
import Derived.Test.YtfclifolniefpaaDoorBase
import Derived.WalkMore
import Derived.Deep.LoopGhost
import Derived.Lib.AppendZeros
namespace Go.Proofs.YtfclifolniefpaaDoor
open Go.RowKit

theorem info_u8 : (Tryd.prog.info? 5).map (fun i => (i.zero, i.size, i.bytes)) = some (some (.int .u8 0), 1, 1) := by kernel_rfl

theorem zig_neg (n : Int) (h1 : -9223372036854775808 ≤ n) (h : n < 0) : bits BinOp.or IntKind.u64 (IntKind.u64.wrap (IntKind.u64.wrap (bits BinOp.xor IntKind.i64 (-1) n) * 2)) 1 = ((zz n : Nat) : Int) := by
  obtain ⟨m, hm⟩ : ∃ m : Nat, -n - 1 = (m : Int) := ⟨(-n - 1).toNat, by omega⟩
  have hz : zz n = m * 2 + 1 := by unfold zz; rw [if_neg (by omega)]; omega
  rw [i64_not_any n h1 (by omega), hm, IntWalk.u64_in (m : Int) (by omega), IntWalk.u64_in ((m : Int) * 2) (by omega), hz]
  exact u64_or1 (m * 2) (by omega) (by omega)

set_option maxHeartbeats 400000 in
theorem zigzag_any (n : Int) (w : World) (h1 : -9223372036854775808 ≤ n) (h2 : n ≤ 9223372036854775807) :
    Calls Tryd.prog 81 #[.int .i64 n] w fun e w' => e = .returned (.int .u64 (zz n : Nat)) ∧ w = w' := by
  by_cases h : 0 ≤ n
  · have HZ : Hid (((zz n : Nat) : Int) = n * 2) := by show ((zz n : Nat) : Int) = n * 2; unfold zz; rw [if_pos h]; omega
    go_enter Tryd.func81, Tryd.ntmps81
    go_wp2
    go_ret
    exact ⟨by rw [HZ.out]; rfl, rfl⟩
  · have HZ := Lib.hid (zig_neg n h1 (by omega))
    go_enter Tryd.func81, Tryd.ntmps81
    go_wp2
    go_ret
    exact ⟨by rw [HZ.out]; rfl, rfl⟩

theorem cell_last (u : Nat) (h : u < 128) : Value.int IntKind.u8 (bits BinOp.and IntKind.u64 (u : Int) 127 % 256) = bv (UInt8.ofNat u) := by
  rw [u64_and127 u (by omega)]
  unfold bv
  congr 1
  simp
  omega
theorem cell_more (u : Nat) (h : u < 18446744073709551616) : Value.int IntKind.u8 (bits BinOp.or IntKind.u8 (bits BinOp.and IntKind.u64 (u : Int) 127 % 256) 128) = bv (UInt8.ofNat (u % 128 + 128)) := by
  rw [u64_and127 u (by omega), u8_or128_right _ (by omega) (by omega)]
  unfold bv
  congr 1
  simp
  omega

set_option maxHeartbeats 400000 in
theorem appendInt_any (base : Nat) (v : Value) (k : Nat) (xs : List Value) (n : Int) (w : World) (h1 : -9223372036854775808 ≤ n) (h2 : n ≤ 9223372036854775807)
    (hown : w.ownsRow base 5 1 v k xs) (hb : base ≤ w.heap.size) (hk : k ≤ 1000000000000) :
    Calls Tryd.prog 74 #[v, .int .i64 n] w fun e w' => ∃ v', e = .returned v' ∧ w'.ownsRow base 5 1 v' (k + (encInt n).length) (xs ++ bvs (encInt n)) ∧ Below base w w' := by
  obtain ⟨i0, hi0, hz0, hz1, hz2⟩ := info_parts info_u8
  have hz64 := zz_lt n h1 h2
  have h10 := leb_le10 (zz n) hz64
  go_enter Tryd.func74, Tryd.ntmps74
  go_wp2_with fail
  go_step3
  go_wp2_with fail
  refine (zigzag_any n _ h1 h2).mono ?_
  rintro e w' ⟨rfl, rfl⟩
  go_wp2_with fail
  go_step3
  go_wp2_with fail
  go_loopg [0, 5] (zz n) (fun g v' u wr => ∃ (u' : Nat) (done : List UInt8), u' ≤ g ∧ g ≤ 18446744073709551615 ∧ done.length + (leb u').length ≤ 10 ∧ u = .int .u64 u' ∧ Hid (done ++ leb u' = encInt n) ∧ wr.ownsRow base 5 1 v' (k + done.length) (xs ++ bvs done) ∧ Below base w wr)
  case atStart => exact ⟨zz n, [], Nat.le_refl _, by omega, by simpa using h10, rfl, rfl, by simpa [bvs] using hown, Below.refl _ _⟩
  case round =>
    obtain ⟨u, done, hug, hg64, hlen, rfl, hdone, hown1, hbel⟩ := hrel
    have hu64 : u ≤ 18446744073709551615 := by omega
    by_cases hu : u < 128
    · have hq : ((u : Int) / 128 == 0) = true := by simp; omega
      go_wp2_with (at_builtin; refine wpList_append_src _ rfl (.tmp 22) (.tmp 24) _ _ rfl base 5 i0 _ 1 1 Tryd.underlying42 hi0 hz0 hz1 hz2 rfl _ _ _ rfl (hown1.alloc _) 1 _ (Src.box Tryd.underlying42 _ _ _ rfl _) (by unfold maxLen; omega) (by omega) (by have := hbel.size; simp; omega) ?_; intro v2 w2 hown2 hbel2)
      rw [Exit.noGoto_ret]
      go_ret
      have hd := hdone.out
      rw [leb_small hu] at hd
      refine ⟨_, rfl, ?_, hbel.trans (((Below.refl _ _).alloc (Nat.le_trans hb hbel.size) _).trans hbel2)⟩
      rw [cell_last u hu] at hown2
      have e1 : xs ++ bvs (encInt n) = xs ++ bvs done ++ [bv (UInt8.ofNat u)] := by rw [← hd, bvs_append, List.append_assoc]; rfl
      have e2 : k + (encInt n).length = k + done.length + 1 := by rw [← hd, List.length_append]; rfl
      rw [e1, e2]
      exact hown2
    · have hq : ((u : Int) / 128 == 0) = false := by simp; omega
      go_wp2_with (at_builtin; refine wpList_append_src _ rfl (.tmp 15) (.tmp 18) _ _ rfl base 5 i0 _ 1 1 Tryd.underlying42 hi0 hz0 hz1 hz2 rfl _ _ _ rfl (hown1.alloc _) 1 _ (Src.box Tryd.underlying42 _ _ _ rfl _) (by unfold maxLen; omega) (by omega) (by have := hbel.size; simp; omega) ?_; intro v2 w2 hown2 hbel2)
      go_roundg (gk / 128)
      case measure => omega
      case rel =>
        have hd := hdone.out
        rw [leb_more hu] at hd hlen
        rw [cell_more u (by omega)] at hown2
        refine ⟨u / 128, done ++ [UInt8.ofNat (u % 128 + 128)], by omega, by omega, by simp at hlen ⊢; omega, by go_num, ?_, ?_, hbel.trans (((Below.refl _ _).alloc (Nat.le_trans hb hbel.size) _).trans hbel2)⟩
        · show _ = _
          rw [← hd]; simp
        · rw [bvs_append, ← List.append_assoc, List.length_append, ← Nat.add_assoc]
          exact hown2
end Go.Proofs.YtfclifolniefpaaDoor

/-
  What wire.Int, wire.Bytes and the reference's Int return: contracts by walks.
-/
namespace Go.Proofs.YtfclifolniefpaaDoor
open Go.RowKit

/-- A new slice that reads as the bytes l; nothing that was there has changed. -/
def Gives (l : List UInt8) (w : World) (e : Ending) (w' : World) : Prop :=
  ∃ v, e = .returned v ∧ w'.ownsRow w.heap.size 5 1 v l.length (bvs l) ∧ Below w.heap.size w w'

set_option maxHeartbeats 400000 in
theorem int_any (n : Int) (w : World) (h1 : -9223372036854775808 ≤ n) (h2 : n ≤ 9223372036854775807) : Calls Tryd.prog 62 #[.int .i64 n] w (Gives (encInt n) w) := by
  go_enter Tryd.func62, Tryd.ntmps62
  go_wp2_with fail
  refine (appendInt_any w.heap.size (.slice none 0 0) 0 [] n _ h1 h2 (World.ownsRow_nil _ _ _ _) (Nat.le_refl _) (by omega)).mono ?_
  rintro e w' ⟨v', rfl, hown, hbel⟩
  go_wp2_with fail
  go_ret
  exact ⟨v', rfl, by simpa using hown, hbel⟩

/-! ## The reference's Int -/
set_option maxHeartbeats 400000 in
theorem refZigzag_any (n : Int) (w : World) (h1 : -9223372036854775808 ≤ n) (h2 : n ≤ 9223372036854775807) :
    Calls Tryd.prog 51 #[.int .i64 n] w fun e w' => e = .returned (.int .u64 (zz n : Nat)) ∧ w = w' := by
  by_cases h : 0 ≤ n
  · have HZ : Hid (((zz n : Nat) : Int) = 2 * n) := by show ((zz n : Nat) : Int) = 2 * n; unfold zz; rw [if_pos h]; omega
    go_enter Tryd.func51, Tryd.ntmps51
    go_wp2
    go_ret
    exact ⟨by rw [HZ.out]; rfl, rfl⟩
  · have HZ : Hid (((zz n : Nat) : Int) = 2 * -(n + 1) + 1) := by show ((zz n : Nat) : Int) = 2 * -(n + 1) + 1; unfold zz; rw [if_neg h]; omega
    go_enter Tryd.func51, Tryd.ntmps51
    go_wp2
    go_ret
    exact ⟨by rw [HZ.out]; rfl, rfl⟩

theorem rcell_last (u : Nat) (h : u < 128) : Value.int IntKind.u8 (u : Int) = bv (UInt8.ofNat u) := by
  unfold bv
  congr 1
  simp
  omega
theorem rcell_more (u : Nat) : Value.int IntKind.u8 (128 + (u : Int) % 128) = bv (UInt8.ofNat (u % 128 + 128)) := by
  unfold bv
  congr 1
  simp
  omega

set_option maxRecDepth 100000 in
set_option maxHeartbeats 400000 in
theorem refInt_any (n : Int) (w : World) (h1 : -9223372036854775808 ≤ n) (h2 : n ≤ 9223372036854775807) : Calls Tryd.prog 34 #[.int .i64 n] w (Gives (encInt n) w) := by
  obtain ⟨i0, hi0, hz0, hz1, hz2⟩ := info_parts info_u8
  have hz64 := zz_lt n h1 h2
  have h10 := leb_le10 (zz n) hz64
  go_enter Tryd.func34, Tryd.ntmps34
  go_wp2_with fail
  refine (refZigzag_any n _ h1 h2).mono ?_
  rintro e w' ⟨rfl, rfl⟩
  go_wp2_with fail
  go_loopg [4, 3] (zz n) (fun g v' u wr => ∃ (u' : Nat) (done : List UInt8), u' ≤ g ∧ g ≤ 18446744073709551615 ∧ done.length + (leb u').length ≤ 10 ∧ u = .int .u64 u' ∧ Hid (done ++ leb u' = encInt n) ∧ wr.ownsRow w.heap.size 5 1 v' done.length (bvs done) ∧ Below w.heap.size w wr)
  case atStart => exact ⟨zz n, [], Nat.le_refl _, by omega, by simpa using h10, rfl, rfl, World.ownsRow_nil _ _ _ _, Below.refl _ _⟩
  case round =>
    obtain ⟨u, done, hug, hg64, hlen, rfl, hdone, hown1, hbel⟩ := hrel
    by_cases hu : u < 128
    · go_wp2_with (at_builtin; refine wpList_append_src _ rfl (.tmp 18) (.tmp 21) _ _ rfl w.heap.size 5 i0 _ 1 1 Tryd.underlying42 hi0 hz0 hz1 hz2 rfl _ _ _ rfl (hown1.alloc _) 1 _ (Src.box Tryd.underlying42 _ _ _ rfl _) (by unfold maxLen; omega) (by omega) (by have := hbel.size; simp; omega) ?_; intro v2 w2 hown2 hbel2)
      go_ret
      have hd := hdone.out
      rw [leb_small hu] at hd
      refine ⟨_, rfl, ?_, hbel.trans (((Below.refl _ _).alloc hbel.size _).trans hbel2)⟩
      rw [rcell_last u hu] at hown2
      have e1 : bvs (encInt n) = bvs done ++ [bv (UInt8.ofNat u)] := by rw [← hd, bvs_append]; rfl
      have e2 : (encInt n).length = done.length + 1 := by rw [← hd, List.length_append]; rfl
      rw [e1, e2]
      exact hown2
    · go_wp2_with (at_builtin; refine wpList_append_src _ rfl (.tmp 9) (.tmp 14) _ _ rfl w.heap.size 5 i0 _ 1 1 Tryd.underlying42 hi0 hz0 hz1 hz2 rfl _ _ _ rfl (hown1.alloc _) 1 _ (Src.box Tryd.underlying42 _ _ _ rfl _) (by unfold maxLen; omega) (by omega) (by have := hbel.size; simp; omega) ?_; intro v2 w2 hown2 hbel2)
      go_roundg (gk / 128)
      case measure => omega
      case rel =>
        have hd := hdone.out
        rw [leb_more hu] at hd hlen
        rw [rcell_more u] at hown2
        refine ⟨u / 128, done ++ [UInt8.ofNat (u % 128 + 128)], by omega, by omega, by simp at hlen ⊢; omega, by go_num, ?_, ?_, hbel.trans (((Below.refl _ _).alloc hbel.size _).trans hbel2)⟩
        · show _ = _
          rw [← hd]; simp
        · rw [bvs_append, List.length_append]
          exact hown2

/-! ## Bytes -/
def encBytes (s : List UInt8) : List UInt8 := encInt s.length ++ s
set_option maxHeartbeats 400000 in
theorem bytes_any (s : ByteArray) (w : World) (hs : s.size ≤ 100000000000) : Calls Tryd.prog 63 #[.string s] w (Gives (encBytes s.data.toList) w) := by
  obtain ⟨i0, hi0, hz0, hz1, hz2⟩ := info_parts info_u8
  have hl : (encInt (s.size : Int)).length ≤ 10 := leb_le10 _ (zz_lt _ (by omega) (by omega))
  have hsz : s.data.toList.length = s.size := by simp
  go_enter Tryd.func63, Tryd.ntmps63
  go_wp2_with fail
  refine (int_any (s.size : Int) _ (by omega) (by omega)).mono ?_
  rintro e w' ⟨v, rfl, hown, hbel⟩
  go_wp2_with (at_builtin; refine wpList_append_src _ rfl (.tmp 5) (.tmp 6) _ _ rfl w.heap.size 5 i0 _ 1 1 Tryd.underlying42 hi0 hz0 hz1 hz2 rfl _ _ _ rfl hown s.size _ (Src.ofString _ Tryd.underlying9 s) (by unfold maxLen; omega) (by omega) hbel.size ?_; intro v2 w2 hown2 hbel2)
  go_ret
  refine ⟨v2, rfl, ?_, hbel.trans hbel2⟩
  rw [byteCells_bvs, ← bvs_append] at hown2
  have e : (encBytes s.data.toList).length = (encInt (s.size : Int)).length + s.size := by unfold encBytes; rw [List.length_append, hsz]
  rw [e]
  unfold encBytes
  rw [hsz]
  exact hown2

end Go.Proofs.YtfclifolniefpaaDoor

/-
  What the reference's Bytes returns: a contract by a walk.
-/
namespace Go.Proofs.YtfclifolniefpaaDoor
open Go.RowKit

set_option maxRecDepth 100000 in
set_option maxHeartbeats 1000000 in
theorem refBytes_any (s : ByteArray) (w : World) (hs : s.size ≤ 100000000000) : Calls Tryd.prog 35 #[.string s] w (Gives (encBytes s.data.toList) w) := by
  obtain ⟨i0, hi0, hz0, hz1, hz2⟩ := info_parts info_u8
  have hl : (encInt (s.size : Int)).length ≤ 10 := leb_le10 _ (zz_lt _ (by omega) (by omega))
  have hsz : s.data.toList.length = s.size := by simp
  have HSZ := Lib.hid hsz
  clear hsz
  go_enter Tryd.func35, Tryd.ntmps35
  go_wp2_with fail
  refine (refInt_any (s.size : Int) _ (by omega) (by omega)).mono ?_
  rintro e w1 ⟨v, rfl, hown, hbel⟩
  obtain ⟨A, c, w2, hrun, hc, hr2, hbel2⟩ : ∃ A c w2, (∀ (ρ : Operand → Value) (o : Oper), o.op = .convert 9 42 (.tmp 6) → ρ (.tmp 6) = .string s → (execOp ρ o).run Tryd.prog w1 = .ok (.value (.slice A s.size c)) w2) ∧ s.size ≤ c ∧ Reads w2 w2.heap.size 1 A s.size (bvs s.data.toList) ∧ Below w1.heap.size w1 w2 := by
    obtain ⟨A, c, w2, h1, h2, h3, h4⟩ := exec_bytes_of (P := Tryd.prog) (ρ := fun _ => .string s) (o := ⟨none, .convert 9 42 (.tmp 6), 0, "", #[], none⟩) w1 _ _ _ _ rfl Tryd.underlying9 Tryd.underlying5 Tryd.underlying42 (s := s) rfl
    refine ⟨A, c, w2, fun ρ o ho hx => ?_, h2, h3, h4⟩
    unfold execOp at h1 ⊢
    simp only [ho, hx]
    exact h1
  have HRUN := Lib.hid hrun
  clear hrun
  have hb2 : Below w.heap.size w w2 := hbel.trans (hbel2.mono hbel.size)
  have hown2 := own_below hown hbel2
  go_wp2_with (first
    | (refine wpList_valueW (o := ⟨some 7, _, _, _, _, _⟩) rfl _ (by exact HRUN.out _ _ rfl rfl) ?_)
    | (at_builtin; refine wpList_append_src _ rfl (.tmp 5) (.tmp 7) _ _ rfl w.heap.size 5 i0 _ 1 1 Tryd.underlying42 hi0 hz0 hz1 hz2 rfl _ _ _ rfl hown2 s.size _ (Src.ofReads _ Tryd.underlying42 hr2 (bvs_one _)) (by unfold maxLen; omega) (by omega) hb2.size ?_; intro v2 w3 hown3 hbel3))
  go_ret
  refine ⟨v2, rfl, ?_, hb2.trans hbel3⟩
  rw [← bvs_append] at hown3
  have e : (encBytes s.data.toList).length = (encInt (s.size : Int)).length + s.size := by unfold encBytes; rw [List.length_append, HSZ.out]
  rw [e]
  unfold encBytes
  rw [HSZ.out]
  exact hown3

end Go.Proofs.YtfclifolniefpaaDoor

/-
  What slices.Grow and slices.Concat at []byte return: contracts by walks. Conditions: bounded lengths.
-/
namespace Go.Proofs.YtfclifolniefpaaDoor
open Go.RowKit

set_option maxRecDepth 100000 in
set_option maxHeartbeats 1000000 in
theorem growNil_any (n : Nat) (hn : n ≤ 1000000000) (w : World) :
    Calls Tryd.prog 73 #[.slice none 0 0, .int .i64 (n : Int)] w fun e w' => ∃ v, e = .returned v ∧ w'.ownsRow w.heap.size 5 1 v 0 [] ∧ Below w.heap.size w w' := by
  obtain ⟨i0, hi0, hz0, hz1, hz2⟩ := info_parts info_u8
  by_cases h0 : 0 < n
  · have hrun := Lib.run_append_nil_zeros (P := Tryd.prog) w 42 3 42 5 i0 (.int .u8 0) .i64 .i64 Tryd.underlying42 Tryd.underlying3 hi0 hz0 n h0 (by rw [hz1]; omega) (by omega) (by rw [hz2]; omega)
    have HR := Lib.hid hrun
    clear hrun
    have hgc := grownCap_ge w n 0 5
    have hgm := grownCap_le_maxLen w n 0 5 (by unfold maxLen; omega)
    generalize grownCap w n 0 5 = gc at *
    have hown : (w.drew.alloc (.cells (Builtin.zeroCells (Value.int .u8 0).cells n ++ Builtin.zeroCells (Value.int .u8 0).cells (gc - n)) 5)).ownsRow w.heap.size 5 1 (.slice (some ⟨w.heap.size, 0, none⟩) 0 gc) 0 [] := by
      refine ⟨rfl, .inr ⟨w.heap.size, gc, _, rfl, Nat.le_refl _, Go.heap_alloc_new w.drew _, Nat.zero_le _, hgm, ?_, by simp⟩⟩
      simp [Builtin.zeroCells, Value.cells]
      omega
    have hbel : Below w.heap.size w (w.drew.alloc (.cells (Builtin.zeroCells (Value.int .u8 0).cells n ++ Builtin.zeroCells (Value.int .u8 0).cells (gc - n)) 5)) := ((Below.refl _ _).drew).alloc (Nat.le_refl _) _
    obtain ⟨wz, hwz⟩ : ∃ wz, wz = w.drew.alloc (.cells (Builtin.zeroCells (Value.int .u8 0).cells n ++ Builtin.zeroCells (Value.int .u8 0).cells (gc - n)) 5) := ⟨_, rfl⟩
    rw [← hwz] at hown hbel
    have HWZ := Lib.hid hwz
    clear hwz
    go_enter Tryd.func73, Tryd.ntmps73
    go_wp2_with (at_builtin; refine Lib.wpList_append_run _ rfl (.tmp 20) (.tmp 21) _ _ rfl _ _ rfl rfl _ wz (by rw [HWZ.out]; exact HR.out) ?_)
    go_ret
    exact ⟨_, rfl, hown, hbel⟩
  · obtain rfl : n = 0 := by omega
    go_enter Tryd.func73, Tryd.ntmps73
    go_wp2_with fail
    go_ret
    exact ⟨_, rfl, World.ownsRow_nil _ _ _ _, Below.refl _ _⟩

set_option maxRecDepth 100000 in
set_option maxHeartbeats 2000000 in
theorem concat_any (A : Option Addr) (c : Nat) (ps : List Part) (n : Nat) (w : World) (hr : ReadsP w w.heap.size A n ps) (hn : n ≤ 1000) (hp : ∀ p ∈ ps, p.n ≤ 100000) :
    Calls Tryd.prog 61 #[.slice A n c] w (Gives (allBytes ps) w) := by
  obtain ⟨i0, hi0, hz0, hz1, hz2⟩ := info_parts info_u8
  have HLN := Lib.hid hr.len
  have hbd : ∀ k, k ≤ n → (allBytes (ps.take k)).length ≤ 100000 * k := by
    intro k
    induction k with
    | zero => intro _; simp [allBytes]
    | succ k ih =>
      intro hk
      obtain ⟨ad, p, _, _, hpk, _, hrp, _⟩ := hr.at_ (k := k) (by omega)
      rw [allBytes_succ ps k p hpk, List.length_append]
      have h1 := ih (by omega)
      have h2 := hp p (List.mem_of_getElem? hpk)
      have h3 := hrp.bytes_len
      omega
  have HBD := Lib.hid hbd
  have HPN := Lib.hid hp
  clear hbd hp
  go_enter Tryd.func61, Tryd.ntmps61
  go_wp2_with fail
  go_loopg [3, 5, 11] n (fun g s3 s5 s11 wr => ∃ k : Nat, Hid (k + g = n) ∧ k ≤ n ∧ s11 = .int .i64 (k : Int) ∧ s3 = .int .i64 ((allBytes (ps.take k)).length : Int) ∧ w = wr)
  case atStart => exact ⟨0, by show _ = _; omega, by omega, rfl, rfl, rfl⟩
  case round =>
    obtain ⟨k, HK, hk, rfl, rfl, rfl⟩ := hrel
    have hb := HBD.out k hk
    by_cases hlt : k < n
    · obtain ⟨ad, p, rfl, _, hpk, hc, hrp, _⟩ := hr.at_ hlt
      have HP := Lib.hid (allBytes_succ ps k p hpk)
      have hpn := HPN.out p (List.mem_of_getElem? hpk)
      have HPL := Lib.hid hrp.bytes_len
      clear hpk
      obtain ⟨m, hm⟩ : ∃ m, m = (allBytes (ps.take k)).length := ⟨_, rfl⟩
      rw [← hm] at hb ⊢
      have HM := Lib.hid hm
      clear hm
      go_wp2_with fail
      go_roundg (gk - 1)
      case measure => have := HK.out; omega
      case rel => exact ⟨k + 1, by have := HK.out; show _ = _; omega, by omega, by go_num, by rw [HP.out, List.length_append, HPL.out, ← HM.out]; go_num, rfl⟩
    · have hkn : k = n := by omega
      have HALL : Hid (allBytes (ps.take n) = allBytes ps) := by show _ = _; rw [List.take_of_length_le (by rw [HLN.out]; exact Nat.le_refl _)]
      have hlen0 : (allBytes (ps.take k)).length = (allBytes ps).length := by rw [hkn, HALL.out]
      rw [hlen0] at hb ⊢
      have HKN := Lib.hid hkn
      have htot : (allBytes ps).length ≤ 100000000 := by omega
      clear hkn hlen0 hb HK
      obtain ⟨g0, rfl⟩ : ∃ g0 : Nat, g0 = gk := ⟨_, rfl⟩
      go_wp2_with fail
      refine (growNil_any _ (by omega) _).mono ?_
      rintro e w1 ⟨v1, rfl, hown1, hb1⟩
      have hr1 := hr.below hb1
      go_wp2_with fail
      go_loopg [6, 8, 27] n (fun g s6 s8 s27 wr => ∃ k : Nat, Hid (k + g = n) ∧ k ≤ n ∧ s27 = .int .i64 (k : Int) ∧ wr.ownsRow w.heap.size 5 1 s6 (allBytes (ps.take k)).length (bvs (allBytes (ps.take k))) ∧ Below w.heap.size w wr)
      case atStart => exact ⟨0, by show _ = _; omega, by omega, rfl, hown1, hb1⟩
      case round =>
        obtain ⟨k, HK, hk, rfl, hown, hbel⟩ := hrel
        have hb := HBD.out k hk
        by_cases hlt : k < n
        · obtain ⟨ad, p, rfl, _, hpk, hc, hrp, _⟩ := (hr.below hbel).at_ hlt
          have HP := Lib.hid (allBytes_succ ps k p hpk)
          have hpn := HPN.out p (List.mem_of_getElem? hpk)
          have HPL := Lib.hid hrp.bytes_len
          clear hpk
          go_wp2_with (at_builtin; refine wpList_append_src _ rfl (.tmp 31) (.tmp 32) _ _ rfl w.heap.size 5 i0 _ 1 1 Tryd.underlying42 hi0 hz0 hz1 hz2 rfl _ _ _ rfl hown p.n _ (Src.ofReads _ Tryd.underlying42 hrp (bvs_one _)) (by unfold maxLen; omega) (by omega) hbel.size ?_; intro v3 w3 hown3 hb3)
          go_roundg (gk - 1)
          case measure => have := HK.out; omega
          case rel =>
            refine ⟨k + 1, by have := HK.out; show _ = _; omega, by omega, by go_num, ?_, hbel.trans hb3⟩
            rw [HP.out, bvs_append, List.length_append, HPL.out]
            exact hown3
        · have HKN2 : Hid (k = n) := by show _ = _; omega
          go_wp2_with fail
          go_ret
          refine ⟨_, rfl, ?_, hbel⟩
          rw [HKN2.out, HALL.out] at hown
          exact hown
end Go.Proofs.YtfclifolniefpaaDoor
