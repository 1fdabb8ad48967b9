/-
  What wire.Int, Bytes, Ints, Digests and the reference's functions of the same names return: contracts by walks.
-/
import Derived.Test.YtooiedomcdmefaaEnc
namespace Go.Proofs.Ytooiedomcdmefaa
open Go.RowKit

/-- A new slice that reads as the bytes l; nothing that was there has changed. -/
def Gives (l : List UInt8) (w : World) (e : Ending) (w' : World) : Prop :=
  ∃ v, e = .returned v ∧ w'.ownsRow w.heap.size 5 1 v l.length (bvs l) ∧ Below w.heap.size w w'

set_option maxHeartbeats 400000 in
theorem int_any (n : Int) (w : World) (h1 : -9223372036854775808 ≤ n) (h2 : n ≤ 9223372036854775807) : Calls Try.prog 13 #[.int .i64 n] w (Gives (encInt n) w) := by
  go_enter Try.func13, Try.ntmps13
  go_wp2_with fail
  refine (appendInt_any w.heap.size (.slice none 0 0) 0 [] n _ h1 h2 (World.ownsRow_nil _ _ _ _) (Nat.le_refl _) (by omega)).mono ?_
  rintro e w' ⟨v', rfl, hown, hbel⟩
  go_wp2_with fail
  go_ret
  exact ⟨v', rfl, by simpa using hown, hbel⟩

/-! ## The reference's Int -/
set_option maxHeartbeats 400000 in
theorem refZigzag_any (n : Int) (w : World) (h1 : -9223372036854775808 ≤ n) (h2 : n ≤ 9223372036854775807) :
    Calls Try.prog 33 #[.int .i64 n] w fun e w' => e = .returned (.int .u64 (zz n : Nat)) ∧ w = w' := by
  by_cases h : 0 ≤ n
  · have HZ : Hid (((zz n : Nat) : Int) = 2 * n) := by show ((zz n : Nat) : Int) = 2 * n; unfold zz; rw [if_pos h]; omega
    go_enter Try.func33, Try.ntmps33
    go_wp2
    go_ret
    exact ⟨by rw [HZ.out]; rfl, rfl⟩
  · have HZ : Hid (((zz n : Nat) : Int) = 2 * -(n + 1) + 1) := by show ((zz n : Nat) : Int) = 2 * -(n + 1) + 1; unfold zz; rw [if_neg h]; omega
    go_enter Try.func33, Try.ntmps33
    go_wp2
    go_ret
    exact ⟨by rw [HZ.out]; rfl, rfl⟩

theorem rcell_last (u : Nat) (h : u < 128) : Value.int IntKind.u8 (u : Int) = bv (UInt8.ofNat u) := by
  unfold bv
  congr 1
  simp
  omega
theorem rcell_more (u : Nat) : Value.int IntKind.u8 (128 + (u : Int) % 128) = bv (UInt8.ofNat (u % 128 + 128)) := by
  unfold bv
  congr 1
  simp
  omega

set_option maxRecDepth 100000 in
set_option maxHeartbeats 400000 in
theorem refInt_any (n : Int) (w : World) (h1 : -9223372036854775808 ≤ n) (h2 : n ≤ 9223372036854775807) : Calls Try.prog 14 #[.int .i64 n] w (Gives (encInt n) w) := by
  obtain ⟨i0, hi0, hz0, hz1, hz2⟩ := info_parts info_u8
  have hz64 := zz_lt n h1 h2
  have h10 := leb_le10 (zz n) hz64
  go_enter Try.func14, Try.ntmps14
  go_wp2_with fail
  refine (refZigzag_any n _ h1 h2).mono ?_
  rintro e w' ⟨rfl, rfl⟩
  go_wp2_with fail
  go_loopg [4, 3] (zz n) (fun g v' u wr => ∃ (u' : Nat) (done : List UInt8), u' ≤ g ∧ g ≤ 18446744073709551615 ∧ done.length + (leb u').length ≤ 10 ∧ u = .int .u64 u' ∧ Hid (done ++ leb u' = encInt n) ∧ wr.ownsRow w.heap.size 5 1 v' done.length (bvs done) ∧ Below w.heap.size w wr)
  case atStart => exact ⟨zz n, [], Nat.le_refl _, by omega, by simpa using h10, rfl, rfl, World.ownsRow_nil _ _ _ _, Below.refl _ _⟩
  case round =>
    obtain ⟨u, done, hug, hg64, hlen, rfl, hdone, hown1, hbel⟩ := hrel
    by_cases hu : u < 128
    · go_wp2_with (at_builtin; refine wpList_append_src _ rfl (.tmp 18) (.tmp 21) _ _ rfl w.heap.size 5 i0 _ 1 1 Try.underlying26 hi0 hz0 hz1 hz2 rfl _ _ _ rfl (hown1.alloc _) 1 _ (Src.box Try.underlying26 _ _ _ rfl _) (by unfold maxLen; omega) (by omega) (by have := hbel.size; simp; omega) ?_; intro v2 w2 hown2 hbel2)
      go_ret
      have hd := hdone.out
      rw [leb_small hu] at hd
      refine ⟨_, rfl, ?_, hbel.trans (((Below.refl _ _).alloc hbel.size _).trans hbel2)⟩
      rw [rcell_last u hu] at hown2
      have e1 : bvs (encInt n) = bvs done ++ [bv (UInt8.ofNat u)] := by rw [← hd, bvs_append]; rfl
      have e2 : (encInt n).length = done.length + 1 := by rw [← hd, List.length_append]; rfl
      rw [e1, e2]
      exact hown2
    · go_wp2_with (at_builtin; refine wpList_append_src _ rfl (.tmp 9) (.tmp 14) _ _ rfl w.heap.size 5 i0 _ 1 1 Try.underlying26 hi0 hz0 hz1 hz2 rfl _ _ _ rfl (hown1.alloc _) 1 _ (Src.box Try.underlying26 _ _ _ rfl _) (by unfold maxLen; omega) (by omega) (by have := hbel.size; simp; omega) ?_; intro v2 w2 hown2 hbel2)
      go_roundg (gk / 128)
      case measure => omega
      case rel =>
        have hd := hdone.out
        rw [leb_more hu] at hd hlen
        rw [rcell_more u] at hown2
        refine ⟨u / 128, done ++ [UInt8.ofNat (u % 128 + 128)], by omega, by omega, by simp at hlen ⊢; omega, by go_num, ?_, ?_, hbel.trans (((Below.refl _ _).alloc hbel.size _).trans hbel2)⟩
        · show _ = _
          rw [← hd]; simp
        · rw [bvs_append, List.length_append]
          exact hown2

/-! ## Bytes -/
def encBytes (s : List UInt8) : List UInt8 := encInt s.length ++ s
set_option maxHeartbeats 400000 in
theorem bytes_any (s : ByteArray) (w : World) (hs : s.size ≤ 100000000000) : Calls Try.prog 15 #[.string s] w (Gives (encBytes s.data.toList) w) := by
  obtain ⟨i0, hi0, hz0, hz1, hz2⟩ := info_parts info_u8
  have hl : (encInt (s.size : Int)).length ≤ 10 := leb_le10 _ (zz_lt _ (by omega) (by omega))
  have hsz : s.data.toList.length = s.size := by simp
  go_enter Try.func15, Try.ntmps15
  go_wp2_with fail
  refine (int_any (s.size : Int) _ (by omega) (by omega)).mono ?_
  rintro e w' ⟨v, rfl, hown, hbel⟩
  go_wp2_with (at_builtin; refine wpList_append_src _ rfl (.tmp 5) (.tmp 6) _ _ rfl w.heap.size 5 i0 _ 1 1 Try.underlying26 hi0 hz0 hz1 hz2 rfl _ _ _ rfl hown s.size _ (Src.ofString _ Try.underlying9 s) (by unfold maxLen; omega) (by omega) hbel.size ?_; intro v2 w2 hown2 hbel2)
  go_ret
  refine ⟨v2, rfl, ?_, hbel.trans hbel2⟩
  rw [byteCells_bvs, ← bvs_append] at hown2
  have e : (encBytes s.data.toList).length = (encInt (s.size : Int)).length + s.size := by unfold encBytes; rw [List.length_append, hsz]
  rw [e]
  unfold encBytes
  rw [hsz]
  exact hown2

/-! ## Ints -/
def ivs (l : List Int) : List Value := l.map (Value.int .i64)
theorem ivs_length (l : List Int) : (ivs l).length = l.length := List.length_map _
theorem ivs_one (l : List Int) : ∀ u ∈ ivs l, u.oneCell' = true := ints_oneCell _ _
def I64 (n : Int) : Prop := -9223372036854775808 ≤ n ∧ n ≤ 9223372036854775807
def encAll (l : List Int) : List UInt8 := l.flatMap encInt
def encInts (l : List Int) : List UInt8 := encInt l.length ++ encAll l
theorem encAll_len (l : List Int) (h : ∀ x ∈ l, I64 x) : (encAll l).length ≤ 10 * l.length := by
  induction l with
  | nil => simp [encAll]
  | cons x t ih =>
    have h1 := leb_le10 (zz x) (zz_lt x (h x (by simp)).1 (h x (by simp)).2)
    have h2 := ih fun y hy => h y (by simp [hy])
    unfold encAll at h2 ⊢
    rw [List.flatMap_cons, List.length_append, List.length_cons]
    unfold encInt at *
    omega
theorem encAll_snoc (l : List Int) (k : Nat) (x : Int) (h : l[k]? = some x) : encAll (l.take (k + 1)) = encAll (l.take k) ++ encInt x := by
  rw [List.take_add_one, h]
  unfold encAll
  simp
theorem Reads.int_at {w : World} {B n : Nat} {A : Option Addr} {l : List Int} (h : Reads w B 1 A n (ivs l)) {k : Nat} (hk : k < n) :
    ∃ ad x, A = some ad ∧ ad.block < B ∧ l[k]? = some x ∧ w.cell? (ad.add k) = some (.int .i64 x) := by
  obtain ⟨ad, u, hA, hb, hx, hc⟩ := h.at_ hk
  unfold ivs at hx
  rw [List.getElem?_map, Option.map_eq_some_iff] at hx
  obtain ⟨x, hx, rfl⟩ := hx
  exact ⟨ad, x, hA, hb, hx, hc⟩

set_option maxRecDepth 100000 in
set_option maxHeartbeats 400000 in
theorem ints_any (A : Option Addr) (c : Nat) (l : List Int) (n : Nat) (hn : l.length = n) (w : World) (hl : ∀ x ∈ l, I64 x) (hr : Reads w w.heap.size 1 A n (ivs l)) (hs : n ≤ 1000000000) :
    Calls Try.prog 17 #[.slice A n c] w (Gives (encInts l) w) := by
  have HN := Lib.hid hn
  clear hn
  have HL := Lib.hid hl
  clear hl
  go_enter Try.func17, Try.ntmps17
  go_wp2_with fail
  refine (int_any (n : Int) _ (by omega) (by omega)).mono ?_
  rintro e w' ⟨v, rfl, hown, hbel⟩
  go_wp2_with fail
  have hl0 : (encInt (n : Int)).length ≤ 10 := leb_le10 _ (zz_lt _ (by omega) (by omega))
  go_loopg [3, 11] n (fun g v' i wr => ∃ k : Nat, Hid (k + g = n) ∧ k ≤ n ∧ i = .int .i64 k ∧ wr.ownsRow w.heap.size 5 1 v' (encInt (n : Int) ++ encAll (l.take k)).length (bvs (encInt (n : Int) ++ encAll (l.take k))) ∧ Below w.heap.size w wr)
  case atStart => exact ⟨0, by show _ = _; omega, by omega, rfl, by simpa [encAll] using hown, hbel⟩
  case round =>
    obtain ⟨k, HK, hk, rfl, hown1, hbel1⟩ := hrel
    by_cases hlt : k < n
    · obtain ⟨ad, x, rfl, hab, hx, hc⟩ := (hr.below hbel1).int_at hlt
      have hx64 : I64 x := HL.out x (List.mem_of_getElem? hx)
      have hlen : (encAll (l.take k)).length ≤ 10 * k := Nat.le_trans (encAll_len _ fun y hy => HL.out y (List.mem_of_mem_take hy)) (by have := List.length_take_le k l; omega)
      have HX := Lib.hid hx
      clear hx
      go_wp2_with fail
      refine (appendInt_any w.heap.size _ _ _ x _ hx64.1 hx64.2 hown1 hbel1.size (by rw [List.length_append]; omega)).mono ?_
      rintro e w' ⟨v', rfl, hown2, hbel2⟩
      go_wp2_with fail
      go_roundg (gk - 1)
      case measure => have := HK.out; omega
      case rel =>
        have hs := encAll_snoc l k x HX.out
        refine ⟨k + 1, ?_, by omega, by go_num, ?_, hbel1.trans hbel2⟩
        · have := HK.out; show _ = _; omega
        · rw [hs, ← List.append_assoc, bvs_append, List.length_append]
          exact hown2
    · have hkn : k = n := by omega
      have HKN := Lib.hid hkn
      clear hkn
      go_wp2_with fail
      go_ret
      refine ⟨_, rfl, ?_, hbel1⟩
      have e : encInts l = encInt (n : Int) ++ encAll (l.take k) := by unfold encInts; rw [HKN.out, List.take_of_length_le (by rw [HN.out]; exact Nat.le_refl _), HN.out]
      rw [e]
      exact hown1
end Go.Proofs.Ytooiedomcdmefaa
