/-
  What flash.exists, flash.Read, flash.malformed, flash.Valid and flash.Same return, and slices.IndexFunc, ContainsFunc and Equal at sectors: contracts by walks. No condition but bounded lengths.
-/
import Derived.Test.YtkepmhkakkkliaaProg
import Derived.Test.YtkepmhkakkkliaaFlM
import Derived.Test.YtkepmhkakkkliaaBase
import Derived.Deep.LoopGhost
namespace Go.Proofs.Ytkepmhkakkkliaa
open Go.RowKit

/-- Sectors as cells. -/
def svs (l : List ByteArray) : List Value := l.map .string
theorem svs_len (l : List ByteArray) : (svs l).length = l.length := List.length_map _
theorem svs_get {l : List ByteArray} {i : Nat} {s : ByteArray} (h : l[i]? = some s) : (svs l)[i]? = some (.string s) := by unfold svs; rw [List.getElem?_map, h]; rfl
theorem svs_one (l : List ByteArray) : ∀ u ∈ svs l, u.oneCell' = true := by
  intro u hu
  obtain ⟨s, _, rfl⟩ := List.mem_map.1 hu
  rfl
theorem Reads.str_len {w : World} {B n : Nat} {A : Option Addr} {l : List ByteArray} (h : Reads w B 1 A n (svs l)) : l.length = n := by
  have := h.1; rw [svs_len] at this; omega
theorem Reads.str_at {w : World} {B n : Nat} {A : Option Addr} {l : List ByteArray} (h : Reads w B 1 A n (svs l)) {i : Nat} (hi : i < n) : ∃ ad s, A = some ad ∧ ad.block < B ∧ l[i]? = some s ∧ w.cell? (ad.add i) = some (.string s) := by
  obtain ⟨ad, u, hA, hb, hu, hc⟩ := h.at_ hi
  have hl : i < l.length := by rw [h.str_len]; exact hi
  have hs : l[i]? = some l[i] := List.getElem?_eq_getElem hl
  rw [svs_get hs] at hu
  cases hu
  exact ⟨ad, l[i], hA, hb, hs, hc⟩
/-- The value of a flash memory. -/
def flv (A : Option Addr) (n c : Nat) : Value := .agg #[.slice A n c]
/-- A flash memory that reads as sectors. -/
def FlOK (w : World) (A : Option Addr) (n c : Nat) (fs : List ByteArray) : Prop := Reads w w.heap.size 1 A n (svs fs) ∧ n ≤ c ∧ n ≤ maxLen ∧ ∀ s ∈ fs, s.size ≤ 9223372036854775807
theorem FlOK.on {w w' : World} {A : Option Addr} {n c : Nat} {fs : List ByteArray} (h : FlOK w A n c fs) (hb : Below w.heap.size w w') : FlOK w' A n c fs := ⟨h.1.on hb, h.2.1, h.2.2⟩
theorem FlOK.len {w : World} {A : Option Addr} {n c : Nat} {fs : List ByteArray} (h : FlOK w A n c fs) : fs.length = n := h.1.str_len
/-- The block in which sectors lie. -/
def LIn (X : Nat → Prop) (A : Option Addr) (n : Nat) : Prop := 0 < n → ∀ ad, A = some ad → X ad.block
theorem LIn.nil_ {X : Nat → Prop} {A : Option Addr} : LIn X A 0 := fun h => absurd h (by omega)
theorem LIn.weak {X Y : Nat → Prop} {A : Option Addr} {n : Nat} (h : LIn X A n) (hy : ∀ b, X b → Y b) : LIn Y A n := fun h0 ad e => hy _ (h h0 ad e)
/-- A flash memory comes back, and an error; it lies in a block of X or in a new one. -/
def GivesLX (X : Nat → Prop) (fs : List ByteArray) (x : Int) (w : World) (e : Ending) (w' : World) : Prop :=
  ∃ A n c, e = .returned (.tuple #[flv A n c, .int .i64 x]) ∧ FlOK w' A n c fs ∧ LIn (fun b => X b ∨ w.heap.size ≤ b) A n ∧ Below w.heap.size w w'
/-- A flash memory comes back, and an error. -/
def GivesLE (fs : List ByteArray) (x : Int) (w : World) (e : Ending) (w' : World) : Prop :=
  ∃ A n c, e = .returned (.tuple #[flv A n c, .int .i64 x]) ∧ FlOK w' A n c fs ∧ Below w.heap.size w w'
def TellsSI (s : ByteArray) (x : Int) (w : World) (e : Ending) (w' : World) : Prop := e = .returned (.tuple #[.string s, .int .i64 x]) ∧ Below w.heap.size w w'
def TellsS (s : ByteArray) (w : World) (e : Ending) (w' : World) : Prop := e = .returned (.string s) ∧ Below w.heap.size w w'

set_option maxRecDepth 100000 in
set_option maxHeartbeats 1000000 in
theorem lexists_any (A : Option Addr) (n c : Nat) (fs : List ByteArray) (k : Int) (w : World) (hok : FlOK w A n c fs) :
    Calls Try.prog 73 #[flv A n c, .int .i64 k] w (TellsB (flIn fs k) w) := by
  have hlen := hok.len
  unfold flv
  clear hok
  by_cases hb : k < 0
  · have HE := Lib.hid (flIn_neg (fs := fs) hb)
    generalize flIn fs k = E at *
    clear hlen
    go_enter Try.func73, Try.ntmps73
    go_wp2_with (with_reducible refine wpList_box_row (o := ⟨some 2, _, _, _, _, _⟩) rfl _ _ rfl [.slice A n c] rfl ?_; intro w1 hrow1 hs1 hg1; have hf1 := hrow1.cell (j := 0) rfl; have hb1 := grown_below hg1 (Nat.le_refl _) (by simp))
    go_ret
    exact ⟨by rw [HE.out]; rfl, hb1⟩
  · obtain ⟨i, rfl⟩ : ∃ i : Nat, k = (i : Int) := ⟨k.toNat, by omega⟩
    by_cases hkn : i < n
    · have HE := Lib.hid (flIn_nat (fs := fs) (j := i) (by omega))
      generalize flIn fs i = E at *
      clear hlen
      go_enter Try.func73, Try.ntmps73
      go_wp2_with (with_reducible refine wpList_box_row (o := ⟨some 2, _, _, _, _, _⟩) rfl _ _ rfl [.slice A n c] rfl ?_; intro w1 hrow1 hs1 hg1; have hf1 := hrow1.cell (j := 0) rfl; have hb1 := grown_below hg1 (Nat.le_refl _) (by simp))
      go_ret
      exact ⟨by rw [HE.out]; rfl, hb1⟩
    · have HE := Lib.hid (flIn_far (fs := fs) (k := (i : Int)) (by omega))
      generalize flIn fs i = E at *
      clear hlen
      go_enter Try.func73, Try.ntmps73
      go_wp2_with (with_reducible refine wpList_box_row (o := ⟨some 2, _, _, _, _, _⟩) rfl _ _ rfl [.slice A n c] rfl ?_; intro w1 hrow1 hs1 hg1; have hf1 := hrow1.cell (j := 0) rfl; have hb1 := grown_below hg1 (Nat.le_refl _) (by simp))
      go_ret
      exact ⟨by rw [HE.out]; rfl, hb1⟩

set_option maxRecDepth 100000 in
set_option maxHeartbeats 1000000 in
theorem lread_any (A : Option Addr) (n c : Nat) (fs : List ByteArray) (k : Int) (w : World) (hok : FlOK w A n c fs) :
    Calls Try.prog 63 #[flv A n c, .int .i64 k] w (TellsSI (flRead fs k) (flErr fs k) w) := by
  have HX := fun W hW => Lib.hid (lexists_any A n c fs k W hW)
  have HLN := Lib.hid hok.len
  have HOK := Lib.hid hok
  unfold flv at *
  cases hx : flIn fs k with
  | false =>
    have HE := Lib.hid (flRead_no hx)
    have HO := Lib.hid (flErr_no hx)
    rw [hx] at HX
    clear hx hok
    generalize flRead fs k = E at *
    generalize flErr fs k = O at *
    go_enter Try.func63, Try.ntmps63
    go_wp2_with (with_reducible refine wpList_box_row (o := ⟨some 2, _, _, _, _, _⟩) rfl _ _ rfl [.slice A n c] rfl ?_; intro w1 hrow1 hs1 hg1; have hf1 := hrow1.cell (j := 0) rfl; have hb1 := grown_below hg1 (Nat.le_refl _) (by simp))
    refine (HX _ (HOK.out.on hb1)).out.mono ?_
    rintro e w2 ⟨rfl, hb2⟩
    go_wp2_with fail
    go_ret2
    exact ⟨by rw [HE.out, HO.out]; rfl, hb1.trans (hb2.mono hb1.size)⟩
  | true =>
    obtain ⟨i, rfl, hi⟩ := flIn_iff.1 hx
    rw [HLN.out] at hi
    obtain ⟨ad, s, rfl, hlt, hs, hc⟩ := hok.1.str_at hi
    have HE := Lib.hid (flRead_nat hs)
    have HO := Lib.hid (flErr_nat (fs := fs) (j := i) (by rw [HLN.out]; exact hi))
    rw [hx] at HX
    clear hx hs hok
    generalize flRead fs i = E at *
    generalize flErr fs i = O at *
    go_enter Try.func63, Try.ntmps63
    go_wp2_with (with_reducible refine wpList_box_row (o := ⟨some 2, _, _, _, _, _⟩) rfl _ _ rfl [.slice (some ad) n c] rfl ?_; intro w1 hrow1 hs1 hg1; have hf1 := hrow1.cell (j := 0) rfl; have hb1 := grown_below hg1 (Nat.le_refl _) (by simp))
    refine (HX _ (HOK.out.on hb1)).out.mono ?_
    rintro e w2 ⟨rfl, hb2⟩
    have hf2 := (hrow1.on hb2).cell (j := 0) rfl
    have B2 := hb1.trans (hb2.mono hb1.size)
    have hc2 := (B2.cell (by rw [block_of_add]; exact hlt)).trans hc
    go_wp2_with fail
    go_ret2
    exact ⟨by rw [HE.out, HO.out]; rfl, B2⟩

theorem str_ne {s t : ByteArray} (h : s ≠ t) : (s.toList == t.toList) = false := by
  rw [ByteArray.toList_eq, ByteArray.toList_eq]
  exact beq_eq_false_iff_ne.2 fun e => h (ba_ext e)
theorem take_snoc_same {α : Type} {l m : List α} {k : Nat} {x y : α} (hx : l[k]? = some x) (hy : m[k]? = some y) (h : l.take k = m.take k) (hxy : x = y) : l.take (k + 1) = m.take (k + 1) := by
  rw [List.take_add_one, List.take_add_one, hx, hy, h, hxy]
theorem ne_at {l m : List ByteArray} {k : Nat} {x y : ByteArray} (hx : l[k]? = some x) (hy : m[k]? = some y) (h : x ≠ y) : decide (l = m) = false := by
  refine decide_eq_false fun e => h ?_
  rw [e, hy] at hx
  exact (Option.some.inj hx).symm
theorem eq_of_take {l m : List ByteArray} {n : Nat} (hl : l.length = n) (hm : m.length = n) (h : l.take n = m.take n) : l = m := by
  rwa [List.take_of_length_le (by omega), List.take_of_length_le (by omega)] at h

set_option maxRecDepth 100000 in
set_option maxHeartbeats 4000000 in
theorem lequal_any (A B : Option Addr) (n c m d : Nat) (fs gs : List ByteArray) (w : World) (hr : Reads w w.heap.size 1 A n (svs fs)) (hq : Reads w w.heap.size 1 B m (svs gs)) (hn : n ≤ 9223372036854775807) :
    Calls Try.prog 46 #[.slice A n c, .slice B m d] w (TellsB (decide (fs = gs)) w) := by
  have HLP := Lib.hid hr.str_len
  have HLQ := Lib.hid hq.str_len
  by_cases hnm : n = m
  · subst hnm
    go_enter Try.func46, Try.ntmps46
    go_wp2_with fail
    go_loopg [13] n (fun g s5 wr => ∃ k : Nat, Hid (k + g = n) ∧ k ≤ n ∧ s5 = .int .i64 (k : Int) ∧ Hid (fs.take k = gs.take k) ∧ Below w.heap.size w wr)
    case atStart => exact ⟨0, by show _ = _; omega, by omega, rfl, Lib.hid rfl, Below.refl _ _⟩
    case round =>
      obtain ⟨k, HK, hk, rfl, HT, hB⟩ := hrel
      by_cases hlt : k < n
      · obtain ⟨ad, s, rfl, hlta, hs, hc0⟩ := hr.str_at hlt
        obtain ⟨bd, t, rfl, hltb, ht, hd0⟩ := hq.str_at hlt
        have HS := Lib.hid hs
        have HTT := Lib.hid ht
        have hc := (hB.cell (by rw [block_of_add]; exact hlta)).trans hc0
        have hd := (hB.cell (by rw [block_of_add]; exact hltb)).trans hd0
        clear hs ht hc0 hd0
        by_cases hst : s = t
        · have HSM := Lib.hid hst
          subst hst
          go_wp2_with fail
          go_quiet (fail)
          go_wp2_with fail
          go_roundg (gk - 1)
          case measure => have := HK.out; omega
          case rel => exact ⟨k + 1, by have := HK.out; show _ = _; omega, by omega, by go_num, Lib.hid (take_snoc_same HS.out HTT.out HT.out rfl), below_drewN hB nq⟩
        · have HNE := Lib.hid (ne_at HS.out HTT.out hst)
          have hz := str_ne hst
          go_wp2_with fail
          go_quiet (fail)
          go_wp2_with fail
          go_ret
          exact ⟨by rw [HNE.out]; rfl, below_drewN hB nq⟩
      · obtain rfl : k = n := by omega
        have HEQ := Lib.hid (eq_of_take HLP.out HLQ.out HT.out)
        go_wp2_with fail
        go_ret
        exact ⟨by rw [decide_eq_true HEQ.out]; rfl, hB⟩
  · have HNE : Hid (decide (fs = gs) = false) := Lib.hid (decide_eq_false fun e => hnm (by rw [← HLP.out, ← HLQ.out, e]))
    go_enter Try.func46, Try.ntmps46
    go_wp2_with fail
    go_ret
    exact ⟨by rw [HNE.out]; rfl, Below.refl _ _⟩

set_option maxRecDepth 100000 in
set_option maxHeartbeats 1000000 in
theorem lsame_any (A B : Option Addr) (n c m d : Nat) (fs gs : List ByteArray) (w : World) (hok : FlOK w A n c fs) (hog : FlOK w B m d gs) :
    Calls Try.prog 35 #[flv A n c, flv B m d] w (TellsB (decide (fs = gs)) w) := by
  have HX := fun W hW hG hn => Lib.hid (lequal_any A B n c m d fs gs W hW hG hn)
  have hr := hok.1
  have hq := hog.1
  have hn := hok.2.2.1
  unfold maxLen at hn
  unfold flv
  generalize decide (fs = gs) = E at *
  clear hok hog
  go_enter Try.func35, Try.ntmps35
  go_wp2_with (first
    | (with_reducible refine wpList_box_row (o := ⟨some 2, _, _, _, _, _⟩) rfl _ _ rfl [.slice A n c] rfl ?_; intro w1 r1 s1 g1)
    | (with_reducible refine wpList_box_row (o := ⟨some 3, _, _, _, _, _⟩) rfl _ _ rfl [.slice B m d] rfl ?_; intro w2 r2 s2 g2; have q1 := r1.kept g2 (by simp); have c1 := q1.cell (j := 0) rfl; have c2 := r2.cell (j := 0) rfl; have b2 := below_kept (grown_below g1 (Nat.le_refl _) (by simp)) g2 (Nat.le_of_lt s1) (by simp)))
  refine (HX _ (hr.on b2) (hq.on b2) (by omega)).out.mono ?_
  rintro e w3 ⟨rfl, b3⟩
  go_wp2_with fail
  go_ret
  exact ⟨rfl, b2.trans (b3.mono b2.size)⟩
end Go.Proofs.Ytkepmhkakkkliaa
