/-
  Flash memories: the plain functions of layer 8 over lists of sectors, and their laws: numbers and lists alone. No condition.
-/
import Derived.Test.YtfcbcclcmgheeaaProg
import Derived.Test.YtfcbcclcmgheeaaBase
import Derived.Deep.LoopGhost
namespace Go.Proofs.Ytfcbcclcmgheeaa

/-! ## Bytes -/
def tl (s : ByteArray) : List UInt8 := s.data.toList
def mk (l : List UInt8) : ByteArray := ⟨l.toArray⟩
theorem ba_ext {s t : ByteArray} (h : tl s = tl t) : s = t := by
  unfold tl at h
  cases s; cases t
  simp at h
  rw [h]
theorem tl_mk (l : List UInt8) : tl (mk l) = l := by simp [tl, mk]
theorem mk_tl (s : ByteArray) : mk (tl s) = s := ba_ext (tl_mk _)
theorem tl_app (s t : ByteArray) : tl (s ++ t) = tl s ++ tl t := by simp [tl, ByteArray.data_append]
theorem tl_len (s : ByteArray) : (tl s).length = s.size := by simp [tl]
theorem mk_size (l : List UInt8) : (mk l).size = l.length := by rw [← tl_len, tl_mk]
theorem tl_extract (s : ByteArray) (i j : Nat) : tl (s.extract i j) = ((tl s).drop i).take (j - i) := by
  unfold tl
  rw [ByteArray.data_extract, Array.toList_extract]
/-- 256 bytes b. -/
def fullS (b : UInt8) : ByteArray := mk (List.replicate 256 b)
theorem fullS_size (b : UInt8) : (fullS b).size = 256 := by unfold fullS; rw [mk_size, List.length_replicate]
theorem tl_full (b : UInt8) : tl (fullS b) = List.replicate 256 b := tl_mk _

/-! ## One sector -/
def flWhole (cut : Int) : Bool := decide (cut < 0) || decide (256 ≤ cut)
def flW (b : ByteArray) (cut : Int) (old : ByteArray) : ByteArray := if flWhole cut then b else mk ((tl b).take cut.toNat ++ (tl old).drop cut.toNat)
theorem flWhole_neg {c : Int} (h : c < 0) : flWhole c = true := by unfold flWhole; rw [decide_eq_true h]; rfl
theorem flWhole_far {c : Int} (h : 256 ≤ c) : flWhole c = true := by unfold flWhole; rw [decide_eq_true h, Bool.or_true]
theorem flWhole_cut {c : Nat} (h : c < 256) : flWhole (c : Int) = false := by unfold flWhole; rw [decide_eq_false (by omega), decide_eq_false (by omega)]; rfl
theorem flW_whole {b : ByteArray} {c : Int} (h : flWhole c = true) (old : ByteArray) : flW b c old = b := by unfold flW; rw [if_pos h]
theorem flW_cut {b : ByteArray} {c : Nat} (h : c < 256) (old : ByteArray) : flW b (c : Int) old = mk ((tl b).take c ++ (tl old).drop c) := by
  unfold flW
  rw [if_neg (by rw [flWhole_cut h]; decide), Int.toNat_natCast]
theorem tl_cut {b : ByteArray} {c : Nat} (h : c < 256) (old : ByteArray) : tl (flW b (c : Int) old) = (tl b).take c ++ (tl old).drop c := by rw [flW_cut h, tl_mk]
/-- As the landed code writes it. -/
theorem flW_code {b : ByteArray} {c : Nat} (h : c < 256) (old : ByteArray) : b.extract 0 c ++ old.extract (min c old.size) old.size = flW b (c : Int) old := by
  refine ba_ext ?_
  rw [tl_app, tl_extract, tl_extract, tl_cut h, List.drop_zero, Nat.sub_zero]
  congr 1
  rw [List.take_of_length_le (by rw [List.length_drop, tl_len]; exact Nat.le_refl _)]
  rcases Nat.le_total c old.size with hc | hc
  · rw [Nat.min_eq_left hc]
  · rw [Nat.min_eq_right hc, List.drop_of_length_le (by rw [tl_len]; exact Nat.le_refl _), List.drop_of_length_le (by rw [tl_len]; exact hc)]
/-- As the reference writes it. -/
theorem flW_ref {b : ByteArray} {c : Nat} (h : c < 256) {old : ByteArray} (hc : c < old.size) : b.extract 0 c ++ old.extract c old.size = flW b (c : Int) old := by
  rw [← flW_code h, Nat.min_eq_left (Nat.le_of_lt hc)]
theorem flW_ref0 {b : ByteArray} {c : Nat} (h : c < 256) {old : ByteArray} (hc : old.size ≤ c) : b.extract 0 c = flW b (c : Int) old := by
  refine ba_ext ?_
  rw [tl_extract, tl_cut h, List.drop_zero, Nat.sub_zero, List.drop_of_length_le (by rw [tl_len]; exact hc), List.append_nil]
theorem nat_of_cut {c : Int} (h : flWhole c = false) : ∃ k : Nat, c = (k : Int) ∧ k < 256 := by
  unfold flWhole at h
  rw [Bool.or_eq_false_iff, decide_eq_false_iff_not, decide_eq_false_iff_not] at h
  exact ⟨c.toNat, by omega, by omega⟩
theorem flW_size {b old : ByteArray} (hb : b.size = 256) (ho : old.size = 256) (c : Int) : (flW b c old).size = 256 := by
  cases hw : flWhole c with
  | true => rw [flW_whole hw, hb]
  | false =>
    obtain ⟨k, rfl, hk⟩ := nat_of_cut hw
    rw [← tl_len, tl_cut hk, List.length_append, List.length_take, List.length_drop, tl_len, tl_len]
    omega
theorem flW_max {b old : ByteArray} (hb : b.size = 256) {m : Nat} (hm : 256 ≤ m) (ho : old.size ≤ m) (c : Int) : (flW b c old).size ≤ m := by
  cases hw : flWhole c with
  | true => rw [flW_whole hw]; omega
  | false =>
    obtain ⟨k, rfl, hk⟩ := nat_of_cut hw
    rw [← tl_len, tl_cut hk, List.length_append, List.length_take, List.length_drop, tl_len, tl_len]
    omega
/-- A whole write over a cut one. -/
theorem flW_again (b : ByteArray) (s : ByteArray) : flW b (-1) s = b := flW_whole (flWhole_neg (by omega)) s
/-- Two cut writes of the same content. -/
theorem flW_two {b : ByteArray} (old : ByteArray) (hb : b.size = 256) (c d : Nat) : flW b (d : Int) (flW b (c : Int) old) = flW b ((max c d : Nat) : Int) old := by
  by_cases hd : d < 256
  · by_cases hc : c < 256
    · refine ba_ext ?_
      rw [tl_cut hd, tl_cut hc, tl_cut (by omega)]
      have hl : (tl b).length = 256 := by rw [tl_len, hb]
      rw [List.drop_append, List.length_take, hl, Nat.min_eq_left (by omega), List.drop_drop]
      rcases Nat.le_total c d with h | h
      · rw [Nat.max_eq_right h, List.drop_of_length_le (l := (tl b).take c) (by rw [List.length_take]; omega), List.nil_append]
        congr 2
        omega
      · rw [Nat.max_eq_left h, Nat.sub_eq_zero_of_le h, Nat.add_zero, ← List.append_assoc]
        congr 1
        rw [List.drop_take]
        have h2 := List.take_add (l := tl b) (i := d) (j := c - d)
        rw [show d + (c - d) = c from by omega] at h2
        exact h2.symm
    · rw [flW_whole (flWhole_far (c := (c : Int)) (by omega)), flW_whole (flWhole_far (c := ((max c d : Nat) : Int)) (by omega))]
      refine ba_ext ?_
      rw [tl_cut hd, List.take_append_drop]
  · rw [flW_whole (flWhole_far (c := (d : Int)) (by omega)), flW_whole (flWhole_far (c := ((max c d : Nat) : Int)) (by omega))]
theorem flW_same {b : ByteArray} (old : ByteArray) (hb : b.size = 256) (c : Int) : flW b c (flW b c old) = flW b c old := by
  cases hw : flWhole c with
  | true => rw [flW_whole hw, flW_whole hw]
  | false =>
    obtain ⟨k, rfl, _⟩ := nat_of_cut hw
    rw [flW_two _ hb, Nat.max_self]
/-- Byte i behind a write. -/
theorem flW_at (b : UInt8) (old : ByteArray) (c : Int) {i : Nat} (hi : i < 256) :
    (tl (flW (fullS b) c old))[i]? = if c < 0 ∨ (i : Int) < c then some b else (tl old)[i]? := by
  have hf : (tl (fullS b))[i]? = some b := by rw [tl_full, List.getElem?_replicate, if_pos hi]
  cases hw : flWhole c with
  | true =>
    rw [flW_whole hw, hf, if_pos]
    unfold flWhole at hw
    rw [Bool.or_eq_true, decide_eq_true_eq, decide_eq_true_eq] at hw
    omega
  | false =>
    obtain ⟨k, rfl, hk⟩ := nat_of_cut hw
    rw [tl_cut hk]
    have hl : ((tl (fullS b)).take k).length = k := by rw [List.length_take, tl_len, fullS_size]; omega
    by_cases h : i < k
    · rw [if_pos (.inr (by omega)), List.getElem?_append_left (by omega), List.getElem?_take, if_pos h, hf]
    · rw [if_neg (by omega), List.getElem?_append_right (by omega), hl, List.getElem?_drop]
      congr 1
      omega

/-! ## The memory -/
def flIn (fs : List ByteArray) (k : Int) : Bool := decide (0 ≤ k) && decide (k < (fs.length : Int))
def flAt (fs : List ByteArray) (k : Int) : ByteArray := fs.getD k.toNat ⟨#[]⟩
def flRead (fs : List ByteArray) (k : Int) : ByteArray := if flIn fs k then flAt fs k else ⟨#[]⟩
def flErr (fs : List ByteArray) (k : Int) : Int := if flIn fs k then 0 else 13
def flOk (fs : List ByteArray) (k : Int) (b : ByteArray) : Bool := flIn fs k && decide (b.size = 256)
def flWrite (fs : List ByteArray) (k : Int) (b : ByteArray) (c : Int) : List ByteArray := if flOk fs k b then fs.set k.toNat (flW b c (flAt fs k)) else fs
def flWErr (fs : List ByteArray) (k : Int) (b : ByteArray) : Int := if flIn fs k then (if b.size = 256 then 0 else 1) else 13
def flBad (s : ByteArray) : Bool := !decide (s.size = 256)
def flValid (fs : List ByteArray) : Bool := decide (fs.length ≤ 128) && !fs.any flBad
def flNewOk (n : Int) : Bool := decide (0 ≤ n) && decide (n ≤ 128)
def flNew (n : Int) : List ByteArray := if flNewOk n then List.replicate n.toNat (fullS 0) else []
def flNewE (n : Int) : Int := if flNewOk n then 0 else 1

section
variable {fs : List ByteArray} {k : Int} {b : ByteArray}
theorem flIn_neg (h : k < 0) : flIn fs k = false := by unfold flIn; rw [decide_eq_false (by omega)]; rfl
theorem flIn_far (h : (fs.length : Int) ≤ k) : flIn fs k = false := by unfold flIn; rw [decide_eq_false (p := k < _) (by omega), Bool.and_false]
theorem flIn_nat {j : Nat} (h : j < fs.length) : flIn fs (j : Int) = true := by unfold flIn; rw [decide_eq_true (by omega), decide_eq_true (by omega)]; rfl
theorem flIn_iff : flIn fs k = true ↔ ∃ j : Nat, k = (j : Int) ∧ j < fs.length := by
  unfold flIn
  rw [Bool.and_eq_true, decide_eq_true_eq, decide_eq_true_eq]
  exact ⟨fun h => ⟨k.toNat, by omega, by omega⟩, fun ⟨j, e, h⟩ => by omega⟩
theorem flAt_nat {j : Nat} {s : ByteArray} (h : fs[j]? = some s) : flAt fs (j : Int) = s := by unfold flAt; rw [Int.toNat_natCast, List.getD, h]; rfl
theorem flWrite_no (h : flIn fs k = false) (c : Int) : flWrite fs k b c = fs := by unfold flWrite flOk; rw [h]; rfl
theorem flWErr_no (h : flIn fs k = false) : flWErr fs k b = 13 := by unfold flWErr; rw [h]; rfl
theorem flWrite_len (h : b.size ≠ 256) (c : Int) : flWrite fs k b c = fs := by unfold flWrite flOk; rw [decide_eq_false h, Bool.and_false]; rfl
theorem flWErr_len (hi : flIn fs k = true) (h : b.size ≠ 256) : flWErr fs k b = 1 := by unfold flWErr; rw [hi, if_pos rfl, if_neg h]
theorem flWErr_yes (hi : flIn fs k = true) (h : b.size = 256) : flWErr fs k b = 0 := by unfold flWErr; rw [hi, if_pos rfl, if_pos h]
theorem flWrite_nat {j : Nat} {s : ByteArray} (hs : fs[j]? = some s) (h : b.size = 256) (c : Int) : flWrite fs (j : Int) b c = fs.set j (flW b c s) := by
  unfold flWrite flOk
  rw [flIn_nat (List.getElem?_eq_some_iff.1 hs).1, decide_eq_true h, flAt_nat hs, Int.toNat_natCast]
  rfl
theorem flRead_no (h : flIn fs k = false) : flRead fs k = ⟨#[]⟩ := by unfold flRead; rw [h]; rfl
theorem flErr_no (h : flIn fs k = false) : flErr fs k = 13 := by unfold flErr; rw [h]; rfl
theorem flRead_nat {j : Nat} {s : ByteArray} (hs : fs[j]? = some s) : flRead fs (j : Int) = s := by unfold flRead; rw [flIn_nat (List.getElem?_eq_some_iff.1 hs).1, flAt_nat hs]; rfl
theorem flErr_nat {j : Nat} (h : j < fs.length) : flErr fs (j : Int) = 0 := by unfold flErr; rw [flIn_nat h]; rfl
theorem flNew_no {n : Int} (h : flNewOk n = false) : flNew n = [] ∧ flNewE n = 1 := by unfold flNew flNewE; rw [h]; exact ⟨rfl, rfl⟩
theorem flNew_nat {n : Nat} (h : n ≤ 128) : flNew (n : Int) = List.replicate n (fullS 0) ∧ flNewE (n : Int) = 0 := by
  unfold flNew flNewE flNewOk
  rw [decide_eq_true (by omega), decide_eq_true (by omega), Int.toNat_natCast]
  exact ⟨rfl, rfl⟩
theorem flWrite_length (c : Int) : (flWrite fs k b c).length = fs.length := by unfold flWrite; split; exact List.length_set; rfl

/-! ## What valid memories keep -/
theorem flvalid_len (h : flValid fs = true) : fs.length ≤ 128 := by
  unfold flValid at h
  rw [Bool.and_eq_true, decide_eq_true_eq] at h
  exact h.1
theorem flvalid_size (h : flValid fs = true) {s : ByteArray} (hs : s ∈ fs) : s.size = 256 := by
  unfold flValid at h
  rw [Bool.and_eq_true, Bool.not_eq_true'] at h
  have h1 := List.any_eq_false.1 h.2 s hs
  unfold flBad at h1
  simpa using h1
theorem flvalid_of (hl : fs.length ≤ 128) (h : ∀ s ∈ fs, s.size = 256) : flValid fs = true := by
  unfold flValid
  rw [decide_eq_true hl, Bool.true_and, Bool.not_eq_true']
  refine List.any_eq_false.2 fun s hs => ?_
  unfold flBad
  rw [h s hs]
  decide
theorem flvalid_write (h : flValid fs = true) (hb : b.size = 256) (c : Int) : flValid (flWrite fs k b c) = true := by
  refine flvalid_of (by rw [flWrite_length]; exact flvalid_len h) fun s hs => ?_
  unfold flWrite at hs
  split at hs
  · rename_i ho
    rcases List.mem_or_eq_of_mem_set hs with hs | rfl
    · exact flvalid_size h hs
    · unfold flOk at ho
      rw [Bool.and_eq_true] at ho
      obtain ⟨j, rfl, hj⟩ := flIn_iff.1 ho.1
      have hg : fs[j]? = some fs[j] := List.getElem?_eq_getElem hj
      rw [flAt_nat hg]
      exact flW_size hb (flvalid_size h (List.getElem_mem hj)) c
  · exact flvalid_size h hs
theorem write_other (c : Int) {i : Nat} (h : (i : Int) ≠ k ∨ flWErr fs k b ≠ 0) : (flWrite fs k b c)[i]? = fs[i]? := by
  unfold flWrite
  split
  · rename_i ho
    unfold flOk at ho
    rw [Bool.and_eq_true, decide_eq_true_eq] at ho
    rcases h with h | h
    · obtain ⟨j, rfl, _⟩ := flIn_iff.1 ho.1
      rw [Int.toNat_natCast, List.getElem?_set_ne (by omega)]
    · exact absurd (flWErr_yes ho.1 ho.2) h
  · rfl
theorem write_at {j : Nat} {s : ByteArray} (hs : fs[j]? = some s) (h : b.size = 256) (c : Int) : (flWrite fs (j : Int) b c)[j]? = some (flW b c s) := by
  rw [flWrite_nat hs h, List.getElem?_set_self (List.getElem?_eq_some_iff.1 hs).1]
/-- Two writes of the same sector. -/
theorem write_two {j : Nat} {s : ByteArray} (hs : fs[j]? = some s) (h : b.size = 256) (c d : Int) : flWrite (flWrite fs (j : Int) b c) (j : Int) b d = fs.set j (flW b d (flW b c s)) := by
  rw [flWrite_nat (write_at hs h c) h, flWrite_nat hs h, List.set_set]
theorem write_again {j : Nat} (hj : j < fs.length) (h : b.size = 256) (c : Int) : flWrite (flWrite fs (j : Int) b c) (j : Int) b (-1) = flWrite fs (j : Int) b (-1) := by
  have hg : fs[j]? = some fs[j] := List.getElem?_eq_getElem hj
  rw [write_two hg h, flWrite_nat hg h, flW_again, flW_again]
theorem write_same {j : Nat} (hj : j < fs.length) (h : b.size = 256) (c : Int) : flWrite (flWrite fs (j : Int) b c) (j : Int) b c = flWrite fs (j : Int) b c := by
  have hg : fs[j]? = some fs[j] := List.getElem?_eq_getElem hj
  rw [write_two hg h, flWrite_nat hg h, flW_same _ h]
theorem write_max {j : Nat} (hj : j < fs.length) (h : b.size = 256) (c d : Nat) : flWrite (flWrite fs (j : Int) b (c : Int)) (j : Int) b (d : Int) = flWrite fs (j : Int) b ((max c d : Nat) : Int) := by
  have hg : fs[j]? = some fs[j] := List.getElem?_eq_getElem hj
  rw [write_two hg h, flWrite_nat hg h, flW_two _ h]
/-- A write of a valid memory finds its sector. -/
theorem werr_iff (h : b.size = 256) : decide (flWErr fs k b = 0) = flIn fs k := by
  unfold flWErr
  cases flIn fs k with
  | true => rw [if_pos rfl, if_pos h]; rfl
  | false => rfl
/-- A whole write of full sectors. -/
theorem write_full {l : List UInt8} {j : Nat} (hj : j < l.length) (x : UInt8) : flWrite (l.map fullS) (j : Int) (fullS x) (-1) = (l.set j x).map fullS := by
  have hg : (l.map fullS)[j]? = some (fullS l[j]) := by rw [List.getElem?_map, List.getElem?_eq_getElem hj]; rfl
  rw [flWrite_nat hg (fullS_size x), flW_again, List.map_set]
/-! ## Small memories -/
def flBig (s : ByteArray) : Bool := decide (300 < s.size)
def flSmall (fs : List ByteArray) : Bool := decide (fs.length ≤ 150) && !fs.any flBig
theorem small_len (h : flSmall fs = true) : fs.length ≤ 150 := by
  unfold flSmall at h
  rw [Bool.and_eq_true, decide_eq_true_eq] at h
  exact h.1
end
end Go.Proofs.Ytfcbcclcmgheeaa

/-
  What flash.exists, flash.Read, flash.malformed, flash.Valid and flash.Same return, and slices.IndexFunc, ContainsFunc and Equal at sectors: contracts by walks. No condition but bounded lengths.
-/
namespace Go.Proofs.Ytfcbcclcmgheeaa
open Go.RowKit

/-- Sectors as cells. -/
def svs (l : List ByteArray) : List Value := l.map .string
theorem svs_len (l : List ByteArray) : (svs l).length = l.length := List.length_map _
theorem svs_get {l : List ByteArray} {i : Nat} {s : ByteArray} (h : l[i]? = some s) : (svs l)[i]? = some (.string s) := by unfold svs; rw [List.getElem?_map, h]; rfl
theorem svs_one (l : List ByteArray) : ∀ u ∈ svs l, u.oneCell' = true := by
  intro u hu
  obtain ⟨s, _, rfl⟩ := List.mem_map.1 hu
  rfl
theorem Reads.str_len {w : World} {B n : Nat} {A : Option Addr} {l : List ByteArray} (h : Reads w B 1 A n (svs l)) : l.length = n := by
  have := h.1; rw [svs_len] at this; omega
theorem Reads.str_at {w : World} {B n : Nat} {A : Option Addr} {l : List ByteArray} (h : Reads w B 1 A n (svs l)) {i : Nat} (hi : i < n) : ∃ ad s, A = some ad ∧ ad.block < B ∧ l[i]? = some s ∧ w.cell? (ad.add i) = some (.string s) := by
  obtain ⟨ad, u, hA, hb, hu, hc⟩ := h.at_ hi
  have hl : i < l.length := by rw [h.str_len]; exact hi
  have hs : l[i]? = some l[i] := List.getElem?_eq_getElem hl
  rw [svs_get hs] at hu
  cases hu
  exact ⟨ad, l[i], hA, hb, hs, hc⟩
/-- The value of a flash memory. -/
def flv (A : Option Addr) (n c : Nat) : Value := .agg #[.slice A n c]
/-- A flash memory that reads as sectors. -/
def FlOK (w : World) (A : Option Addr) (n c : Nat) (fs : List ByteArray) : Prop := Reads w w.heap.size 1 A n (svs fs) ∧ n ≤ c ∧ n ≤ maxLen ∧ ∀ s ∈ fs, s.size ≤ 9223372036854775807
theorem FlOK.on {w w' : World} {A : Option Addr} {n c : Nat} {fs : List ByteArray} (h : FlOK w A n c fs) (hb : Below w.heap.size w w') : FlOK w' A n c fs := ⟨h.1.on hb, h.2.1, h.2.2⟩
theorem FlOK.len {w : World} {A : Option Addr} {n c : Nat} {fs : List ByteArray} (h : FlOK w A n c fs) : fs.length = n := h.1.str_len
/-- The block in which sectors lie. -/
def LIn (X : Nat → Prop) (A : Option Addr) (n : Nat) : Prop := 0 < n → ∀ ad, A = some ad → X ad.block
theorem LIn.nil_ {X : Nat → Prop} {A : Option Addr} : LIn X A 0 := fun h => absurd h (by omega)
theorem LIn.weak {X Y : Nat → Prop} {A : Option Addr} {n : Nat} (h : LIn X A n) (hy : ∀ b, X b → Y b) : LIn Y A n := fun h0 ad e => hy _ (h h0 ad e)
/-- A flash memory comes back, and an error; it lies in a block of X or in a new one. -/
def GivesLX (X : Nat → Prop) (fs : List ByteArray) (x : Int) (w : World) (e : Ending) (w' : World) : Prop :=
  ∃ A n c, e = .returned (.tuple #[flv A n c, .int .i64 x]) ∧ FlOK w' A n c fs ∧ LIn (fun b => X b ∨ w.heap.size ≤ b) A n ∧ Below w.heap.size w w'
/-- A flash memory comes back, and an error. -/
def GivesLE (fs : List ByteArray) (x : Int) (w : World) (e : Ending) (w' : World) : Prop :=
  ∃ A n c, e = .returned (.tuple #[flv A n c, .int .i64 x]) ∧ FlOK w' A n c fs ∧ Below w.heap.size w w'
def TellsSI (s : ByteArray) (x : Int) (w : World) (e : Ending) (w' : World) : Prop := e = .returned (.tuple #[.string s, .int .i64 x]) ∧ Below w.heap.size w w'
def TellsS (s : ByteArray) (w : World) (e : Ending) (w' : World) : Prop := e = .returned (.string s) ∧ Below w.heap.size w w'

theorem str_ne {s t : ByteArray} (h : s ≠ t) : (s.toList == t.toList) = false := by
  rw [ByteArray.toList_eq, ByteArray.toList_eq]
  exact beq_eq_false_iff_ne.2 fun e => h (ba_ext e)
theorem take_snoc_same {α : Type} {l m : List α} {k : Nat} {x y : α} (hx : l[k]? = some x) (hy : m[k]? = some y) (h : l.take k = m.take k) (hxy : x = y) : l.take (k + 1) = m.take (k + 1) := by
  rw [List.take_add_one, List.take_add_one, hx, hy, h, hxy]
theorem ne_at {l m : List ByteArray} {k : Nat} {x y : ByteArray} (hx : l[k]? = some x) (hy : m[k]? = some y) (h : x ≠ y) : decide (l = m) = false := by
  refine decide_eq_false fun e => h ?_
  rw [e, hy] at hx
  exact (Option.some.inj hx).symm
theorem eq_of_take {l m : List ByteArray} {n : Nat} (hl : l.length = n) (hm : m.length = n) (h : l.take n = m.take n) : l = m := by
  rwa [List.take_of_length_le (by omega), List.take_of_length_le (by omega)] at h

end Go.Proofs.Ytfcbcclcmgheeaa

/-
  What the law file's full returns: 256 equal bytes; slices.Clone at sectors; flash.writer's closure: contracts by walks. No condition but bounded lengths.
-/
namespace Go.Proofs.Ytfcbcclcmgheeaa
open Go.RowKit

/-- The row behind k stores. -/
def fullRow (b : UInt8) (k : Nat) : List Value := bvs (List.replicate k b ++ List.replicate (256 - k) 0)
theorem fullRow_0 (b : UInt8) : fullRow b 0 = List.replicate 256 (.int .u8 0) := by
  unfold fullRow bvs
  rw [List.replicate_zero, List.nil_append, List.map_replicate]
  rfl
theorem fullRow_len (b : UInt8) {k : Nat} (h : k ≤ 256) : (fullRow b k).length = 256 := by
  unfold fullRow
  rw [bvs_length, List.length_append, List.length_replicate, List.length_replicate]
  omega
theorem fullRow_set (b : UInt8) {k : Nat} (h : k < 256) : (fullRow b k).set k (bv b) = fullRow b (k + 1) := by
  unfold fullRow bvs
  rw [← List.map_set]
  congr 1
  rw [List.set_append_right _ _ (by rw [List.length_replicate]; exact Nat.le_refl _), List.length_replicate, Nat.sub_self]
  obtain ⟨m, hm⟩ : ∃ m, 256 - k = m + 1 := ⟨255 - k, by omega⟩
  rw [hm, List.replicate_succ, List.set_cons_zero, List.replicate_succ', List.append_assoc, show 256 - (k + 1) = m from by omega]
  rfl
theorem fullRow_all (b : UInt8) : fullRow b 256 = bvs (List.replicate 256 b) := by
  unfold fullRow
  rw [show 256 - 256 = 0 from rfl, List.replicate_zero, List.append_nil]

theorem info_st : (Try.prog.info? 9).map (fun i => (i.zero, i.size, i.bytes)) = some (some (.string ⟨#[]⟩), 1, 16) := by kernel_rfl

def WrAt (w : World) (g : Nat) (b : ByteArray) (cut : Int) : Prop := Row w g 9 [.string b] ∧ Row w (g + 1) 3 [.int .i64 cut]
theorem WrAt.on {w w' : World} {g : Nat} {b : ByteArray} {cut : Int} (h : WrAt w g b cut) (hb : Below w.heap.size w w') : WrAt w' g b cut := ⟨h.1.on hb, h.2.on hb⟩

end Go.Proofs.Ytfcbcclcmgheeaa

/-
  What flash.Write returns: a contract by a walk. Condition: at most a million sectors.
-/
namespace Go.Proofs.Ytfcbcclcmgheeaa
open Go.RowKit

/-- The head of a row reads as sectors. -/
theorem reads_head {w : World} {g n : Nat} {e : TypeId} {cs : List Value} {l : List ByteArray} (h : Row w g e cs) (hn : n ≤ cs.length) (ht : cs.take n = svs l) : Reads w w.heap.size 1 (some ⟨g, 0, none⟩) n (svs l) := by
  have h1 := (h.reads (size := 1) (n := cs.length) (by omega)).take (k := n) hn
  rw [Nat.mul_one, ht] at h1
  exact h1
theorem svs_set (l : List ByteArray) (k : Nat) (s : ByteArray) : (svs l).set k (.string s) = svs (l.set k s) := by unfold svs; rw [List.map_set]
theorem own_kept_lt {w w' : World} {base n g : Nat} {e : TypeId} {v : Value} {xs : List Value} (h : w.ownsRow base e 1 v n xs) (hg : w.grownBy w' (some g)) (hlt : g < base) : w'.ownsRow base e 1 v n xs :=
  h.kept hg (by
    cases hv : v.ownBlock with
    | none => exact .inl rfl
    | some k => exact .inr (fun e => by cases e; have := (h.lt g hv).1; omega))
/-- A row of the call's own that is not empty. -/
theorem own_rowc {w : World} {base n c : Nat} {A : Option Addr} {e : TypeId} {xs : List Value} (h : w.ownsRow base e 1 (.slice A n c) n xs) (hn : 0 < n) :
    ∃ g cs, A = some ⟨g, 0, none⟩ ∧ base ≤ g ∧ Row w g e cs ∧ n ≤ cs.length ∧ cs.take n = xs ∧ cs.length = c ∧ c ≤ maxLen := by
  obtain ⟨h1, h2⟩ := h
  rcases h2 with ⟨hv, hx⟩ | ⟨g, cap, cur, hv, hg, hh, hnc, hm, hcs, ht⟩
  · injection hv with e1 e2 e3
    omega
  · injection hv with e1 e2 e3
    rw [Nat.mul_one] at hcs ht
    exact ⟨g, cur.toList, e1, hg, hh, by rw [Array.length_toList]; omega, ht, by rw [Array.length_toList]; omega, by omega⟩
theorem own_row {w : World} {base n c : Nat} {A : Option Addr} {e : TypeId} {xs : List Value} (h : w.ownsRow base e 1 (.slice A n c) n xs) (hn : 0 < n) :
    ∃ g cs, A = some ⟨g, 0, none⟩ ∧ base ≤ g ∧ Row w g e cs ∧ n ≤ cs.length ∧ cs.take n = xs := by
  obtain ⟨g, cs, h1, h2, h3, h4, h5, _⟩ := own_rowc h hn
  exact ⟨g, cs, h1, h2, h3, h4, h5⟩
theorem own_of_row {w : World} {base g n c : Nat} {e : TypeId} {cs xs : List Value} (h : Row w g e cs) (hb : base ≤ g) (hc : cs.length = c) (hn : n ≤ c) (hm : c ≤ maxLen) (ht : cs.take n = xs) : w.ownsRow base e 1 (.slice (some ⟨g, 0, none⟩) n c) n xs :=
  ⟨by rw [← ht, List.length_take]; omega, .inr ⟨g, c, cs.toArray, rfl, hb, h, hn, hm, by simpa using hc, by simpa using ht⟩⟩
/-- A memory of the call's own comes back, and an error. -/
def GivesLO (fs : List ByteArray) (x : Int) (w : World) (e : Ending) (w' : World) : Prop :=
  ∃ A n c, e = .returned (.tuple #[flv A n c, .int .i64 x]) ∧ w'.ownsRow w.heap.size 9 1 (.slice A n c) n (svs fs) ∧ (∀ s ∈ fs, s.size ≤ 9223372036854775807) ∧ Below w.heap.size w w'
theorem own_flok {w : World} {base n c : Nat} {A : Option Addr} {fs : List ByteArray} (h : w.ownsRow base 9 1 (.slice A n c) n (svs fs)) (hs : ∀ s ∈ fs, s.size ≤ 9223372036854775807) : FlOK w A n c fs := by
  obtain ⟨A', c', hv, hn, hm, hr⟩ := own_form h
  injection hv with e1 e2 e3
  subst e1 e3
  exact ⟨hr, hn, Nat.le_trans hn hm, hs⟩

end Go.Proofs.Ytfcbcclcmgheeaa
