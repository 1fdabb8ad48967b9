/-
  Flash memories: the plain functions of layer 8 over lists of sectors, and their laws: numbers and lists alone. No condition.
-/
import Derived.Test.YtfclifolniefpaaDoorProg
import Derived.Test.YtfclifolniefpaaDoorBase
import Derived.Deep.LoopGhost
namespace Go.Proofs.YtfclifolniefpaaDoor

/-! ## Bytes -/
def tl (s : ByteArray) : List UInt8 := s.data.toList
def mk (l : List UInt8) : ByteArray := ⟨l.toArray⟩
theorem ba_ext {s t : ByteArray} (h : tl s = tl t) : s = t := by
  unfold tl at h
  cases s; cases t
  simp at h
  rw [h]
theorem tl_mk (l : List UInt8) : tl (mk l) = l := by simp [tl, mk]
theorem mk_tl (s : ByteArray) : mk (tl s) = s := ba_ext (tl_mk _)
theorem tl_app (s t : ByteArray) : tl (s ++ t) = tl s ++ tl t := by simp [tl, ByteArray.data_append]
theorem tl_len (s : ByteArray) : (tl s).length = s.size := by simp [tl]
theorem mk_size (l : List UInt8) : (mk l).size = l.length := by rw [← tl_len, tl_mk]
theorem tl_extract (s : ByteArray) (i j : Nat) : tl (s.extract i j) = ((tl s).drop i).take (j - i) := by
  unfold tl
  rw [ByteArray.data_extract, Array.toList_extract]
/-- 256 bytes b. -/
def fullS (b : UInt8) : ByteArray := mk (List.replicate 256 b)
theorem fullS_size (b : UInt8) : (fullS b).size = 256 := by unfold fullS; rw [mk_size, List.length_replicate]
theorem tl_full (b : UInt8) : tl (fullS b) = List.replicate 256 b := tl_mk _

/-! ## One sector -/
def flWhole (cut : Int) : Bool := decide (cut < 0) || decide (256 ≤ cut)
def flW (b : ByteArray) (cut : Int) (old : ByteArray) : ByteArray := if flWhole cut then b else mk ((tl b).take cut.toNat ++ (tl old).drop cut.toNat)
theorem flWhole_neg {c : Int} (h : c < 0) : flWhole c = true := by unfold flWhole; rw [decide_eq_true h]; rfl
theorem flWhole_far {c : Int} (h : 256 ≤ c) : flWhole c = true := by unfold flWhole; rw [decide_eq_true h, Bool.or_true]
theorem flWhole_cut {c : Nat} (h : c < 256) : flWhole (c : Int) = false := by unfold flWhole; rw [decide_eq_false (by omega), decide_eq_false (by omega)]; rfl
theorem flW_whole {b : ByteArray} {c : Int} (h : flWhole c = true) (old : ByteArray) : flW b c old = b := by unfold flW; rw [if_pos h]
theorem flW_cut {b : ByteArray} {c : Nat} (h : c < 256) (old : ByteArray) : flW b (c : Int) old = mk ((tl b).take c ++ (tl old).drop c) := by
  unfold flW
  rw [if_neg (by rw [flWhole_cut h]; decide), Int.toNat_natCast]
theorem tl_cut {b : ByteArray} {c : Nat} (h : c < 256) (old : ByteArray) : tl (flW b (c : Int) old) = (tl b).take c ++ (tl old).drop c := by rw [flW_cut h, tl_mk]
/-- As the landed code writes it. -/
theorem flW_code {b : ByteArray} {c : Nat} (h : c < 256) (old : ByteArray) : b.extract 0 c ++ old.extract (min c old.size) old.size = flW b (c : Int) old := by
  refine ba_ext ?_
  rw [tl_app, tl_extract, tl_extract, tl_cut h, List.drop_zero, Nat.sub_zero]
  congr 1
  rw [List.take_of_length_le (by rw [List.length_drop, tl_len]; exact Nat.le_refl _)]
  rcases Nat.le_total c old.size with hc | hc
  · rw [Nat.min_eq_left hc]
  · rw [Nat.min_eq_right hc, List.drop_of_length_le (by rw [tl_len]; exact Nat.le_refl _), List.drop_of_length_le (by rw [tl_len]; exact hc)]
/-- As the reference writes it. -/
theorem flW_ref {b : ByteArray} {c : Nat} (h : c < 256) {old : ByteArray} (hc : c < old.size) : b.extract 0 c ++ old.extract c old.size = flW b (c : Int) old := by
  rw [← flW_code h, Nat.min_eq_left (Nat.le_of_lt hc)]
theorem flW_ref0 {b : ByteArray} {c : Nat} (h : c < 256) {old : ByteArray} (hc : old.size ≤ c) : b.extract 0 c = flW b (c : Int) old := by
  refine ba_ext ?_
  rw [tl_extract, tl_cut h, List.drop_zero, Nat.sub_zero, List.drop_of_length_le (by rw [tl_len]; exact hc), List.append_nil]
theorem nat_of_cut {c : Int} (h : flWhole c = false) : ∃ k : Nat, c = (k : Int) ∧ k < 256 := by
  unfold flWhole at h
  rw [Bool.or_eq_false_iff, decide_eq_false_iff_not, decide_eq_false_iff_not] at h
  exact ⟨c.toNat, by omega, by omega⟩
theorem flW_size {b old : ByteArray} (hb : b.size = 256) (ho : old.size = 256) (c : Int) : (flW b c old).size = 256 := by
  cases hw : flWhole c with
  | true => rw [flW_whole hw, hb]
  | false =>
    obtain ⟨k, rfl, hk⟩ := nat_of_cut hw
    rw [← tl_len, tl_cut hk, List.length_append, List.length_take, List.length_drop, tl_len, tl_len]
    omega
theorem flW_max {b old : ByteArray} (hb : b.size = 256) {m : Nat} (hm : 256 ≤ m) (ho : old.size ≤ m) (c : Int) : (flW b c old).size ≤ m := by
  cases hw : flWhole c with
  | true => rw [flW_whole hw]; omega
  | false =>
    obtain ⟨k, rfl, hk⟩ := nat_of_cut hw
    rw [← tl_len, tl_cut hk, List.length_append, List.length_take, List.length_drop, tl_len, tl_len]
    omega
/-- A whole write over a cut one. -/
theorem flW_again (b : ByteArray) (s : ByteArray) : flW b (-1) s = b := flW_whole (flWhole_neg (by omega)) s
/-- Two cut writes of the same content. -/
theorem flW_two {b : ByteArray} (old : ByteArray) (hb : b.size = 256) (c d : Nat) : flW b (d : Int) (flW b (c : Int) old) = flW b ((max c d : Nat) : Int) old := by
  by_cases hd : d < 256
  · by_cases hc : c < 256
    · refine ba_ext ?_
      rw [tl_cut hd, tl_cut hc, tl_cut (by omega)]
      have hl : (tl b).length = 256 := by rw [tl_len, hb]
      rw [List.drop_append, List.length_take, hl, Nat.min_eq_left (by omega), List.drop_drop]
      rcases Nat.le_total c d with h | h
      · rw [Nat.max_eq_right h, List.drop_of_length_le (l := (tl b).take c) (by rw [List.length_take]; omega), List.nil_append]
        congr 2
        omega
      · rw [Nat.max_eq_left h, Nat.sub_eq_zero_of_le h, Nat.add_zero, ← List.append_assoc]
        congr 1
        rw [List.drop_take]
        have h2 := List.take_add (l := tl b) (i := d) (j := c - d)
        rw [show d + (c - d) = c from by omega] at h2
        exact h2.symm
    · rw [flW_whole (flWhole_far (c := (c : Int)) (by omega)), flW_whole (flWhole_far (c := ((max c d : Nat) : Int)) (by omega))]
      refine ba_ext ?_
      rw [tl_cut hd, List.take_append_drop]
  · rw [flW_whole (flWhole_far (c := (d : Int)) (by omega)), flW_whole (flWhole_far (c := ((max c d : Nat) : Int)) (by omega))]
theorem flW_same {b : ByteArray} (old : ByteArray) (hb : b.size = 256) (c : Int) : flW b c (flW b c old) = flW b c old := by
  cases hw : flWhole c with
  | true => rw [flW_whole hw, flW_whole hw]
  | false =>
    obtain ⟨k, rfl, _⟩ := nat_of_cut hw
    rw [flW_two _ hb, Nat.max_self]
/-- Byte i behind a write. -/
theorem flW_at (b : UInt8) (old : ByteArray) (c : Int) {i : Nat} (hi : i < 256) :
    (tl (flW (fullS b) c old))[i]? = if c < 0 ∨ (i : Int) < c then some b else (tl old)[i]? := by
  have hf : (tl (fullS b))[i]? = some b := by rw [tl_full, List.getElem?_replicate, if_pos hi]
  cases hw : flWhole c with
  | true =>
    rw [flW_whole hw, hf, if_pos]
    unfold flWhole at hw
    rw [Bool.or_eq_true, decide_eq_true_eq, decide_eq_true_eq] at hw
    omega
  | false =>
    obtain ⟨k, rfl, hk⟩ := nat_of_cut hw
    rw [tl_cut hk]
    have hl : ((tl (fullS b)).take k).length = k := by rw [List.length_take, tl_len, fullS_size]; omega
    by_cases h : i < k
    · rw [if_pos (.inr (by omega)), List.getElem?_append_left (by omega), List.getElem?_take, if_pos h, hf]
    · rw [if_neg (by omega), List.getElem?_append_right (by omega), hl, List.getElem?_drop]
      congr 1
      omega

/-! ## The memory -/
def flIn (fs : List ByteArray) (k : Int) : Bool := decide (0 ≤ k) && decide (k < (fs.length : Int))
def flAt (fs : List ByteArray) (k : Int) : ByteArray := fs.getD k.toNat ⟨#[]⟩
def flRead (fs : List ByteArray) (k : Int) : ByteArray := if flIn fs k then flAt fs k else ⟨#[]⟩
def flErr (fs : List ByteArray) (k : Int) : Int := if flIn fs k then 0 else 13
def flOk (fs : List ByteArray) (k : Int) (b : ByteArray) : Bool := flIn fs k && decide (b.size = 256)
def flWrite (fs : List ByteArray) (k : Int) (b : ByteArray) (c : Int) : List ByteArray := if flOk fs k b then fs.set k.toNat (flW b c (flAt fs k)) else fs
def flWErr (fs : List ByteArray) (k : Int) (b : ByteArray) : Int := if flIn fs k then (if b.size = 256 then 0 else 1) else 13
def flBad (s : ByteArray) : Bool := !decide (s.size = 256)
def flValid (fs : List ByteArray) : Bool := decide (fs.length ≤ 128) && !fs.any flBad
def flNewOk (n : Int) : Bool := decide (0 ≤ n) && decide (n ≤ 128)
def flNew (n : Int) : List ByteArray := if flNewOk n then List.replicate n.toNat (fullS 0) else []
def flNewE (n : Int) : Int := if flNewOk n then 0 else 1

section
variable {fs : List ByteArray} {k : Int} {b : ByteArray}
theorem flIn_neg (h : k < 0) : flIn fs k = false := by unfold flIn; rw [decide_eq_false (by omega)]; rfl
theorem flIn_far (h : (fs.length : Int) ≤ k) : flIn fs k = false := by unfold flIn; rw [decide_eq_false (p := k < _) (by omega), Bool.and_false]
theorem flIn_nat {j : Nat} (h : j < fs.length) : flIn fs (j : Int) = true := by unfold flIn; rw [decide_eq_true (by omega), decide_eq_true (by omega)]; rfl
theorem flIn_iff : flIn fs k = true ↔ ∃ j : Nat, k = (j : Int) ∧ j < fs.length := by
  unfold flIn
  rw [Bool.and_eq_true, decide_eq_true_eq, decide_eq_true_eq]
  exact ⟨fun h => ⟨k.toNat, by omega, by omega⟩, fun ⟨j, e, h⟩ => by omega⟩
theorem flAt_nat {j : Nat} {s : ByteArray} (h : fs[j]? = some s) : flAt fs (j : Int) = s := by unfold flAt; rw [Int.toNat_natCast, List.getD, h]; rfl
theorem flWrite_no (h : flIn fs k = false) (c : Int) : flWrite fs k b c = fs := by unfold flWrite flOk; rw [h]; rfl
theorem flWErr_no (h : flIn fs k = false) : flWErr fs k b = 13 := by unfold flWErr; rw [h]; rfl
theorem flWrite_len (h : b.size ≠ 256) (c : Int) : flWrite fs k b c = fs := by unfold flWrite flOk; rw [decide_eq_false h, Bool.and_false]; rfl
theorem flWErr_len (hi : flIn fs k = true) (h : b.size ≠ 256) : flWErr fs k b = 1 := by unfold flWErr; rw [hi, if_pos rfl, if_neg h]
theorem flWErr_yes (hi : flIn fs k = true) (h : b.size = 256) : flWErr fs k b = 0 := by unfold flWErr; rw [hi, if_pos rfl, if_pos h]
theorem flWrite_nat {j : Nat} {s : ByteArray} (hs : fs[j]? = some s) (h : b.size = 256) (c : Int) : flWrite fs (j : Int) b c = fs.set j (flW b c s) := by
  unfold flWrite flOk
  rw [flIn_nat (List.getElem?_eq_some_iff.1 hs).1, decide_eq_true h, flAt_nat hs, Int.toNat_natCast]
  rfl
theorem flRead_no (h : flIn fs k = false) : flRead fs k = ⟨#[]⟩ := by unfold flRead; rw [h]; rfl
theorem flErr_no (h : flIn fs k = false) : flErr fs k = 13 := by unfold flErr; rw [h]; rfl
theorem flRead_nat {j : Nat} {s : ByteArray} (hs : fs[j]? = some s) : flRead fs (j : Int) = s := by unfold flRead; rw [flIn_nat (List.getElem?_eq_some_iff.1 hs).1, flAt_nat hs]; rfl
theorem flErr_nat {j : Nat} (h : j < fs.length) : flErr fs (j : Int) = 0 := by unfold flErr; rw [flIn_nat h]; rfl
theorem flNew_no {n : Int} (h : flNewOk n = false) : flNew n = [] ∧ flNewE n = 1 := by unfold flNew flNewE; rw [h]; exact ⟨rfl, rfl⟩
theorem flNew_nat {n : Nat} (h : n ≤ 128) : flNew (n : Int) = List.replicate n (fullS 0) ∧ flNewE (n : Int) = 0 := by
  unfold flNew flNewE flNewOk
  rw [decide_eq_true (by omega), decide_eq_true (by omega), Int.toNat_natCast]
  exact ⟨rfl, rfl⟩
theorem flWrite_length (c : Int) : (flWrite fs k b c).length = fs.length := by unfold flWrite; split; exact List.length_set; rfl

/-! ## What valid memories keep -/
theorem flvalid_len (h : flValid fs = true) : fs.length ≤ 128 := by
  unfold flValid at h
  rw [Bool.and_eq_true, decide_eq_true_eq] at h
  exact h.1
theorem flvalid_size (h : flValid fs = true) {s : ByteArray} (hs : s ∈ fs) : s.size = 256 := by
  unfold flValid at h
  rw [Bool.and_eq_true, Bool.not_eq_true'] at h
  have h1 := List.any_eq_false.1 h.2 s hs
  unfold flBad at h1
  simpa using h1
theorem flvalid_of (hl : fs.length ≤ 128) (h : ∀ s ∈ fs, s.size = 256) : flValid fs = true := by
  unfold flValid
  rw [decide_eq_true hl, Bool.true_and, Bool.not_eq_true']
  refine List.any_eq_false.2 fun s hs => ?_
  unfold flBad
  rw [h s hs]
  decide
theorem flvalid_write (h : flValid fs = true) (hb : b.size = 256) (c : Int) : flValid (flWrite fs k b c) = true := by
  refine flvalid_of (by rw [flWrite_length]; exact flvalid_len h) fun s hs => ?_
  unfold flWrite at hs
  split at hs
  · rename_i ho
    rcases List.mem_or_eq_of_mem_set hs with hs | rfl
    · exact flvalid_size h hs
    · unfold flOk at ho
      rw [Bool.and_eq_true] at ho
      obtain ⟨j, rfl, hj⟩ := flIn_iff.1 ho.1
      have hg : fs[j]? = some fs[j] := List.getElem?_eq_getElem hj
      rw [flAt_nat hg]
      exact flW_size hb (flvalid_size h (List.getElem_mem hj)) c
  · exact flvalid_size h hs
theorem write_other (c : Int) {i : Nat} (h : (i : Int) ≠ k ∨ flWErr fs k b ≠ 0) : (flWrite fs k b c)[i]? = fs[i]? := by
  unfold flWrite
  split
  · rename_i ho
    unfold flOk at ho
    rw [Bool.and_eq_true, decide_eq_true_eq] at ho
    rcases h with h | h
    · obtain ⟨j, rfl, _⟩ := flIn_iff.1 ho.1
      rw [Int.toNat_natCast, List.getElem?_set_ne (by omega)]
    · exact absurd (flWErr_yes ho.1 ho.2) h
  · rfl
theorem write_at {j : Nat} {s : ByteArray} (hs : fs[j]? = some s) (h : b.size = 256) (c : Int) : (flWrite fs (j : Int) b c)[j]? = some (flW b c s) := by
  rw [flWrite_nat hs h, List.getElem?_set_self (List.getElem?_eq_some_iff.1 hs).1]
/-- Two writes of the same sector. -/
theorem write_two {j : Nat} {s : ByteArray} (hs : fs[j]? = some s) (h : b.size = 256) (c d : Int) : flWrite (flWrite fs (j : Int) b c) (j : Int) b d = fs.set j (flW b d (flW b c s)) := by
  rw [flWrite_nat (write_at hs h c) h, flWrite_nat hs h, List.set_set]
theorem write_again {j : Nat} (hj : j < fs.length) (h : b.size = 256) (c : Int) : flWrite (flWrite fs (j : Int) b c) (j : Int) b (-1) = flWrite fs (j : Int) b (-1) := by
  have hg : fs[j]? = some fs[j] := List.getElem?_eq_getElem hj
  rw [write_two hg h, flWrite_nat hg h, flW_again, flW_again]
theorem write_same {j : Nat} (hj : j < fs.length) (h : b.size = 256) (c : Int) : flWrite (flWrite fs (j : Int) b c) (j : Int) b c = flWrite fs (j : Int) b c := by
  have hg : fs[j]? = some fs[j] := List.getElem?_eq_getElem hj
  rw [write_two hg h, flWrite_nat hg h, flW_same _ h]
theorem write_max {j : Nat} (hj : j < fs.length) (h : b.size = 256) (c d : Nat) : flWrite (flWrite fs (j : Int) b (c : Int)) (j : Int) b (d : Int) = flWrite fs (j : Int) b ((max c d : Nat) : Int) := by
  have hg : fs[j]? = some fs[j] := List.getElem?_eq_getElem hj
  rw [write_two hg h, flWrite_nat hg h, flW_two _ h]
/-- A write of a valid memory finds its sector. -/
theorem werr_iff (h : b.size = 256) : decide (flWErr fs k b = 0) = flIn fs k := by
  unfold flWErr
  cases flIn fs k with
  | true => rw [if_pos rfl, if_pos h]; rfl
  | false => rfl
/-- A whole write of full sectors. -/
theorem write_full {l : List UInt8} {j : Nat} (hj : j < l.length) (x : UInt8) : flWrite (l.map fullS) (j : Int) (fullS x) (-1) = (l.set j x).map fullS := by
  have hg : (l.map fullS)[j]? = some (fullS l[j]) := by rw [List.getElem?_map, List.getElem?_eq_getElem hj]; rfl
  rw [flWrite_nat hg (fullS_size x), flW_again, List.map_set]
/-! ## Small memories -/
def flBig (s : ByteArray) : Bool := decide (300 < s.size)
def flSmall (fs : List ByteArray) : Bool := decide (fs.length ≤ 150) && !fs.any flBig
theorem small_len (h : flSmall fs = true) : fs.length ≤ 150 := by
  unfold flSmall at h
  rw [Bool.and_eq_true, decide_eq_true_eq] at h
  exact h.1
end
end Go.Proofs.YtfclifolniefpaaDoor

/-
  What flash.exists, flash.Read, flash.malformed, flash.Valid and flash.Same return, and slices.IndexFunc, ContainsFunc and Equal at sectors: contracts by walks. No condition but bounded lengths.
-/
namespace Go.Proofs.YtfclifolniefpaaDoor
open Go.RowKit

/-- Sectors as cells. -/
def svs (l : List ByteArray) : List Value := l.map .string
theorem svs_len (l : List ByteArray) : (svs l).length = l.length := List.length_map _
theorem svs_get {l : List ByteArray} {i : Nat} {s : ByteArray} (h : l[i]? = some s) : (svs l)[i]? = some (.string s) := by unfold svs; rw [List.getElem?_map, h]; rfl
theorem svs_one (l : List ByteArray) : ∀ u ∈ svs l, u.oneCell' = true := by
  intro u hu
  obtain ⟨s, _, rfl⟩ := List.mem_map.1 hu
  rfl
theorem Reads.str_len {w : World} {B n : Nat} {A : Option Addr} {l : List ByteArray} (h : Reads w B 1 A n (svs l)) : l.length = n := by
  have := h.1; rw [svs_len] at this; omega
theorem Reads.str_at {w : World} {B n : Nat} {A : Option Addr} {l : List ByteArray} (h : Reads w B 1 A n (svs l)) {i : Nat} (hi : i < n) : ∃ ad s, A = some ad ∧ ad.block < B ∧ l[i]? = some s ∧ w.cell? (ad.add i) = some (.string s) := by
  obtain ⟨ad, u, hA, hb, hu, hc⟩ := h.at_ hi
  have hl : i < l.length := by rw [h.str_len]; exact hi
  have hs : l[i]? = some l[i] := List.getElem?_eq_getElem hl
  rw [svs_get hs] at hu
  cases hu
  exact ⟨ad, l[i], hA, hb, hs, hc⟩
/-- The value of a flash memory. -/
def flv (A : Option Addr) (n c : Nat) : Value := .agg #[.slice A n c]
/-- A flash memory that reads as sectors. -/
def FlOK (w : World) (A : Option Addr) (n c : Nat) (fs : List ByteArray) : Prop := Reads w w.heap.size 1 A n (svs fs) ∧ n ≤ c ∧ n ≤ maxLen ∧ ∀ s ∈ fs, s.size ≤ 9223372036854775807
theorem FlOK.on {w w' : World} {A : Option Addr} {n c : Nat} {fs : List ByteArray} (h : FlOK w A n c fs) (hb : Below w.heap.size w w') : FlOK w' A n c fs := ⟨h.1.on hb, h.2.1, h.2.2⟩
theorem FlOK.len {w : World} {A : Option Addr} {n c : Nat} {fs : List ByteArray} (h : FlOK w A n c fs) : fs.length = n := h.1.str_len
/-- The block in which sectors lie. -/
def LIn (X : Nat → Prop) (A : Option Addr) (n : Nat) : Prop := 0 < n → ∀ ad, A = some ad → X ad.block
theorem LIn.nil_ {X : Nat → Prop} {A : Option Addr} : LIn X A 0 := fun h => absurd h (by omega)
theorem LIn.weak {X Y : Nat → Prop} {A : Option Addr} {n : Nat} (h : LIn X A n) (hy : ∀ b, X b → Y b) : LIn Y A n := fun h0 ad e => hy _ (h h0 ad e)
/-- A flash memory comes back, and an error; it lies in a block of X or in a new one. -/
def GivesLX (X : Nat → Prop) (fs : List ByteArray) (x : Int) (w : World) (e : Ending) (w' : World) : Prop :=
  ∃ A n c, e = .returned (.tuple #[flv A n c, .int .i64 x]) ∧ FlOK w' A n c fs ∧ LIn (fun b => X b ∨ w.heap.size ≤ b) A n ∧ Below w.heap.size w w'
/-- A flash memory comes back, and an error. -/
def GivesLE (fs : List ByteArray) (x : Int) (w : World) (e : Ending) (w' : World) : Prop :=
  ∃ A n c, e = .returned (.tuple #[flv A n c, .int .i64 x]) ∧ FlOK w' A n c fs ∧ Below w.heap.size w w'
def TellsSI (s : ByteArray) (x : Int) (w : World) (e : Ending) (w' : World) : Prop := e = .returned (.tuple #[.string s, .int .i64 x]) ∧ Below w.heap.size w w'
def TellsS (s : ByteArray) (w : World) (e : Ending) (w' : World) : Prop := e = .returned (.string s) ∧ Below w.heap.size w w'

set_option maxRecDepth 100000 in
set_option maxHeartbeats 1000000 in
theorem lexists_any (A : Option Addr) (n c : Nat) (fs : List ByteArray) (k : Int) (w : World) (hok : FlOK w A n c fs) :
    Calls Tryd.prog 24 #[flv A n c, .int .i64 k] w (TellsB (flIn fs k) w) := by
  have hlen := hok.len
  unfold flv
  clear hok
  by_cases hb : k < 0
  · have HE := Lib.hid (flIn_neg (fs := fs) hb)
    generalize flIn fs k = E at *
    clear hlen
    go_enter Tryd.func24, Tryd.ntmps24
    go_wp2_with (with_reducible refine wpList_box_row (o := ⟨some 2, _, _, _, _, _⟩) rfl _ _ rfl [.slice A n c] rfl ?_; intro w1 hrow1 hs1 hg1; have hf1 := hrow1.cell (j := 0) rfl; have hb1 := grown_below hg1 (Nat.le_refl _) (by simp))
    go_ret
    exact ⟨by rw [HE.out]; rfl, hb1⟩
  · obtain ⟨i, rfl⟩ : ∃ i : Nat, k = (i : Int) := ⟨k.toNat, by omega⟩
    by_cases hkn : i < n
    · have HE := Lib.hid (flIn_nat (fs := fs) (j := i) (by omega))
      generalize flIn fs i = E at *
      clear hlen
      go_enter Tryd.func24, Tryd.ntmps24
      go_wp2_with (with_reducible refine wpList_box_row (o := ⟨some 2, _, _, _, _, _⟩) rfl _ _ rfl [.slice A n c] rfl ?_; intro w1 hrow1 hs1 hg1; have hf1 := hrow1.cell (j := 0) rfl; have hb1 := grown_below hg1 (Nat.le_refl _) (by simp))
      go_ret
      exact ⟨by rw [HE.out]; rfl, hb1⟩
    · have HE := Lib.hid (flIn_far (fs := fs) (k := (i : Int)) (by omega))
      generalize flIn fs i = E at *
      clear hlen
      go_enter Tryd.func24, Tryd.ntmps24
      go_wp2_with (with_reducible refine wpList_box_row (o := ⟨some 2, _, _, _, _, _⟩) rfl _ _ rfl [.slice A n c] rfl ?_; intro w1 hrow1 hs1 hg1; have hf1 := hrow1.cell (j := 0) rfl; have hb1 := grown_below hg1 (Nat.le_refl _) (by simp))
      go_ret
      exact ⟨by rw [HE.out]; rfl, hb1⟩

set_option maxRecDepth 100000 in
set_option maxHeartbeats 1000000 in
theorem lread_any (A : Option Addr) (n c : Nat) (fs : List ByteArray) (k : Int) (w : World) (hok : FlOK w A n c fs) :
    Calls Tryd.prog 20 #[flv A n c, .int .i64 k] w (TellsSI (flRead fs k) (flErr fs k) w) := by
  have HX := fun W hW => Lib.hid (lexists_any A n c fs k W hW)
  have HLN := Lib.hid hok.len
  have HOK := Lib.hid hok
  unfold flv at *
  cases hx : flIn fs k with
  | false =>
    have HE := Lib.hid (flRead_no hx)
    have HO := Lib.hid (flErr_no hx)
    rw [hx] at HX
    clear hx hok
    generalize flRead fs k = E at *
    generalize flErr fs k = O at *
    go_enter Tryd.func20, Tryd.ntmps20
    go_wp2_with (with_reducible refine wpList_box_row (o := ⟨some 2, _, _, _, _, _⟩) rfl _ _ rfl [.slice A n c] rfl ?_; intro w1 hrow1 hs1 hg1; have hf1 := hrow1.cell (j := 0) rfl; have hb1 := grown_below hg1 (Nat.le_refl _) (by simp))
    refine (HX _ (HOK.out.on hb1)).out.mono ?_
    rintro e w2 ⟨rfl, hb2⟩
    go_wp2_with fail
    go_ret2
    exact ⟨by rw [HE.out, HO.out]; rfl, hb1.trans (hb2.mono hb1.size)⟩
  | true =>
    obtain ⟨i, rfl, hi⟩ := flIn_iff.1 hx
    rw [HLN.out] at hi
    obtain ⟨ad, s, rfl, hlt, hs, hc⟩ := hok.1.str_at hi
    have HE := Lib.hid (flRead_nat hs)
    have HO := Lib.hid (flErr_nat (fs := fs) (j := i) (by rw [HLN.out]; exact hi))
    rw [hx] at HX
    clear hx hs hok
    generalize flRead fs i = E at *
    generalize flErr fs i = O at *
    go_enter Tryd.func20, Tryd.ntmps20
    go_wp2_with (with_reducible refine wpList_box_row (o := ⟨some 2, _, _, _, _, _⟩) rfl _ _ rfl [.slice (some ad) n c] rfl ?_; intro w1 hrow1 hs1 hg1; have hf1 := hrow1.cell (j := 0) rfl; have hb1 := grown_below hg1 (Nat.le_refl _) (by simp))
    refine (HX _ (HOK.out.on hb1)).out.mono ?_
    rintro e w2 ⟨rfl, hb2⟩
    have hf2 := (hrow1.on hb2).cell (j := 0) rfl
    have B2 := hb1.trans (hb2.mono hb1.size)
    have hc2 := (B2.cell (by rw [block_of_add]; exact hlt)).trans hc
    go_wp2_with fail
    go_ret2
    exact ⟨by rw [HE.out, HO.out]; rfl, B2⟩

theorem str_ne {s t : ByteArray} (h : s ≠ t) : (s.toList == t.toList) = false := by
  rw [ByteArray.toList_eq, ByteArray.toList_eq]
  exact beq_eq_false_iff_ne.2 fun e => h (ba_ext e)
theorem take_snoc_same {α : Type} {l m : List α} {k : Nat} {x y : α} (hx : l[k]? = some x) (hy : m[k]? = some y) (h : l.take k = m.take k) (hxy : x = y) : l.take (k + 1) = m.take (k + 1) := by
  rw [List.take_add_one, List.take_add_one, hx, hy, h, hxy]
theorem ne_at {l m : List ByteArray} {k : Nat} {x y : ByteArray} (hx : l[k]? = some x) (hy : m[k]? = some y) (h : x ≠ y) : decide (l = m) = false := by
  refine decide_eq_false fun e => h ?_
  rw [e, hy] at hx
  exact (Option.some.inj hx).symm
theorem eq_of_take {l m : List ByteArray} {n : Nat} (hl : l.length = n) (hm : m.length = n) (h : l.take n = m.take n) : l = m := by
  rwa [List.take_of_length_le (by omega), List.take_of_length_le (by omega)] at h

end Go.Proofs.YtfclifolniefpaaDoor

/-
  What the law file's full returns: 256 equal bytes; slices.Clone at sectors; flash.writer's closure: contracts by walks. No condition but bounded lengths.
-/
namespace Go.Proofs.YtfclifolniefpaaDoor
open Go.RowKit

/-- The row behind k stores. -/
def fullRow (b : UInt8) (k : Nat) : List Value := bvs (List.replicate k b ++ List.replicate (256 - k) 0)
theorem fullRow_0 (b : UInt8) : fullRow b 0 = List.replicate 256 (.int .u8 0) := by
  unfold fullRow bvs
  rw [List.replicate_zero, List.nil_append, List.map_replicate]
  rfl
theorem fullRow_len (b : UInt8) {k : Nat} (h : k ≤ 256) : (fullRow b k).length = 256 := by
  unfold fullRow
  rw [bvs_length, List.length_append, List.length_replicate, List.length_replicate]
  omega
theorem fullRow_set (b : UInt8) {k : Nat} (h : k < 256) : (fullRow b k).set k (bv b) = fullRow b (k + 1) := by
  unfold fullRow bvs
  rw [← List.map_set]
  congr 1
  rw [List.set_append_right _ _ (by rw [List.length_replicate]; exact Nat.le_refl _), List.length_replicate, Nat.sub_self]
  obtain ⟨m, hm⟩ : ∃ m, 256 - k = m + 1 := ⟨255 - k, by omega⟩
  rw [hm, List.replicate_succ, List.set_cons_zero, List.replicate_succ', List.append_assoc, show 256 - (k + 1) = m from by omega]
  rfl
theorem fullRow_all (b : UInt8) : fullRow b 256 = bvs (List.replicate 256 b) := by
  unfold fullRow
  rw [show 256 - 256 = 0 from rfl, List.replicate_zero, List.append_nil]

theorem info_st : (Tryd.prog.info? 9).map (fun i => (i.zero, i.size, i.bytes)) = some (some (.string ⟨#[]⟩), 1, 16) := by kernel_rfl

set_option maxRecDepth 100000 in
set_option maxHeartbeats 1000000 in
theorem cloneS_any (A : Option Addr) (n c : Nat) (fs : List ByteArray) (hn : n ≤ 1000000) (w : World) (hr : Reads w w.heap.size 1 A n (svs fs)) :
    Calls Tryd.prog 23 #[.slice A n c] w fun e w' => ∃ v, e = .returned v ∧ w'.ownsRow w.heap.size 9 1 v n (svs fs) ∧ Below w.heap.size w w' := by
  obtain ⟨i0, hi0, hz0, hz1, hz2⟩ := info_parts info_st
  have HO := Lib.hid (svs_one fs)
  rcases A with _ | ad
  · have h0 : n = 0 := by
      rcases Nat.eq_zero_or_pos n with h | h
      · exact h
      · obtain ⟨_, h, _⟩ := hr.2 h
        cases h
    subst h0
    have hx : svs fs = [] := List.eq_nil_of_length_eq_zero (by simpa using hr.1)
    rw [hx]
    have hq : (binOp .eql 26 (.slice none 0 c) (.slice none 0 0)).run Tryd.prog w = .ok (.bool true) w := Lib.run_eql_slice_nil w _ _ none 0 c 0 0 Tryd.underlying26
    go_enter Tryd.func23, Tryd.ntmps23
    go_wp2_with fail
    go_ret
    exact ⟨_, rfl, World.ownsRow_nil _ _ _ _, Below.refl _ _⟩
  · have hq : (binOp .eql 26 (.slice (some ad) n c) (.slice none 0 0)).run Tryd.prog w = .ok (.bool false) w := Lib.run_eql_slice_nil w _ _ (some ad) n c 0 0 Tryd.underlying26
    go_enter Tryd.func23, Tryd.ntmps23
    go_wp2_with (at_builtin; refine wpList_append_src _ rfl (.tmp 5) (.tmp 6) _ _ rfl w.heap.size 9 i0 _ 1 16 Tryd.underlying26 hi0 hz0 hz1 hz2 rfl _ _ _ rfl (own_empty w 9 1 w.heap.size (Nat.le_refl _)) n _ (Src.ofReads _ Tryd.underlying26 (hr.alloc (Nat.le_refl _) _) HO.out) (by unfold maxLen; omega) (by omega) (by simp) ?_; intro v4 w4 hown4 hb4)
    go_ret
    rw [Nat.zero_add, List.nil_append] at hown4
    exact ⟨_, rfl, hown4, ((Below.refl _ _).alloc (Nat.le_refl _) _).trans hb4⟩

/-- The closure that writer returns, at the block of its two boxes. -/
def wrv (g : Nat) : Value := .func (.func 37) #[] #[.pointer (some ⟨g + 1, 0, none⟩), .pointer (some ⟨g, 0, none⟩)]
def WrAt (w : World) (g : Nat) (b : ByteArray) (cut : Int) : Prop := Row w g 9 [.string b] ∧ Row w (g + 1) 3 [.int .i64 cut]
theorem WrAt.on {w w' : World} {g : Nat} {b : ByteArray} {cut : Int} (h : WrAt w g b cut) (hb : Below w.heap.size w w') : WrAt w' g b cut := ⟨h.1.on hb, h.2.on hb⟩

set_option maxRecDepth 100000 in
set_option maxHeartbeats 1000000 in
theorem writer_any (b : ByteArray) (cut : Int) (w : World) : Calls Tryd.prog 25 #[.string b, .int .i64 cut] w fun e w' => e = .returned (wrv w.heap.size) ∧ WrAt w' w.heap.size b cut ∧ Below w.heap.size w w' := by
  go_enter Tryd.func25, Tryd.ntmps25
  go_wp2_with fail
  go_ret
  refine ⟨rfl, ⟨?_, ?_⟩, ?_⟩
  · exact (row_alloc w 9 [.string b]).on ((Below.refl _ _).alloc (Nat.le_refl _) _)
  · have h := row_alloc (w.alloc (.cells [.string b].toArray 9)) 3 [.int .i64 cut]
    rw [show (w.alloc (.cells [.string b].toArray 9)).heap.size = w.heap.size + 1 by simp] at h
    exact h
  · exact ((Below.refl _ _).alloc (Nat.le_refl _) _).alloc (by simp) _

set_option maxRecDepth 100000 in
set_option maxHeartbeats 1000000 in
theorem written_any (b : ByteArray) (cut : Int) (old : ByteArray) (ho : old.size ≤ 9223372036854775807) (hb256 : b.size = 256) (g : Nat) (w : World) (hw : WrAt w g b cut) :
    Calls Tryd.prog 37 #[.string old, .pointer (some ⟨g + 1, 0, none⟩), .pointer (some ⟨g, 0, none⟩)] w (TellsS (flW b cut old) w) := by
  have c1 := hw.1.cell (j := 0) rfl
  have c2 := hw.2.cell (j := 0) rfl
  by_cases h0 : cut < 0
  · have HE := Lib.hid (flW_whole (b := b) (flWhole_neg h0) old)
    generalize flW b cut old = E at *
    go_enter Tryd.func37, Tryd.ntmps37
    go_wp2_with fail
    go_ret
    exact ⟨by rw [HE.out]; rfl, Below.refl _ _⟩
  · by_cases h256 : 256 ≤ cut
    · have HE := Lib.hid (flW_whole (b := b) (flWhole_far h256) old)
      generalize flW b cut old = E at *
      go_enter Tryd.func37, Tryd.ntmps37
      go_wp2_with fail
      go_ret
      exact ⟨by rw [HE.out]; rfl, Below.refl _ _⟩
    · obtain ⟨k, rfl⟩ : ∃ k : Nat, cut = (k : Int) := ⟨cut.toNat, by omega⟩
      by_cases hs : old.size < k
      · have HE := Lib.hid (flW_ref0 (b := b) (c := k) (by omega) (old := old) (by omega))
        generalize flW b k old = E at *
        go_enter Tryd.func37, Tryd.ntmps37
        go_wp2_with fail
        go_quiet (fail)
        go_wp2_with fail
        go_ret
        exact ⟨by rw [← HE.out]; rfl, below_drewN (Below.refl _ _) nq⟩
      · have HE := Lib.hid (flW_code (b := b) (c := k) (by omega) old)
        rw [Nat.min_eq_left (by omega)] at HE
        generalize flW b k old = E at *
        go_enter Tryd.func37, Tryd.ntmps37
        go_wp2_with fail
        go_quiet (fail)
        go_wp2_with fail
        go_ret
        exact ⟨by rw [← HE.out]; rfl, below_drewN (Below.refl _ _) nq⟩
end Go.Proofs.YtfclifolniefpaaDoor

/-
  What flash.Write returns: a contract by a walk. Condition: at most a million sectors.
-/
namespace Go.Proofs.YtfclifolniefpaaDoor
open Go.RowKit

/-- The head of a row reads as sectors. -/
theorem reads_head {w : World} {g n : Nat} {e : TypeId} {cs : List Value} {l : List ByteArray} (h : Row w g e cs) (hn : n ≤ cs.length) (ht : cs.take n = svs l) : Reads w w.heap.size 1 (some ⟨g, 0, none⟩) n (svs l) := by
  have h1 := (h.reads (size := 1) (n := cs.length) (by omega)).take (k := n) hn
  rw [Nat.mul_one, ht] at h1
  exact h1
theorem svs_set (l : List ByteArray) (k : Nat) (s : ByteArray) : (svs l).set k (.string s) = svs (l.set k s) := by unfold svs; rw [List.map_set]
theorem own_kept_lt {w w' : World} {base n g : Nat} {e : TypeId} {v : Value} {xs : List Value} (h : w.ownsRow base e 1 v n xs) (hg : w.grownBy w' (some g)) (hlt : g < base) : w'.ownsRow base e 1 v n xs :=
  h.kept hg (by
    cases hv : v.ownBlock with
    | none => exact .inl rfl
    | some k => exact .inr (fun e => by cases e; have := (h.lt g hv).1; omega))
/-- A row of the call's own that is not empty. -/
theorem own_rowc {w : World} {base n c : Nat} {A : Option Addr} {e : TypeId} {xs : List Value} (h : w.ownsRow base e 1 (.slice A n c) n xs) (hn : 0 < n) :
    ∃ g cs, A = some ⟨g, 0, none⟩ ∧ base ≤ g ∧ Row w g e cs ∧ n ≤ cs.length ∧ cs.take n = xs ∧ cs.length = c ∧ c ≤ maxLen := by
  obtain ⟨h1, h2⟩ := h
  rcases h2 with ⟨hv, hx⟩ | ⟨g, cap, cur, hv, hg, hh, hnc, hm, hcs, ht⟩
  · injection hv with e1 e2 e3
    omega
  · injection hv with e1 e2 e3
    rw [Nat.mul_one] at hcs ht
    exact ⟨g, cur.toList, e1, hg, hh, by rw [Array.length_toList]; omega, ht, by rw [Array.length_toList]; omega, by omega⟩
theorem own_row {w : World} {base n c : Nat} {A : Option Addr} {e : TypeId} {xs : List Value} (h : w.ownsRow base e 1 (.slice A n c) n xs) (hn : 0 < n) :
    ∃ g cs, A = some ⟨g, 0, none⟩ ∧ base ≤ g ∧ Row w g e cs ∧ n ≤ cs.length ∧ cs.take n = xs := by
  obtain ⟨g, cs, h1, h2, h3, h4, h5, _⟩ := own_rowc h hn
  exact ⟨g, cs, h1, h2, h3, h4, h5⟩
theorem own_of_row {w : World} {base g n c : Nat} {e : TypeId} {cs xs : List Value} (h : Row w g e cs) (hb : base ≤ g) (hc : cs.length = c) (hn : n ≤ c) (hm : c ≤ maxLen) (ht : cs.take n = xs) : w.ownsRow base e 1 (.slice (some ⟨g, 0, none⟩) n c) n xs :=
  ⟨by rw [← ht, List.length_take]; omega, .inr ⟨g, c, cs.toArray, rfl, hb, h, hn, hm, by simpa using hc, by simpa using ht⟩⟩
/-- A memory of the call's own comes back, and an error. -/
def GivesLO (fs : List ByteArray) (x : Int) (w : World) (e : Ending) (w' : World) : Prop :=
  ∃ A n c, e = .returned (.tuple #[flv A n c, .int .i64 x]) ∧ w'.ownsRow w.heap.size 9 1 (.slice A n c) n (svs fs) ∧ (∀ s ∈ fs, s.size ≤ 9223372036854775807) ∧ Below w.heap.size w w'
theorem own_flok {w : World} {base n c : Nat} {A : Option Addr} {fs : List ByteArray} (h : w.ownsRow base 9 1 (.slice A n c) n (svs fs)) (hs : ∀ s ∈ fs, s.size ≤ 9223372036854775807) : FlOK w A n c fs := by
  obtain ⟨A', c', hv, hn, hm, hr⟩ := own_form h
  injection hv with e1 e2 e3
  subst e1 e3
  exact ⟨hr, hn, Nat.le_trans hn hm, hs⟩

set_option maxRecDepth 100000 in
set_option maxHeartbeats 4000000 in
theorem lwrite_own (A : Option Addr) (n c : Nat) (fs : List ByteArray) (k : Int) (b : ByteArray) (cut : Int) (w : World) (hok : FlOK w A n c fs) (hn : n ≤ 1000000) :
    Calls Tryd.prog 16 #[flv A n c, .int .i64 k, .string b, .int .i64 cut] w (GivesLO (flWrite fs k b cut) (flWErr fs k b) w) := by
  have HX := fun A n c W hW => Lib.hid (lexists_any A n c fs k W hW)
  have HCL := fun W hW => Lib.hid (cloneS_any A n c fs hn W hW)
  have HWR := fun W => Lib.hid (writer_any b cut W)
  have HLN := Lib.hid hok.len
  have HSZ := Lib.hid hok.2.2.2
  have hr := hok.1
  have hnm := hok.2.2.1
  unfold GivesLO flv at *
  clear hok
  cases hx : flIn fs k with
  | false =>
    have HE := Lib.hid (flWrite_no (b := b) hx cut)
    have HO := Lib.hid (flWErr_no (b := b) hx)
    rw [hx] at HX
    clear hx
    generalize flWrite fs k b cut = E at *
    generalize flWErr fs k b = O at *
    go_enter Tryd.func16, Tryd.ntmps16
    go_wp2_with (first
      | (with_reducible refine wpList_box_row (o := ⟨some 4, _, _, _, _, _⟩) rfl _ _ rfl [.slice A n c] rfl ?_; intro w1 r1 s1 g1)
      | (with_reducible refine wpList_alloc_row (o := ⟨some 8, _, _, _, _, _⟩) rfl _ rfl [.slice none 0 0] (by kernel_rfl) ?_; intro w2 r2 s2 g2; have q1 := r1.kept g2 (by simp); have c1 := q1.cell (j := 0) rfl; have b2 := below_kept (grown_below g1 (Nat.le_refl _) (by simp)) g2 (Nat.le_of_lt s1) (by simp)))
    refine (HCL _ (hr.on b2)).out.mono ?_
    rintro e w3 ⟨v, rfl, hown, b3⟩
    have q3 := q1.on b3
    have r3 := r2.on b3
    have B3 := b2.trans (b3.mono b2.size)
    obtain ⟨A3, c3, rfl, hnc3, hcm3, hr3⟩ := own_form hown
    clear c1 hr3
    go_wp2_with ((with_reducible refine wpList_at ⟨none, .store _ (.tmp 14) _, _, _, _, _⟩ ?_); refine wpList_store_elem rfl _ _ _ rfl w.heap.size 0 rfl _ _ q3 (.slice A3 n c3) rfl rfl (by simp) (by kernel_rfl) ?_; intro w4 q4 g4; have c4 := q4.cell (j := 0) rfl; have hown4 := own_kept_lt hown g4 (by omega); have r4 := r3.kept g4 (by simp; omega); have B4 := below_kept B3 g4 B3.size (by rintro q hq; cases hq; exact Nat.le_refl _))
    refine (HX A3 n c3 w4 ⟨Reads.of_own hown4, hnc3, hnm, HSZ.out⟩).out.mono ?_
    rintro e w5 ⟨rfl, b5⟩
    have c5 := (q4.on b5).cell (j := 0) rfl
    have r5 := r4.on b5
    have hown5 := own_below hown4 b5
    have B5 := B4.trans (b5.mono B4.size)
    go_wp2_with (with_reducible refine wpList_at ⟨none, .store _ (.tmp 8) _, _, _, _, _⟩ ?_; refine wpList_store_all rfl _ _ _ rfl w1.heap.size rfl _ _ r5 [.slice A3 n c3] rfl (slice_one _ _ _) rfl (by kernel_rfl) ?_; intro w6 r6 g6; have f6 := r6.cell (j := 0) rfl)
    have hload := run_loadVar_at (P := Tryd.prog) w6 28 ⟨w1.heap.size, 0, none⟩ [.slice A3 n c3] r6.cells _ Tryd.underlying28 rfl (by kernel_rfl)
    refine bodyPost_ret (results_cellE Tryd.results16 _ _ _ _ rfl hload) rfl ⟨A3, n, c3, by rw [HO.out]; rfl, by rw [HE.out]; exact own_base (own_kept_lt hown5 g6 r2.lt) b2.size, by rw [HE.out]; exact HSZ.out, below_kept B5 g6 B5.size (by rintro q hq; cases hq; exact Nat.le_of_lt s1)⟩
  | true =>
    obtain ⟨i, rfl, hi⟩ := flIn_iff.1 hx
    rw [HLN.out] at hi
    by_cases h256 : b.size = 256
    · obtain ⟨s, hs⟩ : ∃ s, fs[i]? = some s := ⟨_, List.getElem?_eq_getElem (by rw [HLN.out]; exact hi)⟩
      have HE := Lib.hid (flWrite_nat hs h256 cut)
      have HO := Lib.hid (flWErr_yes hx h256)
      have HSS := Lib.hid hs
      have HS9 := Lib.hid (HSZ.out s (List.mem_of_getElem? hs))
      have HWN := fun g W h => Lib.hid (written_any b cut s HS9.out h256 g W h)
      have HSM : Hid (∀ x ∈ fs.set i (flW b cut s), x.size ≤ 9223372036854775807) := Lib.hid fun x hx => by
        rcases List.mem_or_eq_of_mem_set hx with hx | rfl
        · exact HSZ.out x hx
        · exact flW_max h256 (by omega) HS9.out cut
      rw [hx] at HX
      clear hx hs
      generalize flWrite fs i b cut = E at *
      generalize flWErr fs i b = O at *
      generalize flW b cut s = F at *
      have HB := Lib.hid h256
      have hb : ((b.size : Int) != 256) = false := by simp; omega
      clear h256
      go_enter Tryd.func16, Tryd.ntmps16
      go_wp2_with (first
        | (with_reducible refine wpList_box_row (o := ⟨some 4, _, _, _, _, _⟩) rfl _ _ rfl [.slice A n c] rfl ?_; intro w1 r1 s1 g1)
        | (with_reducible refine wpList_alloc_row (o := ⟨some 8, _, _, _, _, _⟩) rfl _ rfl [.slice none 0 0] (by kernel_rfl) ?_; intro w2 r2 s2 g2; have q1 := r1.kept g2 (by simp); have c1 := q1.cell (j := 0) rfl; have b2 := below_kept (grown_below g1 (Nat.le_refl _) (by simp)) g2 (Nat.le_of_lt s1) (by simp)))
      refine (HCL _ (hr.on b2)).out.mono ?_
      rintro e w3 ⟨v, rfl, hown, b3⟩
      have q3 := q1.on b3
      have r3 := r2.on b3
      have B3 := b2.trans (b3.mono b2.size)
      obtain ⟨A3, c3, rfl, hnc3, hcm3, hr3⟩ := own_form hown
      clear c1 hr3
      go_wp2_with ((with_reducible refine wpList_at ⟨none, .store _ (.tmp 14) _, _, _, _, _⟩ ?_); refine wpList_store_elem rfl _ _ _ rfl w.heap.size 0 rfl _ _ q3 (.slice A3 n c3) rfl rfl (by simp) (by kernel_rfl) ?_; intro w4 q4 g4; have c4 := q4.cell (j := 0) rfl; have hown4 := own_kept_lt hown g4 (by omega); have r4 := r3.kept g4 (by simp; omega); have B4 := below_kept B3 g4 B3.size (by rintro q hq; cases hq; exact Nat.le_refl _))
      refine (HX A3 n c3 w4 ⟨Reads.of_own hown4, hnc3, hnm, HSZ.out⟩).out.mono ?_
      rintro e w5 ⟨rfl, b5⟩
      have q5 := q4.on b5
      have c5 := q5.cell (j := 0) rfl
      have r5 := r4.on b5
      have hown5 := own_below hown4 b5
      have B5 := B4.trans (b5.mono B4.size)
      clear c4
      go_wp2_with fail
      refine (HWR w5).out.mono ?_
      rintro e w6 ⟨rfl, hwr, b6⟩
      have q6 := q5.on b6
      have c6 := q6.cell (j := 0) rfl
      have r6 := r5.on b6
      have hown6 := own_below hown5 b6
      have B6 := B5.trans (b6.mono B5.size)
      obtain ⟨G, cs, rfl, hG, hrow6, hncs, htk, hcc, hcm⟩ := own_rowc hown6 (by omega)
      unfold wrv
      clear c5
      go_wp2_with fail
      have HCI : Hid (cs[i]? = some (.string s)) := Lib.hid (by
        have h1 : (cs.take n)[i]? = some (.string s) := by rw [htk]; exact svs_get HSS.out
        rwa [List.getElem?_take, if_pos hi] at h1)
      have HCL2 : Hid (i < cs.length) := Lib.hid (by omega)
      have HCT : Hid ((cs.set i (.string F)).take n = svs (fs.set i F)) := Lib.hid (by rw [List.take_set, htk, svs_set])
      have HCC := Lib.hid hcc
      clear hcc hncs
      refine wp_region_plan (fun w' => Row w' w.heap.size 28 [.slice (some ⟨G, 0, none⟩) n c3]) (.take 0 <| .take 1 <| .take 2 <| .take 3 <| .take 4 <| .take 5 <| .take 6 <| .take 7 <| .one 8 <| .one 9 <| .take 10 <| .one 11 <| .done) (by kernel_rfl) (by kernel_rfl) (by kernel_rfl) (fun _ _ _ _ _ h => h) q6.drew ?_
      repeat (refine plan_take _ rfl ?_; (first | (refine wpQuiet_valueG (o := ⟨some 28, _, _, _, _, _⟩) rfl _ (by intro _ h; exact exec_load1 _ 26 _ rfl ⟨w.heap.size, 0, none⟩ rfl _ (h.cell (j := 0) rfl) _ Tryd.underlying26 rfl) (wpQuiet_nil ?_); simp only [Act.put, List.setIfInBounds_toArray, List.set_cons_zero, List.set_cons_succ]) | (refine wpQuiet_valueG (o := ⟨some 32, _, _, _, _, _⟩) rfl _ (by intro _ h; exact exec_load1 _ 26 _ rfl ⟨w.heap.size, 0, none⟩ rfl _ (h.cell (j := 0) rfl) _ Tryd.underlying26 rfl) (wpQuiet_nil ?_); simp only [Act.put, List.setIfInBounds_toArray, List.set_cons_zero, List.set_cons_succ]) | (go_big_quiet_step ((intros; rfl)); refine wpQuiet_nil ?_)))
      refine plan_one _ rfl fun K hK => ?_
      refine step_valueG (o := ⟨some 35, _, _, _, _, _⟩) rfl _ _ (by exact exec_load1 _ 9 _ rfl ⟨G, i, none⟩ rfl _ (hrow6.drew.cell HCI.out) _ Tryd.underlying9 rfl) ?_
      refine hK _ _ q6.drew ?_
      clear hK K
      simp only [Act.put, List.setIfInBounds_toArray, List.set_cons_zero, List.set_cons_succ]
      refine plan_one _ rfl fun K hK => ?_
      go_simp
      refine (HWN w5.heap.size w6.drew ⟨hwr.1.drew, hwr.2.drew⟩).out.mono ?_
      rintro e w7 ⟨rfl, b7⟩
      have q7 := q6.drew.on b7
      have r7 := r6.drew.on b7
      have hrow7 := hrow6.drew.on b7
      have B7 := B6.drew.trans (b7.mono B6.drew.size)
      refine hK _ _ q7 ?_
      clear hK K
      repeat (refine plan_take _ rfl ?_; (go_big_quiet_step ((intros; rfl)); refine wpQuiet_nil ?_))
      refine plan_one _ rfl fun K hK => ?_
      refine step_store_elem rfl _ _ _ rfl G i rfl _ _ hrow7 (.string F) rfl rfl HCL2.out (by kernel_rfl) ?_
      intro w8 hrow8 g8
      have q8 := q7.kept g8 (by simp; omega)
      have r8 := r7.kept g8 (by simp; omega)
      have B8 := below_kept B7 g8 B7.size (by rintro k hk; cases hk; omega)
      refine hK _ _ q8 ?_
      clear hK K
      refine plan_done ?_
      have c8 := q8.cell (j := 0) rfl
      go_wp2_with (with_reducible refine wpList_at ⟨none, .store _ (.tmp 8) _, _, _, _, _⟩ ?_; refine wpList_store_all rfl _ _ _ rfl w1.heap.size rfl _ _ r8 [.slice (some ⟨G, 0, none⟩) n c3] rfl (slice_one _ _ _) rfl (by kernel_rfl) ?_; intro w9 r9 g9)
      have hload := run_loadVar_at (P := Tryd.prog) w9 28 ⟨w1.heap.size, 0, none⟩ [.slice (some ⟨G, 0, none⟩) n c3] r9.cells _ Tryd.underlying28 rfl (by kernel_rfl)
      have hrow9 := hrow8.kept g9 (by simp; have := r2.lt; omega)
      refine bodyPost_ret (results_cellE Tryd.results16 _ _ _ _ rfl hload) rfl ⟨some ⟨G, 0, none⟩, n, c3, by rw [HO.out]; rfl, by rw [HE.out]; exact own_of_row hrow9 (Nat.le_trans b2.size hG) (by rw [List.length_set]; exact HCC.out) hnc3 hcm HCT.out, by rw [HE.out]; exact HSM.out, below_kept B8 g9 B8.size (by rintro q hq; cases hq; exact Nat.le_of_lt s1)⟩
    · have HE := Lib.hid (flWrite_len (fs := fs) (k := (i : Int)) h256 cut)
      have HO := Lib.hid (flWErr_len hx h256)
      rw [hx] at HX
      clear hx
      generalize flWrite fs i b cut = E at *
      generalize flWErr fs i b = O at *
      have hb : ((b.size : Int) != 256) = true := by simp; omega
      clear h256
      go_enter Tryd.func16, Tryd.ntmps16
      go_wp2_with (first
        | (with_reducible refine wpList_box_row (o := ⟨some 4, _, _, _, _, _⟩) rfl _ _ rfl [.slice A n c] rfl ?_; intro w1 r1 s1 g1)
        | (with_reducible refine wpList_alloc_row (o := ⟨some 8, _, _, _, _, _⟩) rfl _ rfl [.slice none 0 0] (by kernel_rfl) ?_; intro w2 r2 s2 g2; have q1 := r1.kept g2 (by simp); have c1 := q1.cell (j := 0) rfl; have b2 := below_kept (grown_below g1 (Nat.le_refl _) (by simp)) g2 (Nat.le_of_lt s1) (by simp)))
      refine (HCL _ (hr.on b2)).out.mono ?_
      rintro e w3 ⟨v, rfl, hown, b3⟩
      have q3 := q1.on b3
      have r3 := r2.on b3
      have B3 := b2.trans (b3.mono b2.size)
      obtain ⟨A3, c3, rfl, hnc3, hcm3, hr3⟩ := own_form hown
      clear c1 hr3
      go_wp2_with ((with_reducible refine wpList_at ⟨none, .store _ (.tmp 14) _, _, _, _, _⟩ ?_); refine wpList_store_elem rfl _ _ _ rfl w.heap.size 0 rfl _ _ q3 (.slice A3 n c3) rfl rfl (by simp) (by kernel_rfl) ?_; intro w4 q4 g4; have c4 := q4.cell (j := 0) rfl; have hown4 := own_kept_lt hown g4 (by omega); have r4 := r3.kept g4 (by simp; omega); have B4 := below_kept B3 g4 B3.size (by rintro q hq; cases hq; exact Nat.le_refl _))
      refine (HX A3 n c3 w4 ⟨Reads.of_own hown4, hnc3, hnm, HSZ.out⟩).out.mono ?_
      rintro e w5 ⟨rfl, b5⟩
      have c5 := (q4.on b5).cell (j := 0) rfl
      have r5 := r4.on b5
      have hown5 := own_below hown4 b5
      have B5 := B4.trans (b5.mono B4.size)
      go_wp2_with (with_reducible refine wpList_at ⟨none, .store _ (.tmp 8) _, _, _, _, _⟩ ?_; refine wpList_store_all rfl _ _ _ rfl w1.heap.size rfl _ _ r5 [.slice A3 n c3] rfl (slice_one _ _ _) rfl (by kernel_rfl) ?_; intro w6 r6 g6; have f6 := r6.cell (j := 0) rfl)
      have hload := run_loadVar_at (P := Tryd.prog) w6 28 ⟨w1.heap.size, 0, none⟩ [.slice A3 n c3] r6.cells _ Tryd.underlying28 rfl (by kernel_rfl)
      refine bodyPost_ret (results_cellE Tryd.results16 _ _ _ _ rfl hload) rfl ⟨A3, n, c3, by rw [HO.out]; rfl, by rw [HE.out]; exact own_base (own_kept_lt hown5 g6 r2.lt) b2.size, by rw [HE.out]; exact HSZ.out, below_kept B5 g6 B5.size (by rintro q hq; cases hq; exact Nat.le_of_lt s1)⟩

theorem lwrite_any (A : Option Addr) (n c : Nat) (fs : List ByteArray) (k : Int) (b : ByteArray) (cut : Int) (w : World) (hok : FlOK w A n c fs) (hn : n ≤ 1000000) :
    Calls Tryd.prog 16 #[flv A n c, .int .i64 k, .string b, .int .i64 cut] w (GivesLE (flWrite fs k b cut) (flWErr fs k b) w) :=
  (lwrite_own A n c fs k b cut w hok hn).mono fun _ _ ⟨A, n, c, h1, h2, h3, h4⟩ => ⟨A, n, c, h1, own_flok h2 h3, h4⟩
end Go.Proofs.YtfclifolniefpaaDoor
