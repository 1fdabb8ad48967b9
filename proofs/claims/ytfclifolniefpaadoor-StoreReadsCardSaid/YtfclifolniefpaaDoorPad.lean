/-
  Laws of the plain functions of layer 2: padding, blocks, bytes of a state. Plain lists alone. No condition.
-/
import Derived.Test.YtfclifolniefpaaDoorShaG
namespace Go.Proofs.YtfclifolniefpaaDoor

/-- The first k of the eight bytes of a number, greatest first. -/
def beK (n k : Nat) : List UInt8 := (List.range k).map fun j => UInt8.ofNat (n / 2 ^ (56 - 8 * j))
theorem beK_succ (n k : Nat) : beK n (k + 1) = beK n k ++ [UInt8.ofNat (n / 2 ^ (56 - 8 * k))] := by
  unfold beK
  rw [List.range_succ, List.map_append]
  rfl
theorem beK_len (n k : Nat) : (beK n k).length = k := by simp [beK]
theorem be64_eq (n : Nat) : be64 n = beK n 8 := by
  unfold be64
  simp only [beK_succ]
  simp [beK]
theorem zeros_lt (n : Nat) : zerosN n < 64 := by unfold zerosN; omega
theorem zeros_more (n j : Nat) (h : j ≤ zerosN n) : (n + 1 + j) % 64 = 56 ↔ j = zerosN n := by unfold zerosN at *; omega
theorem padding_len (n : Nat) : (padding n).length = 9 + zerosN n := by
  unfold padding
  rw [be64_eq]
  simp [beK_len]
  omega
theorem padded_len (l : List UInt8) : (padded l).length = l.length + 9 + zerosN l.length := by
  unfold padded
  rw [List.length_append, padding_len]
  omega
theorem padded_64 (l : List UInt8) : (padded l).length % 64 = 0 := by
  rw [padded_len]
  unfold zerosN
  omega
theorem padded_eq (l : List UInt8) : padded l = l ++ [128] ++ List.replicate (zerosN l.length) 0 ++ beK (8 * l.length) 8 := by
  unfold padded padding
  rw [be64_eq]
  simp

theorem blocksN_zero (s : St) (l : List UInt8) : blocksN s l 0 = s := rfl
theorem blocksN_succ (s : St) (l : List UInt8) (m : Nat) : blocksN s l (m + 1) = compr (blocksN s l m) ((l.drop (64 * m)).take 64) := by rw [blocksN]
theorem blocksN_left (s : St) (x y : List UInt8) : ∀ a, 64 * a ≤ x.length → blocksN s (x ++ y) a = blocksN s x a
  | 0, _ => rfl
  | a + 1, h => by
    rw [blocksN, blocksN, blocksN_left s x y a (by omega), List.drop_append_of_le_length (by omega), List.take_append_of_le_length (by rw [List.length_drop]; omega)]
theorem blocksN_append (s : St) (x y : List UInt8) (a : Nat) (hx : x.length = 64 * a) : ∀ b, blocksN s (x ++ y) (a + b) = blocksN (blocksN s x a) y b
  | 0 => by rw [Nat.add_zero, blocksN_left s x y a (by omega), blocksN]
  | b + 1 => by
    rw [← Nat.add_assoc, blocksN, blocksN, blocksN_append s x y a hx b]
    congr 2
    rw [show 64 * (a + b) = x.length + 64 * b by omega, List.drop_append, List.drop_of_length_le (by omega)]
    simp
/-- The hash in two parts: the whole blocks, and the rest with its padding. -/
theorem sha_parts (l : List UInt8) (k : Nat) (hk : k = l.length / 64) :
    sha l = (blocksN (blocksN first8 (l.take (64 * k)) k) (l.drop (64 * k) ++ padding l.length) (((l.drop (64 * k)) ++ padding l.length).length / 64)).bytes := by
  have hl : (l.take (64 * k)).length = 64 * k := by rw [List.length_take]; omega
  have e : padded l = l.take (64 * k) ++ (l.drop (64 * k) ++ padding l.length) := by
    unfold padded
    rw [← List.append_assoc, List.take_append_drop]
  unfold sha
  rw [e, List.length_append, hl, show (64 * k + (l.drop (64 * k) ++ padding l.length).length) / 64 = k + (l.drop (64 * k) ++ padding l.length).length / 64 by omega, blocksN_append _ _ _ k hl]

theorem St.list_len (s : St) : s.list.length = 8 := rfl
theorem bytes_range (s : St) : s.bytes = (List.range 32).map fun i => UInt8.ofNat ((s.list.getD (i / 4) 0).toNat / 2 ^ (24 - 8 * (i % 4))) := by
  obtain ⟨a, b, c, d, e, f, g, h⟩ := s
  simp [St.bytes, St.list, word4, List.range, List.range.loop]
theorem bytes_len (s : St) : s.bytes.length = 32 := by
  rw [bytes_range]; simp
theorem sha_len (l : List UInt8) : (sha l).length = 32 := bytes_len _

/-! ## HMAC, digests, streams -/
def keyOf (key : List UInt8) : List UInt8 := if 64 < key.length then sha key else key
def key64 (key : List UInt8) : List UInt8 := keyOf key ++ List.replicate (64 - (keyOf key).length) 0
theorem keyOf_len (key : List UInt8) : (keyOf key).length ≤ 64 := by
  unfold keyOf
  split
  · rw [sha_len]; omega
  · omega
theorem key64_len (key : List UInt8) : (key64 key).length = 64 := by
  have := keyOf_len key
  unfold key64
  rw [List.length_append, List.length_replicate]; omega
def maskB (m : UInt8) (l : List UInt8) : List UInt8 := l.map (· ^^^ m)
def hmac (key b : List UInt8) : List UInt8 := sha (maskB 92 (key64 key) ++ sha (maskB 54 (key64 key) ++ b))
theorem hmac_len (key b : List UInt8) : (hmac key b).length = 32 := sha_len _
def mac (key b : List UInt8) : List UInt8 := (hmac key b).take 16
def encBytesL (s : List UInt8) : List UInt8 := encInt s.length ++ s
def encParts (parts : List (List UInt8)) : List UInt8 := parts.flatMap encBytesL
def digestB (tag : UInt8) (parts : List (List UInt8)) : List UInt8 := (sha (tag :: encParts parts)).take 16
def derive (key label : List UInt8) (parts : List (List UInt8)) : List UInt8 := mac key (encBytesL label ++ encParts parts)
/-- The first k blocks of the stream. -/
def streamK (key : List UInt8) : Nat → List UInt8
  | 0 => []
  | k + 1 => streamK key k ++ hmac key (encInt (k : Int))
def stream (key : List UInt8) (n : Nat) : List UInt8 := (streamK key ((n + 31) / 32)).take n
theorem streamK_len (key : List UInt8) (k : Nat) : (streamK key k).length = 32 * k := by
  induction k with
  | zero => rfl
  | succ k ih => rw [streamK, List.length_append, ih, hmac_len]; omega
theorem streamK_pre (key : List UInt8) (a : Nat) : ∀ b, ∃ r, streamK key (a + b) = streamK key a ++ r
  | 0 => ⟨[], by simp⟩
  | b + 1 => by
    obtain ⟨r, hr⟩ := streamK_pre key a b
    exact ⟨r ++ hmac key (encInt ((a + b : Nat) : Int)), by rw [← Nat.add_assoc, streamK, hr, List.append_assoc]⟩
theorem streamK_take (key : List UInt8) (a b n : Nat) (hab : a ≤ b) (h : n ≤ 32 * a) : (streamK key b).take n = (streamK key a).take n := by
  obtain ⟨r, hr⟩ := streamK_pre key a (b - a)
  rw [show a + (b - a) = b by omega] at hr
  rw [hr, List.take_append_of_le_length (by rw [streamK_len]; omega)]
theorem stream_eq (key : List UInt8) (n k : Nat) (h : n ≤ 32 * k) : (streamK key k).take n = stream key n := by
  unfold stream
  exact streamK_take key _ k n (by omega) (by omega)
theorem stream_len (key : List UInt8) (n : Nat) : (stream key n).length = n := by
  unfold stream
  rw [List.length_take, streamK_len]; omega
theorem stream_pre (key : List UInt8) (n m : Nat) (h : n ≤ m) : (stream key m).take n = stream key n := by
  unfold stream
  rw [List.take_take, Nat.min_eq_left h, streamK_take key ((n + 31) / 32) ((m + 31) / 32) n (by omega) (by omega)]
/-- A key that is longer than a block stands for its hash; zeros behind a shorter one say nothing. -/
theorem hmac_hash (key b : List UInt8) (h : 64 < key.length) : hmac (sha key) b = hmac key b := by
  have e : key64 (sha key) = key64 key := by
    unfold key64
    have e2 : keyOf (sha key) = keyOf key := by
      unfold keyOf
      rw [if_pos h, if_neg (by rw [sha_len]; omega)]
    rw [e2]
  unfold hmac
  rw [e]
theorem hmac_zeros (key b : List UInt8) (n : Nat) (h : key.length + n ≤ 64) : hmac (key ++ List.replicate n 0) b = hmac key b := by
  have e : key64 (key ++ List.replicate n 0) = key64 key := by
    unfold key64 keyOf
    rw [if_neg (by rw [List.length_append, List.length_replicate]; omega), if_neg (by omega)]
    rw [List.append_assoc, List.replicate_append_replicate, List.length_append, List.length_replicate]
    congr 2
    omega
  unfold hmac
  rw [e]
end Go.Proofs.YtfclifolniefpaaDoor
