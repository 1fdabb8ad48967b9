/-
  The plain functions of layer 2: SHA-256, HMAC, digests and streams, on lists of bytes. Plain functions and their laws alone. No condition.
-/
import Derived.Test.YtpmkjnmddglckaaDoorMath
namespace Go.Proofs.YtpmkjnmddglckaaDoor

/-- Rotation to the right by n, 1 to 31. -/
def rot (x : UInt32) (n : Nat) : UInt32 := UInt32.ofNat (x.toNat / 2 ^ n ||| x.toNat * 2 ^ (32 - n) % 4294967296)
def shr (x : UInt32) (n : Nat) : UInt32 := UInt32.ofNat (x.toNat / 2 ^ n)

def sig0 (x : UInt32) : UInt32 := (rot x 7 ^^^ rot x 18) ^^^ shr x 3
def sig1 (x : UInt32) : UInt32 := (rot x 17 ^^^ rot x 19) ^^^ shr x 10

/-- The word at a place of a list of bytes. -/
def wordAt (b : List UInt8) (i : Nat) : UInt32 :=
  UInt32.ofNat ((b.getD i 0).toNat * 16777216 + (b.getD (i + 1) 0).toNat * 65536 + (b.getD (i + 2) 0).toNat * 256 + (b.getD (i + 3) 0).toNat)
/-- The first n words. -/
def wordsOf (b : List UInt8) : Nat → List UInt32
  | 0 => []
  | n + 1 => wordsOf b n ++ [wordAt b (4 * n)]
def nextW (l : List UInt32) : UInt32 :=
  l.getD (l.length - 16) 0 + sig0 (l.getD (l.length - 15) 0) + l.getD (l.length - 7) 0 + sig1 (l.getD (l.length - 2) 0)
/-- The schedule: 16 words and n more. -/
def sched (b : List UInt8) : Nat → List UInt32
  | 0 => wordsOf b 16
  | n + 1 => sched b n ++ [nextW (sched b n)]

structure St where
  a : UInt32
  b : UInt32
  c : UInt32
  d : UInt32
  e : UInt32
  f : UInt32
  g : UInt32
  h : UInt32

def St.t1 (s : St) (k w : UInt32) : UInt32 := s.h + ((rot s.e 6 ^^^ rot s.e 11) ^^^ rot s.e 25) + ((s.e &&& s.f) ^^^ (~~~s.e &&& s.g)) + k + w
def St.t2 (s : St) : UInt32 := ((rot s.a 2 ^^^ rot s.a 13) ^^^ rot s.a 22) + (((s.a &&& s.b) ^^^ (s.a &&& s.c)) ^^^ (s.b &&& s.c))
def St.round (s : St) (k w : UInt32) : St := ⟨s.t1 k w + s.t2, s.a, s.b, s.c, s.d + s.t1 k w, s.e, s.f, s.g⟩
def St.plus (s t : St) : St := ⟨s.a + t.a, s.b + t.b, s.c + t.c, s.d + t.d, s.e + t.e, s.f + t.f, s.g + t.g, s.h + t.h⟩
def St.list (s : St) : List UInt32 := [s.a, s.b, s.c, s.d, s.e, s.f, s.g, s.h]

def roundK : List UInt32 := [
  0x428a2f98, 0x71374491, 0xb5c0fbcf, 0xe9b5dba5, 0x3956c25b, 0x59f111f1, 0x923f82a4, 0xab1c5ed5,
  0xd807aa98, 0x12835b01, 0x243185be, 0x550c7dc3, 0x72be5d74, 0x80deb1fe, 0x9bdc06a7, 0xc19bf174,
  0xe49b69c1, 0xefbe4786, 0x0fc19dc6, 0x240ca1cc, 0x2de92c6f, 0x4a7484aa, 0x5cb0a9dc, 0x76f988da,
  0x983e5152, 0xa831c66d, 0xb00327c8, 0xbf597fc7, 0xc6e00bf3, 0xd5a79147, 0x06ca6351, 0x14292967,
  0x27b70a85, 0x2e1b2138, 0x4d2c6dfc, 0x53380d13, 0x650a7354, 0x766a0abb, 0x81c2c92e, 0x92722c85,
  0xa2bfe8a1, 0xa81a664b, 0xc24b8b70, 0xc76c51a3, 0xd192e819, 0xd6990624, 0xf40e3585, 0x106aa070,
  0x19a4c116, 0x1e376c08, 0x2748774c, 0x34b0bcb5, 0x391c0cb3, 0x4ed8aa4a, 0x5b9cca4f, 0x682e6ff3,
  0x748f82ee, 0x78a5636f, 0x84c87814, 0x8cc70208, 0x90befffa, 0xa4506ceb, 0xbef9a3f7, 0xc67178f2]
def first8 : St := ⟨0x6a09e667, 0xbb67ae85, 0x3c6ef372, 0xa54ff53a, 0x510e527f, 0x9b05688c, 0x1f83d9ab, 0x5be0cd19⟩

/-- The state behind n rounds over the words W. -/
def rounds (W : List UInt32) (s : St) : Nat → St
  | 0 => s
  | n + 1 => (rounds W s n).round (roundK.getD n 0) (W.getD n 0)
/-- The compression of one block of 64 bytes. -/
def compr (s : St) (b : List UInt8) : St := s.plus (rounds (sched b 48) s 64)
/-- The state behind the first n blocks. -/
def blocksN (s : St) (l : List UInt8) : Nat → St
  | 0 => s
  | n + 1 => compr (blocksN s l n) ((l.drop (64 * n)).take 64)

/-- What is appended to n bytes. -/
def zerosN (n : Nat) : Nat := (119 - n % 64) % 64
def be64 (n : Nat) : List UInt8 := [UInt8.ofNat (n / 2 ^ 56), UInt8.ofNat (n / 2 ^ 48), UInt8.ofNat (n / 2 ^ 40), UInt8.ofNat (n / 2 ^ 32), UInt8.ofNat (n / 2 ^ 24), UInt8.ofNat (n / 2 ^ 16), UInt8.ofNat (n / 2 ^ 8), UInt8.ofNat n]
def padding (n : Nat) : List UInt8 := 128 :: (List.replicate (zerosN n) 0 ++ be64 (8 * n))
def word4 (x : UInt32) : List UInt8 := [UInt8.ofNat (x.toNat / 16777216), UInt8.ofNat (x.toNat / 65536), UInt8.ofNat (x.toNat / 256), UInt8.ofNat x.toNat]
def St.bytes (s : St) : List UInt8 := s.list.flatMap word4
def padded (l : List UInt8) : List UInt8 := l ++ padding l.length
/-- SHA-256. -/
def sha (l : List UInt8) : List UInt8 := (blocksN first8 (padded l) ((padded l).length / 64)).bytes

theorem sha_empty4 : (sha []).take 4 = [0xe3, 0xb0, 0xc4, 0x42] := by decide +kernel
theorem sha_abc4 : (sha [97, 98, 99]).take 4 = [0xba, 0x78, 0x16, 0xbf] := by decide +kernel
end Go.Proofs.YtpmkjnmddglckaaDoor
