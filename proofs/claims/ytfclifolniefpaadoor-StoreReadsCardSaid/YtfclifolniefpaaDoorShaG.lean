/-
  The plain functions of layer 2: SHA-256, HMAC, digests and streams, on lists of bytes. Plain functions and their laws alone. No condition.
-/
import Derived.Test.YtfclifolniefpaaDoorBase
import Derived.Test.YtfclifolniefpaaDoorProg
import Derived.WalkMore
import Derived.Outline
import Derived.Laws.ShiftsVarLaws
import Derived.Deep.LoopGhost
namespace Go.Proofs.YtfclifolniefpaaDoor

/-- Rotation to the right by n, 1 to 31. -/
def rot (x : UInt32) (n : Nat) : UInt32 := UInt32.ofNat (x.toNat / 2 ^ n ||| x.toNat * 2 ^ (32 - n) % 4294967296)
def shr (x : UInt32) (n : Nat) : UInt32 := UInt32.ofNat (x.toNat / 2 ^ n)

def sig0 (x : UInt32) : UInt32 := (rot x 7 ^^^ rot x 18) ^^^ shr x 3
def sig1 (x : UInt32) : UInt32 := (rot x 17 ^^^ rot x 19) ^^^ shr x 10

/-- The word at a place of a list of bytes. -/
def wordAt (b : List UInt8) (i : Nat) : UInt32 :=
  UInt32.ofNat ((b.getD i 0).toNat * 16777216 + (b.getD (i + 1) 0).toNat * 65536 + (b.getD (i + 2) 0).toNat * 256 + (b.getD (i + 3) 0).toNat)
/-- The first n words. -/
def wordsOf (b : List UInt8) : Nat → List UInt32
  | 0 => []
  | n + 1 => wordsOf b n ++ [wordAt b (4 * n)]
def nextW (l : List UInt32) : UInt32 :=
  l.getD (l.length - 16) 0 + sig0 (l.getD (l.length - 15) 0) + l.getD (l.length - 7) 0 + sig1 (l.getD (l.length - 2) 0)
/-- The schedule: 16 words and n more. -/
def sched (b : List UInt8) : Nat → List UInt32
  | 0 => wordsOf b 16
  | n + 1 => sched b n ++ [nextW (sched b n)]

structure St where
  a : UInt32
  b : UInt32
  c : UInt32
  d : UInt32
  e : UInt32
  f : UInt32
  g : UInt32
  h : UInt32

def St.t1 (s : St) (k w : UInt32) : UInt32 := s.h + ((rot s.e 6 ^^^ rot s.e 11) ^^^ rot s.e 25) + ((s.e &&& s.f) ^^^ (~~~s.e &&& s.g)) + k + w
def St.t2 (s : St) : UInt32 := ((rot s.a 2 ^^^ rot s.a 13) ^^^ rot s.a 22) + (((s.a &&& s.b) ^^^ (s.a &&& s.c)) ^^^ (s.b &&& s.c))
def St.round (s : St) (k w : UInt32) : St := ⟨s.t1 k w + s.t2, s.a, s.b, s.c, s.d + s.t1 k w, s.e, s.f, s.g⟩
def St.plus (s t : St) : St := ⟨s.a + t.a, s.b + t.b, s.c + t.c, s.d + t.d, s.e + t.e, s.f + t.f, s.g + t.g, s.h + t.h⟩
def St.list (s : St) : List UInt32 := [s.a, s.b, s.c, s.d, s.e, s.f, s.g, s.h]

def roundK : List UInt32 := [
  0x428a2f98, 0x71374491, 0xb5c0fbcf, 0xe9b5dba5, 0x3956c25b, 0x59f111f1, 0x923f82a4, 0xab1c5ed5,
  0xd807aa98, 0x12835b01, 0x243185be, 0x550c7dc3, 0x72be5d74, 0x80deb1fe, 0x9bdc06a7, 0xc19bf174,
  0xe49b69c1, 0xefbe4786, 0x0fc19dc6, 0x240ca1cc, 0x2de92c6f, 0x4a7484aa, 0x5cb0a9dc, 0x76f988da,
  0x983e5152, 0xa831c66d, 0xb00327c8, 0xbf597fc7, 0xc6e00bf3, 0xd5a79147, 0x06ca6351, 0x14292967,
  0x27b70a85, 0x2e1b2138, 0x4d2c6dfc, 0x53380d13, 0x650a7354, 0x766a0abb, 0x81c2c92e, 0x92722c85,
  0xa2bfe8a1, 0xa81a664b, 0xc24b8b70, 0xc76c51a3, 0xd192e819, 0xd6990624, 0xf40e3585, 0x106aa070,
  0x19a4c116, 0x1e376c08, 0x2748774c, 0x34b0bcb5, 0x391c0cb3, 0x4ed8aa4a, 0x5b9cca4f, 0x682e6ff3,
  0x748f82ee, 0x78a5636f, 0x84c87814, 0x8cc70208, 0x90befffa, 0xa4506ceb, 0xbef9a3f7, 0xc67178f2]
def first8 : St := ⟨0x6a09e667, 0xbb67ae85, 0x3c6ef372, 0xa54ff53a, 0x510e527f, 0x9b05688c, 0x1f83d9ab, 0x5be0cd19⟩

/-- The state behind n rounds over the words W. -/
def rounds (W : List UInt32) (s : St) : Nat → St
  | 0 => s
  | n + 1 => (rounds W s n).round (roundK.getD n 0) (W.getD n 0)
/-- The compression of one block of 64 bytes. -/
def compr (s : St) (b : List UInt8) : St := s.plus (rounds (sched b 48) s 64)
/-- The state behind the first n blocks. -/
def blocksN (s : St) (l : List UInt8) : Nat → St
  | 0 => s
  | n + 1 => compr (blocksN s l n) ((l.drop (64 * n)).take 64)

/-- What is appended to n bytes. -/
def zerosN (n : Nat) : Nat := (119 - n % 64) % 64
def be64 (n : Nat) : List UInt8 := [UInt8.ofNat (n / 2 ^ 56), UInt8.ofNat (n / 2 ^ 48), UInt8.ofNat (n / 2 ^ 40), UInt8.ofNat (n / 2 ^ 32), UInt8.ofNat (n / 2 ^ 24), UInt8.ofNat (n / 2 ^ 16), UInt8.ofNat (n / 2 ^ 8), UInt8.ofNat n]
def padding (n : Nat) : List UInt8 := 128 :: (List.replicate (zerosN n) 0 ++ be64 (8 * n))
def word4 (x : UInt32) : List UInt8 := [UInt8.ofNat (x.toNat / 16777216), UInt8.ofNat (x.toNat / 65536), UInt8.ofNat (x.toNat / 256), UInt8.ofNat x.toNat]
def St.bytes (s : St) : List UInt8 := s.list.flatMap word4
def padded (l : List UInt8) : List UInt8 := l ++ padding l.length
/-- SHA-256. -/
def sha (l : List UInt8) : List UInt8 := (blocksN first8 (padded l) ((padded l).length / 64)).bytes

theorem sha_empty4 : (sha []).take 4 = [0xe3, 0xb0, 0xc4, 0x42] := by decide +kernel
theorem sha_abc4 : (sha [97, 98, 99]).take 4 = [0xba, 0x78, 0x16, 0xbf] := by decide +kernel
end Go.Proofs.YtfclifolniefpaaDoor

/-
  Words of 32 bits in the walk; what sha.rotr, bits.RotateLeft32 and the reference's rot return. Conditions: a rotation by 1 to 31.
-/
namespace Go.Proofs.YtfclifolniefpaaDoor
open Go.RowKit

/-- A word as an integer. -/
def wi (x : UInt32) : Int := (x.toNat : Int)
def wv (x : UInt32) : Value := .int .u32 (wi x)
theorem u32lt (x : UInt32) : x.toNat < 4294967296 := x.toNat_lt
theorem wi_plus (x y : UInt32) : (wi x + wi y) % 4294967296 = wi (x + y) := by
  unfold wi
  rw [UInt32.toNat_add]; omega
theorem wi_xor (x y : UInt32) : bits .xor .u32 (wi x) (wi y) = wi (x ^^^ y) := by
  unfold wi
  rw [u32_xor_nat _ _ (u32lt x) (u32lt y), UInt32.toNat_xor]
theorem wi_and (x y : UInt32) : bits .and .u32 (wi x) (wi y) = wi (x &&& y) := by
  unfold wi
  rw [u32_and_nat _ _ (u32lt x) (u32lt y), UInt32.toNat_and]
theorem wi_or (x y : UInt32) : bits .or .u32 (wi x) (wi y) = wi (x ||| y) := by
  unfold wi
  rw [u32_or_nat _ _ (u32lt x) (u32lt y), UInt32.toNat_or]
theorem toNat_ofNat32 (n : Nat) (h : n < 4294967296) : (UInt32.ofNat n).toNat = n := by
  rw [UInt32.toNat_ofNat']; exact Nat.mod_eq_of_lt (by omega)
theorem rot_lt (x n : Nat) (hx : x < 4294967296) : x / 2 ^ n ||| x * 2 ^ (32 - n) % 4294967296 < 4294967296 := by
  refine Nat.or_lt_two_pow (n := 32) ?_ (by omega)
  exact Nat.lt_of_le_of_lt (Nat.div_le_self _ _) hx
theorem rot_toNat (x : UInt32) (n : Nat) : (rot x n).toNat = (x.toNat / 2 ^ n ||| x.toNat * 2 ^ (32 - n) % 4294967296) := by
  unfold rot
  exact toNat_ofNat32 _ (rot_lt _ _ (u32lt x))
theorem shr_toNat (x : UInt32) (n : Nat) : (shr x n).toNat = x.toNat / 2 ^ n := by
  unfold shr
  exact toNat_ofNat32 _ (Nat.lt_of_le_of_lt (Nat.div_le_self _ _) (u32lt x))

theorem rot_turn (n : Nat) (h1 : 1 ≤ n) (h2 : n ≤ 31) : bits .and .u64 (IntKind.u64.wrap (-(n : Int))) 31 = 32 - (n : Int) := by
  have e : IntKind.u64.wrap (-(n : Int)) = ((18446744073709551616 - n : Nat) : Int) := by rw [IntKind.wrap_u64]; omega
  have h := u64_and_mask (18446744073709551616 - n) 5 (by omega) (by decide)
  rw [e]
  rw [show ((2 ^ 5 - 1 : Nat) : Int) = 31 from rfl] at h
  rw [h]
  omega
theorem rot_val (x : UInt32) (n : Nat) : bits .or .u32 ((x.toNat : Int) / 2 ^ n) ((x.toNat : Int) * 2 ^ (32 - n) % 4294967296) = ((rot x n).toNat : Int) := by
  have h1 : (x.toNat : Int) / 2 ^ n = ((x.toNat / 2 ^ n : Nat) : Int) := by push_cast; rfl
  have h2 : (x.toNat : Int) * 2 ^ (32 - n) % 4294967296 = ((x.toNat * 2 ^ (32 - n) % 4294967296 : Nat) : Int) := by rw [Int.natCast_emod, Int.natCast_mul, Int.natCast_pow]; rfl
  have hx := u32lt x
  rw [h1, h2, u32_or_nat _ _ (Nat.lt_of_le_of_lt (Nat.div_le_self _ _) hx) (Nat.mod_lt _ (by decide)), rot_toNat]
theorem u32_or_comm (a b : Int) : bits .or .u32 a b = bits .or .u32 b a := by simp only [bits, BitVec.or_comm]

theorem wi_shr3 (x : UInt32) : wi x / 8 = wi (shr x 3) := by
  unfold wi
  rw [shr_toNat]; omega
theorem wi_shr10 (x : UInt32) : wi x / 1024 = wi (shr x 10) := by
  unfold wi
  rw [shr_toNat]; omega

set_option maxHeartbeats 400000 in
theorem rotateLeft_any (x : UInt32) (n : Nat) (w : World) (h1 : 1 ≤ n) (h2 : n ≤ 31) :
    Calls Tryd.prog 92 #[.int .u32 (wi x), .int .i64 (-(n : Int))] w fun e w' => e = .returned (.int .u32 (wi (rot x n))) ∧ w = w' := by
  unfold wi
  have hx := u32lt x
  have HV := Lib.hid (rot_val x n)
  have ht := rot_turn n h1 h2
  go_enter Tryd.func92, Tryd.ntmps92
  go_wp2_with fail
  go_ret
  refine ⟨?_, rfl⟩
  show Ending.returned (Value.int IntKind.u32 (bits BinOp.or IntKind.u32 ((x.toNat : Int) * 2 ^ (32 - n) % 4294967296) ((x.toNat : Int) / 2 ^ (32 - (32 - n))))) = _
  rw [u32_or_comm, show 32 - (32 - n) = n by omega, HV.out]

set_option maxHeartbeats 400000 in
theorem rotr_any (x : UInt32) (n : Int) (w : World) (h1 : 1 ≤ n) (h2 : n ≤ 31) :
    Calls Tryd.prog 91 #[.int .u32 (wi x), .int .i64 n] w fun e w' => e = .returned (.int .u32 (wi (rot x n.toNat))) ∧ w' = w := by
  obtain ⟨n, rfl⟩ := Int.eq_ofNat_of_zero_le (show 0 ≤ n by omega)
  have hc := fun W => Lib.hid (rotateLeft_any x n W (by omega) (by omega))
  go_enter Tryd.func91, Tryd.ntmps91
  go_wp2_with fail
  refine (hc _).out.mono ?_
  rintro e w' ⟨rfl, rfl⟩
  go_wp2_with fail
  go_ret
  exact ⟨rfl, rfl⟩

set_option maxHeartbeats 400000 in
theorem refRot_any (x : UInt32) (n : Int) (w : World) (h1 : 1 ≤ n) (h2 : n ≤ 31) :
    Calls Tryd.prog 80 #[.int .u32 (wi x), .int .i64 n] w fun e w' => e = .returned (.int .u32 (wi (rot x n.toNat))) ∧ ∃ m, w' = w.drewN m := by
  obtain ⟨n, rfl⟩ := Int.eq_ofNat_of_zero_le (show 0 ≤ n by omega)
  unfold wi
  have hx := u32lt x
  have HV := Lib.hid (rot_val x n)
  go_enter Tryd.func80, Tryd.ntmps80
  go_wp2_with fail
  go_quiet (fail)
  go_wp2_with fail
  go_ret
  refine ⟨?_, _, rfl⟩
  show Ending.returned (Value.int IntKind.u32 (bits BinOp.or IntKind.u32 ((x.toNat : Int) / 2 ^ n) ((x.toNat : Int) * 2 ^ (32 - n) % 4294967296))) = Ending.returned (Value.int IntKind.u32 ((rot x n).toNat : Int))
  rw [HV.out]
end Go.Proofs.YtfclifolniefpaaDoor

/-
  What sha.schedule returns: a contract by a walk. No condition beyond a block of 64 bytes.
-/
namespace Go.Proofs.YtfclifolniefpaaDoor
open Go.RowKit

def wvs (l : List UInt32) : List Value := l.map wv
theorem wvs_length (l : List UInt32) : (wvs l).length = l.length := List.length_map _
theorem wvs_one (l : List UInt32) : ∀ u ∈ wvs l, u.oneCell' = true := by
  intro u hu
  obtain ⟨b, _, rfl⟩ := List.mem_map.1 hu
  rfl
/-- A value comes back; nothing that was there has changed. -/
def GivesV (v : Value) (w : World) (e : Ending) (w' : World) : Prop := e = .returned v ∧ Below w.heap.size w w'
def zeros64 : List Value := List.replicate 64 (.int .u32 0)
theorem zero_w64 : (Tryd.prog.info? 142).map (fun i => i.zero.map (·.cells)) = some (some zeros64.toArray) := by kernel_rfl
/-- 64 cells of which the first hold the words l. -/
def filled (l : List UInt32) : List Value := wvs l ++ List.replicate (64 - l.length) (.int .u32 0)

theorem set_fill (l : List Value) (z x : Value) (n : Nat) (hn : 0 < n) : (l ++ List.replicate n z).set l.length x = l ++ [x] ++ List.replicate (n - 1) z := by
  obtain ⟨m, rfl⟩ : ∃ m, n = m + 1 := ⟨n - 1, by omega⟩
  rw [List.set_append_right _ _ (Nat.le_refl _), Nat.sub_self, List.replicate_succ, List.set_cons_zero]
  simp
theorem filled_set (l : List UInt32) (x : UInt32) (h : l.length < 64) : (filled l).set l.length (wv x) = filled (l ++ [x]) := by
  unfold filled
  have e := set_fill (wvs l) (.int .u32 0) (wv x) (64 - l.length) (by omega)
  rw [wvs_length] at e
  rw [e, List.length_append, List.length_singleton, show 64 - (l.length + 1) = 64 - l.length - 1 by omega]
  unfold wvs
  simp
theorem filled_len (l : List UInt32) (h : l.length ≤ 64) : (filled l).length = 64 := by
  unfold filled
  rw [List.length_append, wvs_length, List.length_replicate]; omega
theorem filled_at (l : List UInt32) (k : Nat) (h : k < l.length) : (filled l)[k]? = some (wv (l.getD k 0)) := by
  unfold filled wvs
  rw [List.getElem?_append_left (by rw [List.length_map]; exact h), List.getElem?_map, List.getElem?_eq_getElem h, List.getD, List.getElem?_eq_getElem h]
  rfl
theorem filled_all (l : List UInt32) (h : l.length = 64) : filled l = wvs l := by
  unfold filled
  rw [h]
  simp
theorem wordsOf_len (b : List UInt8) (n : Nat) : (wordsOf b n).length = n := by
  induction n with
  | zero => rfl
  | succ n ih => rw [wordsOf, List.length_append, ih]; rfl
theorem sched_len (b : List UInt8) (n : Nat) : (sched b n).length = 16 + n := by
  induction n with
  | zero => exact wordsOf_len b 16
  | succ n ih => rw [sched, List.length_append, ih]; rfl
theorem u8_up (x : UInt8) : (x.toNat : Int) % 4294967296 = ((x.toNat : Nat) : Int) := by
  have := x.toNat_lt
  omega
theorem word_val (x0 x1 x2 x3 : UInt8) :
    bits .or .u32 (bits .or .u32 (bits .or .u32 ((x0.toNat : Int) % 4294967296 * 16777216 % 4294967296) ((x1.toNat : Int) % 4294967296 * 65536 % 4294967296)) ((x2.toNat : Int) % 4294967296 * 256 % 4294967296)) ((x3.toNat : Int) % 4294967296) =
      wi (UInt32.ofNat (x0.toNat * 16777216 + x1.toNat * 65536 + x2.toNat * 256 + x3.toNat)) := by
  unfold wi
  have h0 := x0.toNat_lt
  have h1 := x1.toNat_lt
  have h2 := x2.toNat_lt
  have h3 := x3.toNat_lt
  rw [show (x0.toNat : Int) % 4294967296 * 16777216 % 4294967296 = ((x0.toNat * 16777216 : Nat) : Int) by omega, show (x1.toNat : Int) % 4294967296 * 65536 % 4294967296 = ((x1.toNat * 65536 : Nat) : Int) by omega,
    show (x2.toNat : Int) % 4294967296 * 256 % 4294967296 = ((x2.toNat * 256 : Nat) : Int) by omega, show (x3.toNat : Int) % 4294967296 = ((x3.toNat : Nat) : Int) by omega]
  rw [u32_or_nat _ _ (by omega) (by omega), nat_join 24 (x0.toNat * 16777216) (x1.toNat * 65536) (by omega) (by omega), u32_or_nat _ _ (by omega) (by omega), nat_join 16 _ (x2.toNat * 256) (by omega) (by omega),
    u32_or_nat _ _ (by omega) (by omega), nat_join 8 _ x3.toNat (by omega) (by omega), toNat_ofNat32 _ (by omega)]

theorem w64_size (ws : List UInt32) (h : ws.length = 64) : (Tryd.prog.info? 142).map (·.size) = some (wvs ws).length := by rw [wvs_length, h]; kernel_rfl
theorem w64_zeros (ws : List UInt32) (h : ws.length = 64) : zeros64.length = (wvs ws).length := by rw [wvs_length, h]; rfl

set_option maxRecDepth 100000 in
set_option maxHeartbeats 2000000 in
theorem schedule_any (A : Option Addr) (c : Nat) (b : List UInt8) (w : World) (hr : Reads w w.heap.size 1 A 64 (bvs b)) :
    Calls Tryd.prog 90 #[.slice A 64 c] w (GivesV (.agg (wvs (sched b 48)).toArray) w) := by
  obtain ⟨ad, rfl, hab, hcell⟩ := hr.2 (by omega)
  have HC := Lib.hid hcell
  clear hcell
  go_enter Tryd.func90, Tryd.ntmps90
  go_wp2_with (first
    | (with_reducible refine wpList_alloc_row (o := ⟨some 2, _, _, _, _, _⟩) rfl _ rfl zeros64 zero_w64 ?_; intro w1 hrow1 hs1 hg1)
    | (with_reducible refine wpList_alloc_row (o := ⟨some 3, _, _, _, _, _⟩) rfl _ rfl zeros64 zero_w64 ?_; intro w2 hrow2 hs2 hg2))
  have hrow1' := hrow1.kept hg2 (by simp)
  have hbel : Below w.heap.size w w2 := below_kept (grown_below hg1 (Nat.le_refl _) (by simp)) hg2 (by omega) (by simp)
  clear hrow1 hg1 hg2
  have hs3 := hrow2.lt
  go_loopg [4, 5, 9] 16 (fun g s4 s5 s9 wr => ∃ i : Nat, Hid (i + g = 16) ∧ i ≤ 16 ∧ s9 = .int .i64 i ∧ Row wr w1.heap.size 142 (filled (wordsOf b i)) ∧ Row wr w.heap.size 142 zeros64 ∧ Below w.heap.size w wr)
  case atStart => exact ⟨0, rfl, by omega, rfl, hrow2, hrow1', hbel⟩
  case round =>
    obtain ⟨i, HI, hi, rfl, hrow, hrow0, hbelr⟩ := hrel
    by_cases hlt : i < 16
    · have hcw : ∀ k, k < 4 → wr.cell? (ad.add (4 * i + k)) = some (bv (b.getD (4 * i + k) 0)) := fun k hk => by
        have hl : 4 * i + k < b.length := by have := hr.1; rw [bvs_length] at this; omega
        rw [hbelr.cell (by rw [block_of_add]; exact hab)]
        exact HC.out _ _ (by unfold bvs; rw [List.getElem?_map, List.getElem?_eq_getElem hl, List.getD, List.getElem?_eq_getElem hl]; rfl)
      have hc0 := hcw 0 (by omega)
      have hc1 := hcw 1 (by omega)
      have hc2 := hcw 2 (by omega)
      have hc3 := hcw 3 (by omega)
      rw [Nat.add_zero] at hc0
      rw [add_pos _ _ (by omega)] at hc1 hc2 hc3
      clear hcw
      have HW : Hid (wordsOf b (i + 1) = wordsOf b i ++ [UInt32.ofNat ((b.getD (4 * i) 0).toNat * 16777216 + (b.getD (4 * i + 1) 0).toNat * 65536 + (b.getD (4 * i + 2) 0).toNat * 256 + (b.getD (4 * i + 3) 0).toNat)]) := rfl
      generalize b.getD (4 * i) 0 = x0 at *
      generalize b.getD (4 * i + 1) 0 = x1 at *
      generalize b.getD (4 * i + 2) 0 = x2 at *
      generalize b.getD (4 * i + 3) 0 = x3 at *
      have HV := Lib.hid (word_val x0 x1 x2 x3)
      unfold bv at hc0 hc1 hc2 hc3
      go_wp2_with fail
      refine wp_region_tail 31 (by kernel_rfl) (by kernel_rfl) ?_
      simp only [List.take_succ_cons, List.take_zero, List.drop_succ_cons, List.drop_zero]
      repeat (go_big_quiet_step (fail))
      refine wpQuiet_nil ?_
      refine wpList_store_elem (o := ⟨none, _, _, _, _, _⟩) rfl _ _ _ rfl w1.heap.size i rfl _ _ hrow.drew _ rfl rfl (by rw [filled_len _ (by rw [wordsOf_len]; omega)]; omega) (by kernel_rfl) ?_
      intro w3 hrow3 hg3
      have hb3 : Below w.heap.size w w3 := below_kept hbelr.drew hg3 (by have := hbelr.size; simpa using this) (by rintro k hk; cases hk; omega)
      have hrow0' := hrow0.drew.kept hg3 (by simp; omega)
      clear hg3
      go_wp2_with fail
      go_roundg (gk - 1)
      case measure => have := HI.out; omega
      case rel =>
        refine ⟨i + 1, by have := HI.out; show _ = _; omega, by omega, by go_num, ?_, hrow0', hb3⟩
        have e := filled_set (wordsOf b i) (UInt32.ofNat (x0.toNat * 16777216 + x1.toNat * 65536 + x2.toNat * 256 + x3.toNat)) (by rw [wordsOf_len]; omega)
        rw [wordsOf_len, ← HW.out] at e
        rw [← e]
        unfold wv
        rw [← HV.out]
        exact hrow3
    · have hrow16 : Row wr w1.heap.size 142 (filled (sched b 0)) := by
        have hi16 : i = 16 := by omega
        rw [hi16] at hrow
        exact hrow
      clear hrow HI
      obtain ⟨wo, rfl⟩ : ∃ wo : World, wo = wr := ⟨_, rfl⟩
      obtain ⟨g0, rfl⟩ : ∃ g0 : Nat, g0 = gk := ⟨_, rfl⟩
      go_wp2_with fail
      go_loopg [6, 7, 8] 48 (fun g s6 s7 s8 wi => ∃ j : Nat, Hid (j + g = 48) ∧ j ≤ 48 ∧ s6 = .int .i64 ((16 + j : Nat) : Int) ∧ Row wi w1.heap.size 142 (filled (sched b j)) ∧ Row wi w.heap.size 142 zeros64 ∧ Below w.heap.size w wi)
      case atStart => exact ⟨0, rfl, by omega, rfl, hrow16, hrow0, hbelr⟩
      case round =>
        obtain ⟨j, HJ, hj, rfl, hrow, hrow0, hbelr⟩ := hrel
        obtain ⟨m, hm⟩ : ∃ m, m = 16 + j := ⟨_, rfl⟩
        rw [← hm]
        have hm1 : 16 ≤ m := by omega
        have hm2 : m ≤ 64 := by omega
        have HM := Lib.hid hm
        clear hm
        by_cases hlm : m < 64
        · have HL : Hid ((sched b j).length = m) := by show _ = _; rw [sched_len, HM.out]
          have hcw : ∀ k, k ≤ 16 → 0 < k → wr.cell? ⟨w1.heap.size, m - k, none⟩ = some (wv ((sched b j).getD (m - k) 0)) := fun k hk hk0 => hrow.cell (filled_at _ _ (by rw [HL.out]; omega))
          have hc16 := hcw 16 (by omega) (by omega)
          have hc15 := hcw 15 (by omega) (by omega)
          have hc7 := hcw 7 (by omega) (by omega)
          have hc2 := hcw 2 (by omega) (by omega)
          clear hcw
          have HN : Hid (sched b (j + 1) = sched b j ++ [(sched b j).getD (m - 16) 0 + sig0 ((sched b j).getD (m - 15) 0) + (sched b j).getD (m - 7) 0 + sig1 ((sched b j).getD (m - 2) 0)]) := by
            show _ = _
            rw [sched, nextW, HL.out]
          generalize (sched b j).getD (m - 16) 0 = x16 at *
          generalize (sched b j).getD (m - 15) 0 = x15 at *
          generalize (sched b j).getD (m - 7) 0 = x7 at *
          generalize (sched b j).getD (m - 2) 0 = x2 at *
          unfold wv at hc16 hc15 hc7 hc2
          go_wp2_with fail
          have r1 := wi_xor
          have r2 := wi_plus
          have r3 := wi_shr3
          have r4 := wi_shr10
          go_quiet ((go_at_call 91; exact Calls.quiet_of_same (rotr_any x15 _ _ (by omega) (by omega))))
          have hrow := hrow.drewN nq
          have hrow0 := hrow0.drewN nq
          have hbelr := below_drewN hbelr nq
          have hc16 : (wr.drewN nq).cell? ⟨w1.heap.size, m - 16, none⟩ = some (.int .u32 (wi x16)) := hc16
          have hc7 : (wr.drewN nq).cell? ⟨w1.heap.size, m - 7, none⟩ = some (.int .u32 (wi x7)) := hc7
          have hc2 : (wr.drewN nq).cell? ⟨w1.heap.size, m - 2, none⟩ = some (.int .u32 (wi x2)) := hc2
          generalize wr.drewN nq = wr2 at *
          go_wp2_with fail
          go_quiet ((go_at_call 91; exact Calls.quiet_of_same (rotr_any x2 _ _ (by omega) (by omega))))
          have hrow := hrow.drewN nq
          have hrow0 := hrow0.drewN nq
          have hbelr := below_drewN hbelr nq
          have hc16 : (wr2.drewN nq).cell? ⟨w1.heap.size, m - 16, none⟩ = some (.int .u32 (wi x16)) := hc16
          have hc7 : (wr2.drewN nq).cell? ⟨w1.heap.size, m - 7, none⟩ = some (.int .u32 (wi x7)) := hc7
          clear hc2 hc15
          generalize wr2.drewN nq = wr3 at *
          go_wp2_with fail
          refine wp_region_tail 15 (by kernel_rfl) (by kernel_rfl) ?_
          simp only [List.take_succ_cons, List.take_zero, List.drop_succ_cons, List.drop_zero]
          repeat (go_big_quiet_step (fail))
          refine wpQuiet_nil ?_
          clear r1 r2 r3 r4
          refine wpList_store_elem (o := ⟨none, _, _, _, _, _⟩) rfl _ _ _ rfl w1.heap.size m rfl _ _ hrow.drew _ rfl rfl (by rw [filled_len _ (by rw [HL.out]; omega)]; omega) (by kernel_rfl) ?_
          intro w3 hrow3 hg3
          have hb3 : Below w.heap.size w w3 := below_kept hbelr.drew hg3 (by have := hbelr.size; simpa using this) (by rintro k hk; cases hk; omega)
          have hrow0' := hrow0.drew.kept hg3 (by simp; omega)
          clear hg3
          have HN2 : Hid (Row w3 w1.heap.size 142 (filled (sched b (j + 1)))) := by
            have e := filled_set (sched b j) (x16 + sig0 x15 + x7 + sig1 x2) (by rw [HL.out]; omega)
            rw [HL.out, ← HN.out] at e
            show Row _ _ _ _
            rw [← e]
            exact hrow3
          clear hrow3
          go_wp2_with fail
          go_roundg (gk - 1)
          case measure => have := HJ.out; have := HM.out; omega
          case rel => exact ⟨j + 1, by have := HJ.out; have := HM.out; show _ = _; omega, by have := HM.out; omega, by have := HM.out; rw [this]; go_num, HN2.out, hrow0', hb3⟩
        · have HJ48 : Hid (j = 48) := by show _ = _; have := HM.out; omega
          have hrow := hrow
          rw [HJ48.out, filled_all _ (by rw [sched_len])] at hrow
          have HS := Lib.hid (sched_len b 48)
          generalize sched b 48 = ws at *
          go_wp2_with (first
            | (with_reducible refine wpList_load_all (o := ⟨some 99, _, _, _, _, _⟩) rfl _ _ rfl w1.heap.size rfl _ _ hrow _ Tryd.underlying142 rfl (w64_size ws HS.out) ?_)
            | (with_reducible refine wpList_store_all (o := ⟨none, _, _, _, _, _⟩) rfl _ _ _ rfl w.heap.size rfl _ _ hrow0 _ rfl (wvs_one _) (w64_zeros ws HS.out) (w64_size ws HS.out) ?_; intro w3 hrow3 hg3))
          have hload := run_loadVar_at (P := Tryd.prog) w3 142 ⟨w.heap.size, 0, none⟩ (wvs ws) hrow3.cells _ Tryd.underlying142 rfl (w64_size ws HS.out)
          exact bodyPost_ret (results_cell1 Tryd.results90 _ _ _ _ rfl hload) rfl ⟨rfl, below_kept hbelr hg3 hbelr.size (by rintro k hk; cases hk; omega)⟩
end Go.Proofs.YtfclifolniefpaaDoor

/-
  What (sha.state).compress returns: a contract by a walk. Conditions: a block of 64 bytes; the package-level table of constants holds what the text lays.
-/
namespace Go.Proofs.YtfclifolniefpaaDoor
open Go.RowKit

/-- The table of constants, as the program's text lays it. -/
def Consts (w : World) : Prop := 1 < w.heap.size ∧ ∀ i, i < 64 → w.cell? ⟨1, i, none⟩ = some (wv (roundK.getD i 0))
theorem Consts.below {B : Nat} {w w' : World} (h : Consts w) (hb : Below B w w') (hB : 1 < B) : Consts w' :=
  ⟨Nat.lt_of_lt_of_le h.1 hb.size, fun i hi => (hb.cell hB).trans (h.2 i hi)⟩
theorem Consts.on {w w' : World} (h : Consts w) (hb : Below w.heap.size w w') : Consts w' := h.below hb h.1
theorem Consts.kept {w w' : World} {row : Option Nat} (h : Consts w) (hg : w.grownBy w' row) (hr : some 1 ≠ row) : Consts w' :=
  ⟨Nat.lt_of_lt_of_le h.1 hg.size, fun i hi => (World.cell?_of_block (hg.block _ h.1 hr)).trans (h.2 i hi)⟩
theorem Consts.drewN {w : World} (h : Consts w) (k : Nat) : Consts (w.drewN k) := h

def zeros8 : List Value := List.replicate 8 (.int .u32 0)
theorem zero_w8 : (Tryd.prog.info? 137).map (fun i => i.zero.map (·.cells)) = some (some zeros8.toArray) := by kernel_rfl
theorem w8_size (l : List Value) (h : l.length = 8) : (Tryd.prog.info? 137).map (·.size) = some l.length := by rw [h]; kernel_rfl
theorem wi_sum5 (a b c d e : UInt32) : (wi a + wi b + wi c + wi d + wi e) % 4294967296 = wi (a + b + c + d + e) := by
  rw [← wi_plus (a + b + c + d) e, ← wi_plus (a + b + c) d, ← wi_plus (a + b) c, ← wi_plus a b]
  omega
theorem wi_sum5b (v a b c d : UInt32) : (wi v + (wi a + wi b + wi c + wi d)) % 4294967296 = wi (v + (a + b + c + d)) := by
  rw [← wi_plus v (a + b + c + d), ← wi_plus (a + b + c) d, ← wi_plus (a + b) c, ← wi_plus a b]
  omega
theorem wi_not2 (x : UInt32) : bits .xor .u32 4294967295 (wi x) = wi (~~~x) := by
  unfold wi
  have hx := u32lt x
  have h : BitVec.ofInt 32 4294967295 ^^^ BitVec.ofInt 32 (x.toNat : Int) = ~~~ (BitVec.ofInt 32 (x.toNat : Int)) := by
    have e : BitVec.ofInt 32 4294967295 = BitVec.allOnes 32 := by decide
    rw [e, BitVec.allOnes_xor]
  show IntKind.u32.wrap ((BitVec.ofInt 32 4294967295 ^^^ BitVec.ofInt 32 (x.toNat : Int)).toNat : Int) = _
  rw [h, BitVec.toNat_not, ofInt_u32 _ hx, IntKind.wrap_u32', UInt32.toNat_not]
  show _ = ((4294967296 - 1 - x.toNat : Nat) : Int)
  omega
theorem wi_not (x : UInt32) : bits .xor .u32 IntKind.u32.max (wi x) = wi (~~~x) := by
  have e : IntKind.u32.max = 4294967295 := by decide
  rw [e, wi_not2]

theorem compr_eq (s : St) (b : List UInt8) (W : List UInt32) (h : W = sched b 48) : compr s b = s.plus (rounds W s 64) := by
  rw [h, compr]

set_option maxRecDepth 100000 in
set_option maxHeartbeats 2000000 in
theorem compress_any (s : St) (A : Option Addr) (c : Nat) (b : List UInt8) (w : World) (hk : Consts w) (hr : Reads w w.heap.size 1 A 64 (bvs b)) :
    Calls Tryd.prog 89 #[.agg (wvs s.list).toArray, .slice A 64 c] w (GivesV (.agg (wvs (compr s b).list).toArray) w) := by
  obtain ⟨sa, sb, sc, sd, se, sf, sg, sh⟩ := s
  go_enter Tryd.func89, Tryd.ntmps89
  go_wp2_with (first
    | (with_reducible refine wpList_box_row (o := ⟨some 2, _, _, _, _, _⟩) rfl _ _ rfl (wvs [sa, sb, sc, sd, se, sf, sg, sh]) rfl ?_; intro w1 hrow1 hs1 hg1)
    | (with_reducible refine wpList_alloc_row (o := ⟨some 4, _, _, _, _, _⟩) rfl _ rfl zeros8 zero_w8 ?_; intro w2 hrow2 hs2 hg2))
  have hb2 : Below w.heap.size w w2 := below_kept (grown_below hg1 (Nat.le_refl _) (by simp)) hg2 (by omega) (by simp)
  have hrS2 := hrow1.kept hg2 (by simp)
  clear hrow1 hg1 hg2
  refine (schedule_any A c b w2 ((hr.below hb2).more hb2.size)).mono ?_
  rintro e w3 ⟨rfl, hb3⟩
  have hrS3 := hrS2.on hb3
  have hrR3 := hrow2.on hb3
  have hbel3 := hb2.trans (hb3.mono hb2.size)
  have hs23 := hb3.size
  have hs22 := hrow2.lt
  clear hrS2 hrow2 hb3 hb2
  have HWL := Lib.hid (sched_len b 48)
  obtain ⟨W, hW⟩ : ∃ W, W = sched b 48 := ⟨_, rfl⟩
  rw [← hW] at HWL ⊢
  have HC := Lib.hid (compr_eq ⟨sa, sb, sc, sd, se, sf, sg, sh⟩ b W hW)
  clear hW
  go_wp2_with (first
    | (with_reducible refine wpList_alloc_row (o := ⟨some 5, _, _, _, _, _⟩) rfl _ rfl zeros64 zero_w64 ?_; intro w4 hrow4 hs4 hg4)
    | (with_reducible refine wpList_store_all (o := ⟨none, _, _, _, _, _⟩) rfl _ _ _ rfl w3.heap.size rfl _ _ hrow4 _ rfl (wvs_one _) (w64_zeros W HWL.out) (w64_size W HWL.out) ?_; intro w5 hrow5 hg5))
  have hrS5 := (hrS3.kept hg4 (by simp)).kept hg5 (by simp; omega)
  have hrR5 := (hrR3.kept hg4 (by simp)).kept hg5 (by simp; omega)
  have hbel5 := below_kept (below_kept hbel3 hg4 hbel3.size (by simp)) hg5 (by have := hbel3.size; omega) (by rintro k hk; cases hk; exact hbel3.size)
  clear hrS3 hrR3 hrow4 hg4 hg5 hbel3
  have h50 := hrS5.cell (j := 0) rfl
  have h51 := hrS5.cell (j := 1) rfl
  have h52 := hrS5.cell (j := 2) rfl
  have h53 := hrS5.cell (j := 3) rfl
  have h54 := hrS5.cell (j := 4) rfl
  have h55 := hrS5.cell (j := 5) rfl
  have h56 := hrS5.cell (j := 6) rfl
  have h57 := hrS5.cell (j := 7) rfl
  go_quiet (fail)
  clear h50 h51 h52 h53 h54 h55 h56 h57
  have hrS := hrS5.drewN nq
  have hrR := hrR5.drewN nq
  have hrW := hrow5.drewN nq
  have hbel := below_drewN hbel5 nq
  clear hrS5 hrR5 hrow5 hbel5
  generalize w5.drewN nq = w6 at *
  go_wp2_with fail
  go_loopg [6, 7, 8, 9, 10, 11, 12, 13, 14, 15, 16, 35] 64 (fun g s6 s7 s8 s9 s10 s11 s12 s13 s14 s15 s16 s35 wr => ∃ (i : Nat) (va vb vc vd ve vf vg vh : UInt32), Hid (i + g = 64) ∧ i ≤ 64 ∧ s35 = .int .i64 i ∧
    Hid (rounds W ⟨sa, sb, sc, sd, se, sf, sg, sh⟩ i = ⟨va, vb, vc, vd, ve, vf, vg, vh⟩) ∧ s6 = .int .u32 (wi va) ∧ s7 = .int .u32 (wi vb) ∧ s8 = .int .u32 (wi vc) ∧ s9 = .int .u32 (wi vd) ∧ s10 = .int .u32 (wi ve) ∧ s11 = .int .u32 (wi vf) ∧ s12 = .int .u32 (wi vg) ∧ s13 = .int .u32 (wi vh) ∧
    Row wr w.heap.size 137 (wvs [sa, sb, sc, sd, se, sf, sg, sh]) ∧ Row wr w1.heap.size 137 zeros8 ∧ Row wr w3.heap.size 142 (wvs W) ∧ Below w.heap.size w wr)
  case atStart => exact ⟨0, sa, sb, sc, sd, se, sf, sg, sh, rfl, by omega, rfl, rfl, rfl, rfl, rfl, rfl, rfl, rfl, rfl, rfl, hrS, hrR, hrW, hbel⟩
  case round =>
    obtain ⟨i, va, vb, vc, vd, ve, vf, vg, vh, HI, hi, rfl, HR, rfl, rfl, rfl, rfl, rfl, rfl, rfl, rfl, hrS, hrR, hrW, hbel⟩ := hrel
    by_cases hlt : i < 64
    · have hkr := (hk.on hbel).2 i hlt
      have hwr := hrW.cell (j := i) (u := wv (W.getD i 0)) (by
        have hl : i < W.length := by rw [HWL.out]; omega
        unfold wvs; rw [List.getElem?_map, List.getElem?_eq_getElem hl, List.getD, List.getElem?_eq_getElem hl]; rfl)
      have HN : Hid (rounds W ⟨sa, sb, sc, sd, se, sf, sg, sh⟩ (i + 1) = St.round ⟨va, vb, vc, vd, ve, vf, vg, vh⟩ (roundK.getD i 0) (W.getD i 0)) := by
        show _ = _
        rw [rounds, HR.out]
      generalize roundK.getD i 0 = rk at *
      generalize W.getD i 0 = rw at *
      unfold wv at hkr hwr
      have r1 := wi_xor
      have r2 := wi_plus
      have r3 := wi_and
      have r4 := wi_not
      go_wp2_with fail
      go_quiet ((go_at_call 91; exact Calls.quiet_of_same (rotr_any ve _ _ (by omega) (by omega))))
      have hrS := hrS.drewN nq
      have hrR := hrR.drewN nq
      have hrW := hrW.drewN nq
      have hbel := below_drewN hbel nq
      clear hkr hwr
      generalize wr.drewN nq = wr2 at *
      go_wp2_with (go_at_call 91; refine (rotr_any va _ _ (by omega) (by omega)).mono ?_; rintro e w' ⟨rfl, rfl⟩)
      clear r1 r2 r3 r4
      go_roundg (gk - 1)
      case measure => have := HI.out; omega
      case rel => exact ⟨i + 1, _, _, _, _, _, _, _, _, by have := HI.out; show _ = _; omega, by omega, by go_num, HN, congrArg (Value.int .u32) (wi_sum5 _ _ _ _ _), rfl, rfl, rfl, congrArg (Value.int .u32) (wi_sum5b _ _ _ _ _), rfl, rfl, rfl, hrS, hrR, hrW, hbel⟩
    · have HI64 : Hid (i = 64) := by show _ = _; omega
      rw [HI64.out] at HR
      have HC2 : Hid (compr ⟨sa, sb, sc, sd, se, sf, sg, sh⟩ b = ⟨sa + va, sb + vb, sc + vc, sd + vd, se + ve, sf + vf, sg + vg, sh + vh⟩) := by
        show _ = _
        rw [HC.out, HR.out, St.plus]
      have h50 := hrS.cell (j := 0) rfl
      have h51 := hrS.cell (j := 1) rfl
      have h52 := hrS.cell (j := 2) rfl
      have h53 := hrS.cell (j := 3) rfl
      have h54 := hrS.cell (j := 4) rfl
      have h55 := hrS.cell (j := 5) rfl
      have h56 := hrS.cell (j := 6) rfl
      have h57 := hrS.cell (j := 7) rfl
      unfold wv at h50 h51 h52 h53 h54 h55 h56 h57
      have r2 := wi_plus
      go_wp2_with (with_reducible refine wpList_store_all (o := ⟨none, _, _, _, _, _⟩) rfl _ _ _ rfl w1.heap.size rfl _ _ hrR (wvs [sa + va, sb + vb, sc + vc, sd + vd, se + ve, sf + vf, sg + vg, sh + vh]) rfl (wvs_one _) rfl (w8_size _ rfl) ?_; intro w7 hrow7 hg7)
      have hload := run_loadVar_at (P := Tryd.prog) w7 137 ⟨w1.heap.size, 0, none⟩ _ hrow7.cells _ Tryd.underlying137 rfl (w8_size _ rfl)
      exact bodyPost_ret (results_cell1 Tryd.results89 _ _ _ _ rfl hload) rfl ⟨by rw [HC2.out]; rfl, below_kept hbel hg7 hbel.size (by rintro k hk; cases hk; omega)⟩
end Go.Proofs.YtfclifolniefpaaDoor
