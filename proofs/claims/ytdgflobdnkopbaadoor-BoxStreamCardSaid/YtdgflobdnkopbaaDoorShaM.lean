/-
  The plain functions of layer 2: SHA-256, HMAC, digests and streams, on lists of bytes. Plain functions and their laws alone. No condition.
-/
import Derived.Test.YtdgflobdnkopbaaDoorBase
import Derived.Test.YtdgflobdnkopbaaDoorProg
import Derived.WalkMore
import Derived.Outline
import Derived.Laws.ShiftsVarLaws
import Derived.StillTail
import Derived.BigQuiet
import Derived.Deep.LoopGhost
namespace Go.Proofs.YtdgflobdnkopbaaDoor

/-- Rotation to the right by n, 1 to 31. -/
def rot (x : UInt32) (n : Nat) : UInt32 := UInt32.ofNat (x.toNat / 2 ^ n ||| x.toNat * 2 ^ (32 - n) % 4294967296)
def shr (x : UInt32) (n : Nat) : UInt32 := UInt32.ofNat (x.toNat / 2 ^ n)

def sig0 (x : UInt32) : UInt32 := (rot x 7 ^^^ rot x 18) ^^^ shr x 3
def sig1 (x : UInt32) : UInt32 := (rot x 17 ^^^ rot x 19) ^^^ shr x 10

/-- The word at a place of a list of bytes. -/
def wordAt (b : List UInt8) (i : Nat) : UInt32 :=
  UInt32.ofNat ((b.getD i 0).toNat * 16777216 + (b.getD (i + 1) 0).toNat * 65536 + (b.getD (i + 2) 0).toNat * 256 + (b.getD (i + 3) 0).toNat)
/-- The first n words. -/
def wordsOf (b : List UInt8) : Nat → List UInt32
  | 0 => []
  | n + 1 => wordsOf b n ++ [wordAt b (4 * n)]
def nextW (l : List UInt32) : UInt32 :=
  l.getD (l.length - 16) 0 + sig0 (l.getD (l.length - 15) 0) + l.getD (l.length - 7) 0 + sig1 (l.getD (l.length - 2) 0)
/-- The schedule: 16 words and n more. -/
def sched (b : List UInt8) : Nat → List UInt32
  | 0 => wordsOf b 16
  | n + 1 => sched b n ++ [nextW (sched b n)]

structure St where
  a : UInt32
  b : UInt32
  c : UInt32
  d : UInt32
  e : UInt32
  f : UInt32
  g : UInt32
  h : UInt32

def St.t1 (s : St) (k w : UInt32) : UInt32 := s.h + ((rot s.e 6 ^^^ rot s.e 11) ^^^ rot s.e 25) + ((s.e &&& s.f) ^^^ (~~~s.e &&& s.g)) + k + w
def St.t2 (s : St) : UInt32 := ((rot s.a 2 ^^^ rot s.a 13) ^^^ rot s.a 22) + (((s.a &&& s.b) ^^^ (s.a &&& s.c)) ^^^ (s.b &&& s.c))
def St.round (s : St) (k w : UInt32) : St := ⟨s.t1 k w + s.t2, s.a, s.b, s.c, s.d + s.t1 k w, s.e, s.f, s.g⟩
def St.plus (s t : St) : St := ⟨s.a + t.a, s.b + t.b, s.c + t.c, s.d + t.d, s.e + t.e, s.f + t.f, s.g + t.g, s.h + t.h⟩
def St.list (s : St) : List UInt32 := [s.a, s.b, s.c, s.d, s.e, s.f, s.g, s.h]

def roundK : List UInt32 := [
  0x428a2f98, 0x71374491, 0xb5c0fbcf, 0xe9b5dba5, 0x3956c25b, 0x59f111f1, 0x923f82a4, 0xab1c5ed5,
  0xd807aa98, 0x12835b01, 0x243185be, 0x550c7dc3, 0x72be5d74, 0x80deb1fe, 0x9bdc06a7, 0xc19bf174,
  0xe49b69c1, 0xefbe4786, 0x0fc19dc6, 0x240ca1cc, 0x2de92c6f, 0x4a7484aa, 0x5cb0a9dc, 0x76f988da,
  0x983e5152, 0xa831c66d, 0xb00327c8, 0xbf597fc7, 0xc6e00bf3, 0xd5a79147, 0x06ca6351, 0x14292967,
  0x27b70a85, 0x2e1b2138, 0x4d2c6dfc, 0x53380d13, 0x650a7354, 0x766a0abb, 0x81c2c92e, 0x92722c85,
  0xa2bfe8a1, 0xa81a664b, 0xc24b8b70, 0xc76c51a3, 0xd192e819, 0xd6990624, 0xf40e3585, 0x106aa070,
  0x19a4c116, 0x1e376c08, 0x2748774c, 0x34b0bcb5, 0x391c0cb3, 0x4ed8aa4a, 0x5b9cca4f, 0x682e6ff3,
  0x748f82ee, 0x78a5636f, 0x84c87814, 0x8cc70208, 0x90befffa, 0xa4506ceb, 0xbef9a3f7, 0xc67178f2]
def first8 : St := ⟨0x6a09e667, 0xbb67ae85, 0x3c6ef372, 0xa54ff53a, 0x510e527f, 0x9b05688c, 0x1f83d9ab, 0x5be0cd19⟩

/-- The state behind n rounds over the words W. -/
def rounds (W : List UInt32) (s : St) : Nat → St
  | 0 => s
  | n + 1 => (rounds W s n).round (roundK.getD n 0) (W.getD n 0)
/-- The compression of one block of 64 bytes. -/
def compr (s : St) (b : List UInt8) : St := s.plus (rounds (sched b 48) s 64)
/-- The state behind the first n blocks. -/
def blocksN (s : St) (l : List UInt8) : Nat → St
  | 0 => s
  | n + 1 => compr (blocksN s l n) ((l.drop (64 * n)).take 64)

/-- What is appended to n bytes. -/
def zerosN (n : Nat) : Nat := (119 - n % 64) % 64
def be64 (n : Nat) : List UInt8 := [UInt8.ofNat (n / 2 ^ 56), UInt8.ofNat (n / 2 ^ 48), UInt8.ofNat (n / 2 ^ 40), UInt8.ofNat (n / 2 ^ 32), UInt8.ofNat (n / 2 ^ 24), UInt8.ofNat (n / 2 ^ 16), UInt8.ofNat (n / 2 ^ 8), UInt8.ofNat n]
def padding (n : Nat) : List UInt8 := 128 :: (List.replicate (zerosN n) 0 ++ be64 (8 * n))
def word4 (x : UInt32) : List UInt8 := [UInt8.ofNat (x.toNat / 16777216), UInt8.ofNat (x.toNat / 65536), UInt8.ofNat (x.toNat / 256), UInt8.ofNat x.toNat]
def St.bytes (s : St) : List UInt8 := s.list.flatMap word4
def padded (l : List UInt8) : List UInt8 := l ++ padding l.length
/-- SHA-256. -/
def sha (l : List UInt8) : List UInt8 := (blocksN first8 (padded l) ((padded l).length / 64)).bytes

theorem sha_empty4 : (sha []).take 4 = [0xe3, 0xb0, 0xc4, 0x42] := by decide +kernel
theorem sha_abc4 : (sha [97, 98, 99]).take 4 = [0xba, 0x78, 0x16, 0xbf] := by decide +kernel
end Go.Proofs.YtdgflobdnkopbaaDoor

/-
  Words of 32 bits in the walk; what sha.rotr, bits.RotateLeft32 and the reference's rot return. Conditions: a rotation by 1 to 31.
-/
namespace Go.Proofs.YtdgflobdnkopbaaDoor
open Go.RowKit

/-- A word as an integer. -/
def wi (x : UInt32) : Int := (x.toNat : Int)
def wv (x : UInt32) : Value := .int .u32 (wi x)
theorem u32lt (x : UInt32) : x.toNat < 4294967296 := x.toNat_lt
theorem wi_plus (x y : UInt32) : (wi x + wi y) % 4294967296 = wi (x + y) := by
  unfold wi
  rw [UInt32.toNat_add]; omega
theorem wi_xor (x y : UInt32) : bits .xor .u32 (wi x) (wi y) = wi (x ^^^ y) := by
  unfold wi
  rw [u32_xor_nat _ _ (u32lt x) (u32lt y), UInt32.toNat_xor]
theorem wi_and (x y : UInt32) : bits .and .u32 (wi x) (wi y) = wi (x &&& y) := by
  unfold wi
  rw [u32_and_nat _ _ (u32lt x) (u32lt y), UInt32.toNat_and]
theorem wi_or (x y : UInt32) : bits .or .u32 (wi x) (wi y) = wi (x ||| y) := by
  unfold wi
  rw [u32_or_nat _ _ (u32lt x) (u32lt y), UInt32.toNat_or]
theorem toNat_ofNat32 (n : Nat) (h : n < 4294967296) : (UInt32.ofNat n).toNat = n := by
  rw [UInt32.toNat_ofNat']; exact Nat.mod_eq_of_lt (by omega)
theorem rot_lt (x n : Nat) (hx : x < 4294967296) : x / 2 ^ n ||| x * 2 ^ (32 - n) % 4294967296 < 4294967296 := by
  refine Nat.or_lt_two_pow (n := 32) ?_ (by omega)
  exact Nat.lt_of_le_of_lt (Nat.div_le_self _ _) hx
theorem rot_toNat (x : UInt32) (n : Nat) : (rot x n).toNat = (x.toNat / 2 ^ n ||| x.toNat * 2 ^ (32 - n) % 4294967296) := by
  unfold rot
  exact toNat_ofNat32 _ (rot_lt _ _ (u32lt x))
theorem shr_toNat (x : UInt32) (n : Nat) : (shr x n).toNat = x.toNat / 2 ^ n := by
  unfold shr
  exact toNat_ofNat32 _ (Nat.lt_of_le_of_lt (Nat.div_le_self _ _) (u32lt x))

theorem rot_turn (n : Nat) (h1 : 1 ≤ n) (h2 : n ≤ 31) : bits .and .u64 (IntKind.u64.wrap (-(n : Int))) 31 = 32 - (n : Int) := by
  have e : IntKind.u64.wrap (-(n : Int)) = ((18446744073709551616 - n : Nat) : Int) := by rw [IntKind.wrap_u64]; omega
  have h := u64_and_mask (18446744073709551616 - n) 5 (by omega) (by decide)
  rw [e]
  rw [show ((2 ^ 5 - 1 : Nat) : Int) = 31 from rfl] at h
  rw [h]
  omega
theorem rot_val (x : UInt32) (n : Nat) : bits .or .u32 ((x.toNat : Int) / 2 ^ n) ((x.toNat : Int) * 2 ^ (32 - n) % 4294967296) = ((rot x n).toNat : Int) := by
  have h1 : (x.toNat : Int) / 2 ^ n = ((x.toNat / 2 ^ n : Nat) : Int) := by push_cast; rfl
  have h2 : (x.toNat : Int) * 2 ^ (32 - n) % 4294967296 = ((x.toNat * 2 ^ (32 - n) % 4294967296 : Nat) : Int) := by rw [Int.natCast_emod, Int.natCast_mul, Int.natCast_pow]; rfl
  have hx := u32lt x
  rw [h1, h2, u32_or_nat _ _ (Nat.lt_of_le_of_lt (Nat.div_le_self _ _) hx) (Nat.mod_lt _ (by decide)), rot_toNat]
theorem u32_or_comm (a b : Int) : bits .or .u32 a b = bits .or .u32 b a := by simp only [bits, BitVec.or_comm]

theorem wi_shr3 (x : UInt32) : wi x / 8 = wi (shr x 3) := by
  unfold wi
  rw [shr_toNat]; omega
theorem wi_shr10 (x : UInt32) : wi x / 1024 = wi (shr x 10) := by
  unfold wi
  rw [shr_toNat]; omega

set_option maxHeartbeats 400000 in
theorem rotateLeft_any (x : UInt32) (n : Nat) (w : World) (h1 : 1 ≤ n) (h2 : n ≤ 31) :
    Calls Tryd.prog 54 #[.int .u32 (wi x), .int .i64 (-(n : Int))] w fun e w' => e = .returned (.int .u32 (wi (rot x n))) ∧ w = w' := by
  unfold wi
  have hx := u32lt x
  have HV := Lib.hid (rot_val x n)
  have ht := rot_turn n h1 h2
  go_enter Tryd.func54, Tryd.ntmps54
  go_wp2_with fail
  go_ret
  refine ⟨?_, rfl⟩
  show Ending.returned (Value.int IntKind.u32 (bits BinOp.or IntKind.u32 ((x.toNat : Int) * 2 ^ (32 - n) % 4294967296) ((x.toNat : Int) / 2 ^ (32 - (32 - n))))) = _
  rw [u32_or_comm, show 32 - (32 - n) = n by omega, HV.out]

set_option maxHeartbeats 400000 in
theorem rotr_any (x : UInt32) (n : Int) (w : World) (h1 : 1 ≤ n) (h2 : n ≤ 31) :
    Calls Tryd.prog 51 #[.int .u32 (wi x), .int .i64 n] w fun e w' => e = .returned (.int .u32 (wi (rot x n.toNat))) ∧ w' = w := by
  obtain ⟨n, rfl⟩ := Int.eq_ofNat_of_zero_le (show 0 ≤ n by omega)
  have hc := fun W => Lib.hid (rotateLeft_any x n W (by omega) (by omega))
  go_enter Tryd.func51, Tryd.ntmps51
  go_wp2_with fail
  refine (hc _).out.mono ?_
  rintro e w' ⟨rfl, rfl⟩
  go_wp2_with fail
  go_ret
  exact ⟨rfl, rfl⟩

set_option maxHeartbeats 400000 in
theorem refRot_any (x : UInt32) (n : Int) (w : World) (h1 : 1 ≤ n) (h2 : n ≤ 31) :
    Calls Tryd.prog 53 #[.int .u32 (wi x), .int .i64 n] w fun e w' => e = .returned (.int .u32 (wi (rot x n.toNat))) ∧ ∃ m, w' = w.drewN m := by
  obtain ⟨n, rfl⟩ := Int.eq_ofNat_of_zero_le (show 0 ≤ n by omega)
  unfold wi
  have hx := u32lt x
  have HV := Lib.hid (rot_val x n)
  go_enter Tryd.func53, Tryd.ntmps53
  go_wp2_with fail
  go_quiet (fail)
  go_wp2_with fail
  go_ret
  refine ⟨?_, _, rfl⟩
  show Ending.returned (Value.int IntKind.u32 (bits BinOp.or IntKind.u32 ((x.toNat : Int) / 2 ^ n) ((x.toNat : Int) * 2 ^ (32 - n) % 4294967296))) = Ending.returned (Value.int IntKind.u32 ((rot x n).toNat : Int))
  rw [HV.out]
end Go.Proofs.YtdgflobdnkopbaaDoor

/-
  Rows: a block of the call's own that holds an array, and the operations on it, each of which leaves a world of which only what is said is known. Over any program. No condition.
-/
namespace Go.Proofs.YtdgflobdnkopbaaDoor
open Go.RowKit

theorem add_pos (a : Addr) (n : Nat) (h : 0 < n) : a.add n = ⟨a.block, a.off + n, none⟩ := by unfold Addr.add; rw [if_neg (by omega)]
/-- Block g is a row of cells. -/
def Row (w : World) (g : Nat) (e : TypeId) (cs : List Value) : Prop := w.heap[g]? = some (.cells cs.toArray e (0, 0))
section
variable {w w' : World} {g : Nat} {e : TypeId} {cs : List Value}
theorem Row.lt (h : Row w g e cs) : g < w.heap.size := (Array.getElem?_eq_some_iff.1 h).1
theorem Row.kept {row : Option Nat} (h : Row w g e cs) (hg : w.grownBy w' row) (hne : some g ≠ row) : Row w' g e cs := (hg.block g h.lt hne).trans h
theorem Row.below {B : Nat} (h : Row w g e cs) (hb : Below B w w') (hB : g < B) : Row w' g e cs := (hb.block g hB).trans h
theorem Row.on (h : Row w g e cs) (hb : Below w.heap.size w w') : Row w' g e cs := h.below hb h.lt
theorem Row.drew (h : Row w g e cs) : Row w.drew g e cs := h
theorem Row.drewN (h : Row w g e cs) (k : Nat) : Row (w.drewN k) g e cs := h
theorem Row.cell (h : Row w g e cs) {j : Nat} {u : Value} (hj : cs[j]? = some u) : w.cell? ⟨g, j, none⟩ = some u := by
  unfold World.cell?
  unfold Row at h
  simp [h, hj]
theorem Row.cells (h : Row w g e cs) : ∀ j u, cs[j]? = some u → w.cell? ((⟨g, 0, none⟩ : Addr).add j) = some u := fun j u hj => by
  rw [Addr.add_lit, Nat.zero_add]
  exact h.cell hj
theorem Row.reads {size n : Nat} (h : Row w g e cs) (hl : cs.length = n * size) : Reads w w.heap.size size (some ⟨g, 0, none⟩) n cs :=
  ⟨hl, fun _ => ⟨_, rfl, h.lt, h.cells⟩⟩
theorem Row.free (h : Row w g e cs) (j : Nat) : w.frozen? ⟨g, j, none⟩ = false := by
  unfold World.frozen?
  unfold Row at h
  simp [h]
theorem Reads.kept {B size n : Nat} {A : Option Addr} {xs : List Value} {row : Option Nat} (h : Reads w B size A n xs) (hg : w.grownBy w' row) (hB : B ≤ w.heap.size) (hne : ∀ k, row = some k → B ≤ k) : Reads w' B size A n xs :=
  h.keep fun p hp => World.cell?_of_block (hg.block p.block (by omega) (fun e => by have := hne _ e.symm; omega))
theorem below_kept {B : Nat} {w0 : World} {row : Option Nat} (h : Below B w0 w) (hg : w.grownBy w' row) (hB : B ≤ w.heap.size) (hne : ∀ k, row = some k → B ≤ k) : Below B w0 w' := h.grown hg hB hne
theorem grown_below {row : Option Nat} (hg : w.grownBy w' row) {B : Nat} (hB : B ≤ w.heap.size) (hne : ∀ k, row = some k → B ≤ k) : Below B w w' := (Below.refl _ _).grown hg hB hne
theorem below_drewN {B : Nat} {w0 : World} (h : Below B w0 w) (k : Nat) : Below B w0 (w.drewN k) := ⟨h.os, h.tape, h.output, h.size, h.block⟩
theorem below_grownBy (h : Below w.heap.size w w') (row : Option Nat) : w.grownBy w' row := ⟨h.os, h.tape, h.output, h.size, fun k hk _ => h.block k hk⟩
end
theorem row_alloc (w : World) (e : TypeId) (cs : List Value) : Row (w.alloc (.cells cs.toArray e)) w.heap.size e cs := Go.heap_alloc_new _ _

section
variable {P : Program}
theorem run_store_elem (w : World) (ty : TypeId) (g j : Nat) (e : TypeId) (cs : List Value) (hr : Row w g e cs) (v : Value) (h1 : v.oneCell' = true) (hj : j < cs.length) (hi : (P.info? ty).map (·.size) = some 1) :
    ∃ w', (storeVar ty ⟨g, j, none⟩ v).run P w = .ok () w' ∧ Row w' g e (cs.set j v) ∧ w'.heap.size = w.heap.size ∧ w.grownBy w' (some g) := by
  have hst := run_storeCells_at P g j e [v] 0 cs.toArray w hr (by simp; omega) (by simpa using h1)
  have hvc : v.cells = #[v] := by cases v <;> first | rfl | (simp [Value.oneCell'] at h1)
  refine ⟨w.setRow g (cs.set j v).toArray, ?_, setRow_heap w g _ _ e _ hr, by simp, ⟨rfl, rfl, rfl, by simp, fun k _ hk => setRow_other w g k _ (fun he => hk (by rw [he]))⟩⟩
  have es : (cs.take j ++ [v] ++ cs.drop (j + 1)) = cs.set j v := by
    rw [List.set_eq_take_append_cons_drop, if_pos hj]
    simp
  cases hq : P.info? ty with
  | none => simp [hq] at hi
  | some i =>
    have hs : i.size = 1 := by simpa [hq] using hi
    simp only [Nat.add_zero, List.length_singleton] at hst
    rw [es] at hst
    simp [storeVar, Sem.run_bind, sizeOf, typeInfo, hq, hs, hvc, hst]

section
variable {ops : Array Oper} {rest : List Oper} {o : Oper} {a : Act} {w : World} {Q : Exit → Act → World → Prop}
theorem exec_alloc_row {ρ : Operand → Value} (o : Oper) (ty : TypeId) (ho : o.op = .alloc ty) (z : Value) (hz : (P.info? ty).map (·.zero) = some (some z)) : (execOp ρ o).run P w = .ok (.value (.pointer (some ⟨w.heap.size, 0, none⟩))) (w.alloc (.cells z.cells ty)) := by
  cases hq : P.info? ty with
  | none => simp [hq] at hz
  | some i =>
    have hs : i.zero = some z := by simpa [hq] using hz
    unfold execOp
    simp [ho, Instr.alloc, zeroValue, typeInfo, hq, hs, newVar, newRow]
theorem wpList_alloc_row (hgd : o.guard = none) (ty : TypeId) (ho : o.op = .alloc ty) (cs : List Value) (hz : (P.info? ty).map (fun i => i.zero.map (·.cells)) = some (some cs.toArray))
    (h : ∀ w', Row w' w.heap.size ty cs → w.heap.size < w'.heap.size → w.grownBy w' none → wpList P ops Q rest (a.put o.dst (.pointer (some ⟨w.heap.size, 0, none⟩))) w') : wpList P ops Q (o :: rest) a w := by
  cases hq : P.info? ty with
  | none => simp [hq] at hz
  | some i =>
    cases hz0 : i.zero with
    | none => simp [hq, hz0] at hz
    | some z =>
      have hzc : z.cells = cs.toArray := by simpa [hq, hz0] using hz
      refine wpList_valueW hgd _ (exec_alloc_row o ty ho z (by simp [hq, hz0])) ?_
      rw [hzc]
      exact h _ (row_alloc w ty cs) (by simp) (World.grownBy_alloc w _ none)
theorem wpList_make_row (hgd : o.guard = none) (t : TypeId) (x y : Operand) (ho : o.op = .makeSlice t x y) (e : TypeId) (ht : P.underlying t = some (.slice e)) (z : Value) (hz1 : z.cells = #[z]) (b : Nat) (hi : (P.info? e).map (fun i => (i.zero, i.size, i.bytes)) = some (some z, 1, b))
    (kl kc : IntKind) (l c : Nat) (hx : a.eval x = .int kl (l : Int)) (hy : a.eval y = .int kc (c : Int)) (hlc : l ≤ c) (hb : b * c ≤ 281474976710656) (hc : c ≤ 9223372036854775807)
    (h : ∀ w', Row w' w.heap.size e (List.replicate c z) → w.heap.size < w'.heap.size → w.grownBy w' none → wpList P ops Q rest (a.put o.dst (.slice (some ⟨w.heap.size, 0, none⟩) l c)) w') : wpList P ops Q (o :: rest) a w := by
  obtain ⟨i, hi1, hi2, hi3, hi4⟩ := info_parts hi
  have hr := run_make (P := P) w t e i z ht hi1 hi2 kl kc (l : Int) (c : Int) (by omega) (by omega) (by rw [hi4, ← Int.natCast_mul]; generalize b * c = q at *; omega) (by omega)
  rw [Int.toNat_natCast, Int.toNat_natCast, hi3, Nat.mul_one, hz1] at hr
  have hm : madeCells #[z] c = (List.replicate c z).toArray := by
    apply Array.ext
    · simp [size_madeCells]
    · intro j h1 h2
      simp [madeCells, Nat.mod_one]
  rw [hm] at hr
  refine wpList_valueW hgd (.slice (some ⟨w.heap.size, 0, none⟩) l c) ?_ (h _ (row_alloc w e _) (by simp) (World.grownBy_alloc w _ none))
  unfold execOp
  simp [ho, hx, hy, hr]
theorem wpList_box_row (hgd : o.guard = none) (ty : TypeId) (x : Operand) (ho : o.op = .box ty x) (cs : List Value) (hx : (a.eval x).cells = cs.toArray)
    (h : ∀ w', Row w' w.heap.size ty cs → w.heap.size < w'.heap.size → w.grownBy w' none → wpList P ops Q rest (a.put o.dst (.pointer (some ⟨w.heap.size, 0, none⟩))) w') : wpList P ops Q (o :: rest) a w := by
  refine wpList_valueW (w' := w.alloc (.cells cs.toArray ty)) hgd (.pointer (some ⟨w.heap.size, 0, none⟩)) ?_ (h _ (row_alloc w ty cs) (by simp) (World.grownBy_alloc w _ none))
  unfold execOp
  simp [ho, Instr.box, newVar, newRow, hx]
theorem wpList_store_elem (hgd : o.guard = none) (ty : TypeId) (x v : Operand) (ho : o.op = .store ty x v) (g j : Nat) (hx : a.eval x = .pointer (some ⟨g, j, none⟩)) (e : TypeId) (cs : List Value) (hr : Row w g e cs) (u : Value) (hv : a.eval v = u)
    (h1 : u.oneCell' = true) (hj : j < cs.length) (hi : (P.info? ty).map (·.size) = some 1)
    (h : ∀ w', Row w' g e (cs.set j u) → w.grownBy w' (some g) → wpList P ops Q rest (a.put o.dst undef) w') : wpList P ops Q (o :: rest) a w := by
  obtain ⟨w', hrun, h2, h3, h4⟩ := run_store_elem w ty g j e cs hr u h1 hj hi
  refine wpList_plain hgd fun K hK => ?_
  unfold Oper.wp execOp
  simp only [ho, hx, hv, Instr.storeAt, Instr.sureAddr, Sem.run_bind, Sem.run_pure, Result.andThen_ok, hrun]
  exact hK _ _ (h _ h2 h4)
theorem wpList_store_all (hgd : o.guard = none) (ty : TypeId) (x v : Operand) (ho : o.op = .store ty x v) (g : Nat) (hx : a.eval x = .pointer (some ⟨g, 0, none⟩)) (e : TypeId) (cur : List Value) (hr : Row w g e cur) (cs : List Value) (hv : a.eval v = .agg cs.toArray)
    (h1 : ∀ u ∈ cs, u.oneCell' = true) (hl : cur.length = cs.length) (hi : (P.info? ty).map (·.size) = some cs.length)
    (h : ∀ w', Row w' g e cs → w.grownBy w' (some g) → wpList P ops Q rest (a.put o.dst undef) w') : wpList P ops Q (o :: rest) a w :=
  wpList_store_row hgd ty x v ho g hx cs.toArray hv cur.toArray e hr (by simpa using h1) (by simpa using hl) (by simpa using hi)
    (h _ (setRow_heap w g _ _ e _ hr) ⟨rfl, rfl, rfl, by simp, fun k _ hk => setRow_other w g k _ (fun he => hk (by rw [he]))⟩)
theorem wpList_load_all (hgd : o.guard = none) (ty : TypeId) (x : Operand) (ho : o.op = .load ty x) (g : Nat) (hx : a.eval x = .pointer (some ⟨g, 0, none⟩)) (e : TypeId) (cs : List Value) (hr : Row w g e cs) (d : TypeDesc)
    (hu : P.underlying ty = some d) (hd : (match d with | .struct _ | .array _ _ => true | _ => false) = true) (hi : (P.info? ty).map (·.size) = some cs.length)
    (h : wpList P ops Q rest (a.put o.dst (.agg cs.toArray)) w) : wpList P ops Q (o :: rest) a w :=
  wpList_load_at hgd ty x ho ⟨g, 0, none⟩ hx cs hr.cells d hu hd hi h
end
end

/-- A row of one's own, as a slice value: it owns its cells. -/
theorem Row.owns {w : World} {g : Nat} {e : TypeId} {cs : List Value} (h : Row w g e cs) {base : Nat} (hb : base ≤ g) (n : Nat) (hn : n ≤ cs.length) (hm : cs.length ≤ maxLen) :
    w.ownsRow base e 1 (.slice (some ⟨g, 0, none⟩) n cs.length) n (cs.take n) :=
  ⟨by rw [List.length_take]; omega, .inr ⟨g, cs.length, cs.toArray, rfl, hb, h, hn, hm, by simp, by simp⟩⟩
theorem Row.owns_all {w : World} {g : Nat} {e : TypeId} {cs : List Value} (h : Row w g e cs) {base : Nat} (hb : base ≤ g) (n : Nat) (hn : cs.length = n) (hm : n ≤ maxLen) :
    w.ownsRow base e 1 (.slice (some ⟨g, 0, none⟩) n n) n cs := by
  subst hn
  have := h.owns hb cs.length (Nat.le_refl _) hm
  rwa [List.take_length] at this

/-- One result, in memory. -/
theorem results_cell1 {P : Program} {fn : Func} {p : Tmp} {ty : TypeId} (h : fn.results = #[.cell p ty]) (tmps : Array Value) (w : World) (ad : Addr) (x : Value) (hp : tmps.getD p undef = .pointer (some ad))
    (hl : (loadVar ty ad).run P w = .ok x w) : (results fn tmps).run P w = .ok x w := by
  have hp' : tmps[p]?.getD undef = .pointer (some ad) := by simpa using hp
  simp [results, h, hp', asAddr, hl]

/-! ## A region that draws its order, whose last operations come in one order: one walk -/
section
variable {P : Program}
theorem still_of_quiet {ops : Array Oper} {w : World} {Q : Act → Prop} : ∀ (l : List Oper) (a : Act), wpQuiet P ops (fun w' => w' = w) Q l a → wpStill P ops w Q l a
  | [], _, h => h
  | o :: l, a, h => by
    unfold wpQuiet at h
    unfold wpStill
    split
    · rename_i hw
      simp only [hw, if_true] at h
      obtain ⟨v, h1, h2⟩ := h
      have h3 := h1 w rfl
      have h4 := still_of_quiet l _ h2
      unfold Oper.quietAt at h3
      unfold Oper.still
      generalize (execOp a.eval o).run P w = r at *
      cases r with
      | ok n w' =>
        cases n <;> simp only [Oper.quietUpon] at h3 <;> simp only [Oper.stillUpon]
        case value u => exact ⟨h3.1, by rw [h3.2]; exact h4⟩
        case skip => exact ⟨h3.1, by rw [← h3.2]; exact h4⟩
        case enter f args => exact ⟨h3.1, v, h3.2, h4⟩
      | halt x w' => simp only [Oper.quietUpon] at h3
    · rename_i hw
      simp only [hw] at h
      exact still_of_quiet l _ h
theorem wp_region_tail {id : Nat} {Q : Exit → Act → World → Prop} {a : Act} {w : World} {l : List Oper} (n : Nat) (hm : P.follows .mixedOrders = true) (hB : Region.lexTailB .any l.toArray n = true)
    (h : wpQuiet P l.toArray (fun w' => w' = w.drew) (fun a' => wpList P l.toArray Q (l.drop n) a' w.drew) (l.take n) a) : (Code.region id l.toArray true).wp P Q a w :=
  wp_region_still_tail n hm hB (still_of_quiet _ _ h)
end
end Go.Proofs.YtdgflobdnkopbaaDoor

/-
  What sha.schedule returns: a contract by a walk. No condition beyond a block of 64 bytes.
-/
namespace Go.Proofs.YtdgflobdnkopbaaDoor
open Go.RowKit

def wvs (l : List UInt32) : List Value := l.map wv
theorem wvs_length (l : List UInt32) : (wvs l).length = l.length := List.length_map _
theorem wvs_one (l : List UInt32) : ∀ u ∈ wvs l, u.oneCell' = true := by
  intro u hu
  obtain ⟨b, _, rfl⟩ := List.mem_map.1 hu
  rfl
/-- A value comes back; nothing that was there has changed. -/
def GivesV (v : Value) (w : World) (e : Ending) (w' : World) : Prop := e = .returned v ∧ Below w.heap.size w w'
def zeros64 : List Value := List.replicate 64 (.int .u32 0)
theorem zero_w64 : (Tryd.prog.info? 70).map (fun i => i.zero.map (·.cells)) = some (some zeros64.toArray) := by kernel_rfl
/-- 64 cells of which the first hold the words l. -/
def filled (l : List UInt32) : List Value := wvs l ++ List.replicate (64 - l.length) (.int .u32 0)

theorem set_fill (l : List Value) (z x : Value) (n : Nat) (hn : 0 < n) : (l ++ List.replicate n z).set l.length x = l ++ [x] ++ List.replicate (n - 1) z := by
  obtain ⟨m, rfl⟩ : ∃ m, n = m + 1 := ⟨n - 1, by omega⟩
  rw [List.set_append_right _ _ (Nat.le_refl _), Nat.sub_self, List.replicate_succ, List.set_cons_zero]
  simp
theorem filled_set (l : List UInt32) (x : UInt32) (h : l.length < 64) : (filled l).set l.length (wv x) = filled (l ++ [x]) := by
  unfold filled
  have e := set_fill (wvs l) (.int .u32 0) (wv x) (64 - l.length) (by omega)
  rw [wvs_length] at e
  rw [e, List.length_append, List.length_singleton, show 64 - (l.length + 1) = 64 - l.length - 1 by omega]
  unfold wvs
  simp
theorem filled_len (l : List UInt32) (h : l.length ≤ 64) : (filled l).length = 64 := by
  unfold filled
  rw [List.length_append, wvs_length, List.length_replicate]; omega
theorem filled_at (l : List UInt32) (k : Nat) (h : k < l.length) : (filled l)[k]? = some (wv (l.getD k 0)) := by
  unfold filled wvs
  rw [List.getElem?_append_left (by rw [List.length_map]; exact h), List.getElem?_map, List.getElem?_eq_getElem h, List.getD, List.getElem?_eq_getElem h]
  rfl
theorem filled_all (l : List UInt32) (h : l.length = 64) : filled l = wvs l := by
  unfold filled
  rw [h]
  simp
theorem wordsOf_len (b : List UInt8) (n : Nat) : (wordsOf b n).length = n := by
  induction n with
  | zero => rfl
  | succ n ih => rw [wordsOf, List.length_append, ih]; rfl
theorem sched_len (b : List UInt8) (n : Nat) : (sched b n).length = 16 + n := by
  induction n with
  | zero => exact wordsOf_len b 16
  | succ n ih => rw [sched, List.length_append, ih]; rfl
theorem u8_up (x : UInt8) : (x.toNat : Int) % 4294967296 = ((x.toNat : Nat) : Int) := by
  have := x.toNat_lt
  omega
theorem word_val (x0 x1 x2 x3 : UInt8) :
    bits .or .u32 (bits .or .u32 (bits .or .u32 ((x0.toNat : Int) % 4294967296 * 16777216 % 4294967296) ((x1.toNat : Int) % 4294967296 * 65536 % 4294967296)) ((x2.toNat : Int) % 4294967296 * 256 % 4294967296)) ((x3.toNat : Int) % 4294967296) =
      wi (UInt32.ofNat (x0.toNat * 16777216 + x1.toNat * 65536 + x2.toNat * 256 + x3.toNat)) := by
  unfold wi
  have h0 := x0.toNat_lt
  have h1 := x1.toNat_lt
  have h2 := x2.toNat_lt
  have h3 := x3.toNat_lt
  rw [show (x0.toNat : Int) % 4294967296 * 16777216 % 4294967296 = ((x0.toNat * 16777216 : Nat) : Int) by omega, show (x1.toNat : Int) % 4294967296 * 65536 % 4294967296 = ((x1.toNat * 65536 : Nat) : Int) by omega,
    show (x2.toNat : Int) % 4294967296 * 256 % 4294967296 = ((x2.toNat * 256 : Nat) : Int) by omega, show (x3.toNat : Int) % 4294967296 = ((x3.toNat : Nat) : Int) by omega]
  rw [u32_or_nat _ _ (by omega) (by omega), nat_join 24 (x0.toNat * 16777216) (x1.toNat * 65536) (by omega) (by omega), u32_or_nat _ _ (by omega) (by omega), nat_join 16 _ (x2.toNat * 256) (by omega) (by omega),
    u32_or_nat _ _ (by omega) (by omega), nat_join 8 _ x3.toNat (by omega) (by omega), toNat_ofNat32 _ (by omega)]

theorem w64_size (ws : List UInt32) (h : ws.length = 64) : (Tryd.prog.info? 70).map (·.size) = some (wvs ws).length := by rw [wvs_length, h]; kernel_rfl
theorem w64_zeros (ws : List UInt32) (h : ws.length = 64) : zeros64.length = (wvs ws).length := by rw [wvs_length, h]; rfl

set_option maxRecDepth 100000 in
set_option maxHeartbeats 2000000 in
theorem schedule_any (A : Option Addr) (c : Nat) (b : List UInt8) (w : World) (hr : Reads w w.heap.size 1 A 64 (bvs b)) :
    Calls Tryd.prog 50 #[.slice A 64 c] w (GivesV (.agg (wvs (sched b 48)).toArray) w) := by
  obtain ⟨ad, rfl, hab, hcell⟩ := hr.2 (by omega)
  have HC := Lib.hid hcell
  clear hcell
  go_enter Tryd.func50, Tryd.ntmps50
  go_wp2_with (first
    | (with_reducible refine wpList_alloc_row (o := ⟨some 2, _, _, _, _, _⟩) rfl _ rfl zeros64 zero_w64 ?_; intro w1 hrow1 hs1 hg1)
    | (with_reducible refine wpList_alloc_row (o := ⟨some 3, _, _, _, _, _⟩) rfl _ rfl zeros64 zero_w64 ?_; intro w2 hrow2 hs2 hg2))
  have hrow1' := hrow1.kept hg2 (by simp)
  have hbel : Below w.heap.size w w2 := below_kept (grown_below hg1 (Nat.le_refl _) (by simp)) hg2 (by omega) (by simp)
  clear hrow1 hg1 hg2
  have hs3 := hrow2.lt
  go_loopg [4, 5, 9] 16 (fun g s4 s5 s9 wr => ∃ i : Nat, Hid (i + g = 16) ∧ i ≤ 16 ∧ s9 = .int .i64 i ∧ Row wr w1.heap.size 70 (filled (wordsOf b i)) ∧ Row wr w.heap.size 70 zeros64 ∧ Below w.heap.size w wr)
  case atStart => exact ⟨0, rfl, by omega, rfl, hrow2, hrow1', hbel⟩
  case round =>
    obtain ⟨i, HI, hi, rfl, hrow, hrow0, hbelr⟩ := hrel
    by_cases hlt : i < 16
    · have hcw : ∀ k, k < 4 → wr.cell? (ad.add (4 * i + k)) = some (bv (b.getD (4 * i + k) 0)) := fun k hk => by
        have hl : 4 * i + k < b.length := by have := hr.1; rw [bvs_length] at this; omega
        rw [hbelr.cell (by rw [block_of_add]; exact hab)]
        exact HC.out _ _ (by unfold bvs; rw [List.getElem?_map, List.getElem?_eq_getElem hl, List.getD, List.getElem?_eq_getElem hl]; rfl)
      have hc0 := hcw 0 (by omega)
      have hc1 := hcw 1 (by omega)
      have hc2 := hcw 2 (by omega)
      have hc3 := hcw 3 (by omega)
      rw [Nat.add_zero] at hc0
      rw [add_pos _ _ (by omega)] at hc1 hc2 hc3
      clear hcw
      have HW : Hid (wordsOf b (i + 1) = wordsOf b i ++ [UInt32.ofNat ((b.getD (4 * i) 0).toNat * 16777216 + (b.getD (4 * i + 1) 0).toNat * 65536 + (b.getD (4 * i + 2) 0).toNat * 256 + (b.getD (4 * i + 3) 0).toNat)]) := rfl
      generalize b.getD (4 * i) 0 = x0 at *
      generalize b.getD (4 * i + 1) 0 = x1 at *
      generalize b.getD (4 * i + 2) 0 = x2 at *
      generalize b.getD (4 * i + 3) 0 = x3 at *
      have HV := Lib.hid (word_val x0 x1 x2 x3)
      unfold bv at hc0 hc1 hc2 hc3
      go_wp2_with fail
      refine wp_region_tail 31 (by kernel_rfl) (by kernel_rfl) ?_
      simp only [List.take_succ_cons, List.take_zero, List.drop_succ_cons, List.drop_zero]
      repeat (go_big_quiet_step (fail))
      refine wpQuiet_nil ?_
      refine wpList_store_elem (o := ⟨none, _, _, _, _, _⟩) rfl _ _ _ rfl w1.heap.size i rfl _ _ hrow.drew _ rfl rfl (by rw [filled_len _ (by rw [wordsOf_len]; omega)]; omega) (by kernel_rfl) ?_
      intro w3 hrow3 hg3
      have hb3 : Below w.heap.size w w3 := below_kept hbelr.drew hg3 (by have := hbelr.size; simpa using this) (by rintro k hk; cases hk; omega)
      have hrow0' := hrow0.drew.kept hg3 (by simp; omega)
      clear hg3
      go_wp2_with fail
      go_roundg (gk - 1)
      case measure => have := HI.out; omega
      case rel =>
        refine ⟨i + 1, by have := HI.out; show _ = _; omega, by omega, by go_num, ?_, hrow0', hb3⟩
        have e := filled_set (wordsOf b i) (UInt32.ofNat (x0.toNat * 16777216 + x1.toNat * 65536 + x2.toNat * 256 + x3.toNat)) (by rw [wordsOf_len]; omega)
        rw [wordsOf_len, ← HW.out] at e
        rw [← e]
        unfold wv
        rw [← HV.out]
        exact hrow3
    · have hrow16 : Row wr w1.heap.size 70 (filled (sched b 0)) := by
        have hi16 : i = 16 := by omega
        rw [hi16] at hrow
        exact hrow
      clear hrow HI
      obtain ⟨wo, rfl⟩ : ∃ wo : World, wo = wr := ⟨_, rfl⟩
      obtain ⟨g0, rfl⟩ : ∃ g0 : Nat, g0 = gk := ⟨_, rfl⟩
      go_wp2_with fail
      go_loopg [6, 7, 8] 48 (fun g s6 s7 s8 wi => ∃ j : Nat, Hid (j + g = 48) ∧ j ≤ 48 ∧ s6 = .int .i64 ((16 + j : Nat) : Int) ∧ Row wi w1.heap.size 70 (filled (sched b j)) ∧ Row wi w.heap.size 70 zeros64 ∧ Below w.heap.size w wi)
      case atStart => exact ⟨0, rfl, by omega, rfl, hrow16, hrow0, hbelr⟩
      case round =>
        obtain ⟨j, HJ, hj, rfl, hrow, hrow0, hbelr⟩ := hrel
        obtain ⟨m, hm⟩ : ∃ m, m = 16 + j := ⟨_, rfl⟩
        rw [← hm]
        have hm1 : 16 ≤ m := by omega
        have hm2 : m ≤ 64 := by omega
        have HM := Lib.hid hm
        clear hm
        by_cases hlm : m < 64
        · have HL : Hid ((sched b j).length = m) := by show _ = _; rw [sched_len, HM.out]
          have hcw : ∀ k, k ≤ 16 → 0 < k → wr.cell? ⟨w1.heap.size, m - k, none⟩ = some (wv ((sched b j).getD (m - k) 0)) := fun k hk hk0 => hrow.cell (filled_at _ _ (by rw [HL.out]; omega))
          have hc16 := hcw 16 (by omega) (by omega)
          have hc15 := hcw 15 (by omega) (by omega)
          have hc7 := hcw 7 (by omega) (by omega)
          have hc2 := hcw 2 (by omega) (by omega)
          clear hcw
          have HN : Hid (sched b (j + 1) = sched b j ++ [(sched b j).getD (m - 16) 0 + sig0 ((sched b j).getD (m - 15) 0) + (sched b j).getD (m - 7) 0 + sig1 ((sched b j).getD (m - 2) 0)]) := by
            show _ = _
            rw [sched, nextW, HL.out]
          generalize (sched b j).getD (m - 16) 0 = x16 at *
          generalize (sched b j).getD (m - 15) 0 = x15 at *
          generalize (sched b j).getD (m - 7) 0 = x7 at *
          generalize (sched b j).getD (m - 2) 0 = x2 at *
          unfold wv at hc16 hc15 hc7 hc2
          go_wp2_with fail
          have r1 := wi_xor
          have r2 := wi_plus
          have r3 := wi_shr3
          have r4 := wi_shr10
          go_quiet ((go_at_call 51; exact Calls.quiet_of_same (rotr_any x15 _ _ (by omega) (by omega))))
          have hrow := hrow.drewN nq
          have hrow0 := hrow0.drewN nq
          have hbelr := below_drewN hbelr nq
          have hc16 : (wr.drewN nq).cell? ⟨w1.heap.size, m - 16, none⟩ = some (.int .u32 (wi x16)) := hc16
          have hc7 : (wr.drewN nq).cell? ⟨w1.heap.size, m - 7, none⟩ = some (.int .u32 (wi x7)) := hc7
          have hc2 : (wr.drewN nq).cell? ⟨w1.heap.size, m - 2, none⟩ = some (.int .u32 (wi x2)) := hc2
          generalize wr.drewN nq = wr2 at *
          go_wp2_with fail
          go_quiet ((go_at_call 51; exact Calls.quiet_of_same (rotr_any x2 _ _ (by omega) (by omega))))
          have hrow := hrow.drewN nq
          have hrow0 := hrow0.drewN nq
          have hbelr := below_drewN hbelr nq
          have hc16 : (wr2.drewN nq).cell? ⟨w1.heap.size, m - 16, none⟩ = some (.int .u32 (wi x16)) := hc16
          have hc7 : (wr2.drewN nq).cell? ⟨w1.heap.size, m - 7, none⟩ = some (.int .u32 (wi x7)) := hc7
          clear hc2 hc15
          generalize wr2.drewN nq = wr3 at *
          go_wp2_with fail
          refine wp_region_tail 15 (by kernel_rfl) (by kernel_rfl) ?_
          simp only [List.take_succ_cons, List.take_zero, List.drop_succ_cons, List.drop_zero]
          repeat (go_big_quiet_step (fail))
          refine wpQuiet_nil ?_
          clear r1 r2 r3 r4
          refine wpList_store_elem (o := ⟨none, _, _, _, _, _⟩) rfl _ _ _ rfl w1.heap.size m rfl _ _ hrow.drew _ rfl rfl (by rw [filled_len _ (by rw [HL.out]; omega)]; omega) (by kernel_rfl) ?_
          intro w3 hrow3 hg3
          have hb3 : Below w.heap.size w w3 := below_kept hbelr.drew hg3 (by have := hbelr.size; simpa using this) (by rintro k hk; cases hk; omega)
          have hrow0' := hrow0.drew.kept hg3 (by simp; omega)
          clear hg3
          have HN2 : Hid (Row w3 w1.heap.size 70 (filled (sched b (j + 1)))) := by
            have e := filled_set (sched b j) (x16 + sig0 x15 + x7 + sig1 x2) (by rw [HL.out]; omega)
            rw [HL.out, ← HN.out] at e
            show Row _ _ _ _
            rw [← e]
            exact hrow3
          clear hrow3
          go_wp2_with fail
          go_roundg (gk - 1)
          case measure => have := HJ.out; have := HM.out; omega
          case rel => exact ⟨j + 1, by have := HJ.out; have := HM.out; show _ = _; omega, by have := HM.out; omega, by have := HM.out; rw [this]; go_num, HN2.out, hrow0', hb3⟩
        · have HJ48 : Hid (j = 48) := by show _ = _; have := HM.out; omega
          have hrow := hrow
          rw [HJ48.out, filled_all _ (by rw [sched_len])] at hrow
          have HS := Lib.hid (sched_len b 48)
          generalize sched b 48 = ws at *
          go_wp2_with (first
            | (with_reducible refine wpList_load_all (o := ⟨some 99, _, _, _, _, _⟩) rfl _ _ rfl w1.heap.size rfl _ _ hrow _ Tryd.underlying70 rfl (w64_size ws HS.out) ?_)
            | (with_reducible refine wpList_store_all (o := ⟨none, _, _, _, _, _⟩) rfl _ _ _ rfl w.heap.size rfl _ _ hrow0 _ rfl (wvs_one _) (w64_zeros ws HS.out) (w64_size ws HS.out) ?_; intro w3 hrow3 hg3))
          have hload := run_loadVar_at (P := Tryd.prog) w3 70 ⟨w.heap.size, 0, none⟩ (wvs ws) hrow3.cells _ Tryd.underlying70 rfl (w64_size ws HS.out)
          exact bodyPost_ret (results_cell1 Tryd.results50 _ _ _ _ rfl hload) rfl ⟨rfl, below_kept hbelr hg3 hbelr.size (by rintro k hk; cases hk; omega)⟩
end Go.Proofs.YtdgflobdnkopbaaDoor
