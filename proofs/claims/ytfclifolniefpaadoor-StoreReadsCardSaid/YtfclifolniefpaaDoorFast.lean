/-
  SHA-256 on numbers, made for the kernel to run: each value is brought to a numeral before it is used on. It is the function of layer 2. Plain functions and their laws alone. No condition.
-/
import Derived.Test.YtfclifolniefpaaDoorPad
import Derived.Test.YtfclifolniefpaaDoorShaG
namespace Go.Proofs.YtfclifolniefpaaDoor

/-- Brings a number to a numeral first. -/
def numeral {α : Type} (n : Nat) (k : Nat → α) : α := Nat.casesOn (motive := fun _ => α) n (k 0) fun m => k (Nat.succ m)
theorem numeral_eq {α : Type} (n : Nat) (k : Nat → α) : numeral n k = k n := by cases n <;> rfl

def fS0 (x : Nat) : Nat := Nat.mod (Nat.xor (Nat.xor (Nat.shiftRight (Nat.mul x 4294967297) 2) (Nat.shiftRight (Nat.mul x 4294967297) 13)) (Nat.shiftRight (Nat.mul x 4294967297) 22)) 4294967296
def fS1 (x : Nat) : Nat := Nat.mod (Nat.xor (Nat.xor (Nat.shiftRight (Nat.mul x 4294967297) 6) (Nat.shiftRight (Nat.mul x 4294967297) 11)) (Nat.shiftRight (Nat.mul x 4294967297) 25)) 4294967296
def fs0 (x : Nat) : Nat := Nat.mod (Nat.xor (Nat.xor (Nat.shiftRight (Nat.mul x 4294967297) 7) (Nat.shiftRight (Nat.mul x 4294967297) 18)) (Nat.shiftRight x 3)) 4294967296
def fs1 (x : Nat) : Nat := Nat.mod (Nat.xor (Nat.xor (Nat.shiftRight (Nat.mul x 4294967297) 17) (Nat.shiftRight (Nat.mul x 4294967297) 19)) (Nat.shiftRight x 10)) 4294967296
def fch (e f g : Nat) : Nat := Nat.xor (Nat.land e f) (Nat.land (Nat.xor e 4294967295) g)
def fmaj (a b c : Nat) : Nat := Nat.xor (Nat.xor (Nat.land a b) (Nat.land a c)) (Nat.land b c)
/-- The rounds with the constants given, over a window of sixteen words. -/
def fRounds {α : Type} (k : Nat → Nat → Nat → Nat → Nat → Nat → Nat → Nat → α) : List Nat → Nat → Nat → Nat → Nat → Nat → Nat → Nat → Nat → Nat → Nat → Nat → Nat → Nat → Nat → Nat → Nat → Nat → Nat → Nat → Nat → Nat → Nat → Nat → Nat → α
  | [], a, b, c, d, e, f, g, h, _, _, _, _, _, _, _, _, _, _, _, _, _, _, _, _ => k a b c d e f g h
  | kc :: ks, a, b, c, d, e, f, g, h, w0, w1, w2, w3, w4, w5, w6, w7, w8, w9, w10, w11, w12, w13, w14, w15 =>
    numeral (Nat.add (Nat.add (Nat.add (Nat.add h (fS1 e)) (fch e f g)) kc) w0) fun t =>
    numeral (Nat.mod (Nat.add (Nat.add t (fS0 a)) (fmaj a b c)) 4294967296) fun a' =>
    numeral (Nat.mod (Nat.add d t) 4294967296) fun e' =>
    numeral (Nat.mod (Nat.add (Nat.add (Nat.add w0 (fs0 w1)) w9) (fs1 w14)) 4294967296) fun w16 =>
    fRounds k ks a' a b c e' e f g w1 w2 w3 w4 w5 w6 w7 w8 w9 w10 w11 w12 w13 w14 w15 w16
def fK : List Nat := [
  1116352408, 1899447441, 3049323471, 3921009573, 961987163, 1508970993, 2453635748, 2870763221,
  3624381080, 310598401, 607225278, 1426881987, 1925078388, 2162078206, 2614888103, 3248222580,
  3835390401, 4022224774, 264347078, 604807628, 770255983, 1249150122, 1555081692, 1996064986,
  2554220882, 2821834349, 2952996808, 3210313671, 3336571891, 3584528711, 113926993, 338241895,
  666307205, 773529912, 1294757372, 1396182291, 1695183700, 1986661051, 2177026350, 2456956037,
  2730485921, 2820302411, 3259730800, 3345764771, 3516065817, 3600352804, 4094571909, 275423344,
  430227734, 506948616, 659060556, 883997877, 958139571, 1322822218, 1537002063, 1747873779,
  1955562222, 2024104815, 2227730452, 2361852424, 2428436474, 2756734187, 3204031479, 3329325298]
/-- Words out of bytes. -/
def fWords : List UInt8 → List Nat
  | a :: b :: c :: d :: r => numeral (Nat.add (Nat.add (Nat.add (Nat.mul a.toNat 16777216) (Nat.mul b.toNat 65536)) (Nat.mul c.toNat 256)) d.toNat) fun n => n :: fWords r
  | _ => []
/-- The blocks. -/
def fBlocks {α : Type} (k : Nat → Nat → Nat → Nat → Nat → Nat → Nat → Nat → α) : Nat → List Nat → Nat → Nat → Nat → Nat → Nat → Nat → Nat → Nat → α
  | 0, _, a, b, c, d, e, f, g, h => k a b c d e f g h
  | n + 1, w0 :: w1 :: w2 :: w3 :: w4 :: w5 :: w6 :: w7 :: w8 :: w9 :: w10 :: w11 :: w12 :: w13 :: w14 :: w15 :: r, a, b, c, d, e, f, g, h =>
    fRounds (fun a' b' c' d' e' f' g' h' =>
      numeral (Nat.mod (Nat.add a a') 4294967296) fun a'' =>
      numeral (Nat.mod (Nat.add b b') 4294967296) fun b'' =>
      numeral (Nat.mod (Nat.add c c') 4294967296) fun c'' =>
      numeral (Nat.mod (Nat.add d d') 4294967296) fun d'' =>
      numeral (Nat.mod (Nat.add e e') 4294967296) fun e'' =>
      numeral (Nat.mod (Nat.add f f') 4294967296) fun f'' =>
      numeral (Nat.mod (Nat.add g g') 4294967296) fun g'' =>
      numeral (Nat.mod (Nat.add h h') 4294967296) fun h'' =>
      fBlocks k n r a'' b'' c'' d'' e'' f'' g'' h'') fK a b c d e f g h w0 w1 w2 w3 w4 w5 w6 w7 w8 w9 w10 w11 w12 w13 w14 w15
  | _ + 1, _, a, b, c, d, e, f, g, h => k a b c d e f g h
def fBytes4 (n : Nat) (r : List UInt8) : List UInt8 := UInt8.ofNat (Nat.shiftRight n 24) :: UInt8.ofNat (Nat.shiftRight n 16) :: UInt8.ofNat (Nat.shiftRight n 8) :: UInt8.ofNat n :: r
/-- The first 16 bytes. -/
def fDig (l : List UInt8) : List UInt8 :=
  fBlocks (fun a b c d _ _ _ _ => fBytes4 a (fBytes4 b (fBytes4 c (fBytes4 d [])))) ((padded l).length / 64) (fWords (padded l)) 1779033703 3144134277 1013904242 2773480762 1359893119 2600822924 528734635 1541459225
/-- All 32 bytes. -/
def fSha (l : List UInt8) : List UInt8 :=
  fBlocks (fun a b c d e f g h => fBytes4 a (fBytes4 b (fBytes4 c (fBytes4 d (fBytes4 e (fBytes4 f (fBytes4 g (fBytes4 h [])))))))) ((padded l).length / 64) (fWords (padded l)) 1779033703 3144134277 1013904242 2773480762 1359893119 2600822924 528734635 1541459225

theorem turn32 (n : Nat) (x : UInt32) (h1 : 1 ≤ n) (h2 : n ≤ 31) : (x.toNat * 4294967297) / 2 ^ n % 4294967296 = (rot x n).toNat := by
  have hx : x.toNat < 4294967296 := x.toNat_lt
  have hPQ : 2 ^ n * 2 ^ (32 - n) = 4294967296 := by rw [← Nat.pow_add, show n + (32 - n) = 32 by omega]
  rw [rot_toNat]
  generalize x.toNat = X at *
  have hP : 0 < 2 ^ n := Nat.two_pow_pos n
  have e1 : X * 4294967297 / 2 ^ n = X / 2 ^ n + X * 2 ^ (32 - n) := by
    rw [show X * 4294967297 = X + 2 ^ n * (X * 2 ^ (32 - n)) by rw [Nat.mul_left_comm, hPQ]; omega, Nat.add_mul_div_left _ _ hP]
  have e2 : X * 2 ^ (32 - n) % 4294967296 = X % 2 ^ n * 2 ^ (32 - n) := by rw [← hPQ, Nat.mul_mod_mul_right]
  have h3 : X / 2 ^ n < 2 ^ (32 - n) := by rw [Nat.div_lt_iff_lt_mul hP, Nat.mul_comm, hPQ]; exact hx
  have h4 : X % 2 ^ n * 2 ^ (32 - n) + 2 ^ (32 - n) ≤ 4294967296 := by
    rw [← hPQ, ← Nat.succ_mul]
    exact Nat.mul_le_mul_right _ (Nat.mod_lt _ hP)
  rw [e1, Nat.add_mod, e2, Nat.mod_eq_of_lt (a := X / 2 ^ n) (by omega), Nat.mod_eq_of_lt (by omega), Nat.or_comm, Nat.mul_comm, ← Nat.two_pow_add_eq_or_of_lt h3, Nat.add_comm]
theorem mod32_xor (a b : Nat) : (a ^^^ b) % 4294967296 = a % 4294967296 ^^^ b % 4294967296 := Nat.xor_mod_two_pow (n := 32)
theorem fS0_eq (x : UInt32) : fS0 x.toNat = ((rot x 2 ^^^ rot x 13) ^^^ rot x 22).toNat := by
  show (((x.toNat * 4294967297) >>> 2 ^^^ (x.toNat * 4294967297) >>> 13) ^^^ (x.toNat * 4294967297) >>> 22) % 4294967296 = _
  rw [mod32_xor, mod32_xor, Nat.shiftRight_eq_div_pow, Nat.shiftRight_eq_div_pow, Nat.shiftRight_eq_div_pow, turn32 2 x (by omega) (by omega), turn32 13 x (by omega) (by omega), turn32 22 x (by omega) (by omega), UInt32.toNat_xor, UInt32.toNat_xor]
theorem fS1_eq (x : UInt32) : fS1 x.toNat = ((rot x 6 ^^^ rot x 11) ^^^ rot x 25).toNat := by
  show (((x.toNat * 4294967297) >>> 6 ^^^ (x.toNat * 4294967297) >>> 11) ^^^ (x.toNat * 4294967297) >>> 25) % 4294967296 = _
  rw [mod32_xor, mod32_xor, Nat.shiftRight_eq_div_pow, Nat.shiftRight_eq_div_pow, Nat.shiftRight_eq_div_pow, turn32 6 x (by omega) (by omega), turn32 11 x (by omega) (by omega), turn32 25 x (by omega) (by omega), UInt32.toNat_xor, UInt32.toNat_xor]
theorem div_mod32 (x : UInt32) (n : Nat) : x.toNat / 2 ^ n % 4294967296 = (shr x n).toNat := by
  rw [shr_toNat]
  exact Nat.mod_eq_of_lt (Nat.lt_of_le_of_lt (Nat.div_le_self _ _) x.toNat_lt)
theorem fs0_eq (x : UInt32) : fs0 x.toNat = (sig0 x).toNat := by
  unfold sig0
  show (((x.toNat * 4294967297) >>> 7 ^^^ (x.toNat * 4294967297) >>> 18) ^^^ x.toNat >>> 3) % 4294967296 = _
  rw [mod32_xor, mod32_xor, Nat.shiftRight_eq_div_pow, Nat.shiftRight_eq_div_pow, Nat.shiftRight_eq_div_pow, turn32 7 x (by omega) (by omega), turn32 18 x (by omega) (by omega), div_mod32, UInt32.toNat_xor, UInt32.toNat_xor]
theorem fs1_eq (x : UInt32) : fs1 x.toNat = (sig1 x).toNat := by
  unfold sig1
  show (((x.toNat * 4294967297) >>> 17 ^^^ (x.toNat * 4294967297) >>> 19) ^^^ x.toNat >>> 10) % 4294967296 = _
  rw [mod32_xor, mod32_xor, Nat.shiftRight_eq_div_pow, Nat.shiftRight_eq_div_pow, Nat.shiftRight_eq_div_pow, turn32 17 x (by omega) (by omega), turn32 19 x (by omega) (by omega), div_mod32, UInt32.toNat_xor, UInt32.toNat_xor]
theorem not_xor (x : UInt32) : ~~~x = x ^^^ 4294967295 := by
  refine UInt32.toBitVec_inj.1 ?_
  show ~~~x.toBitVec = x.toBitVec ^^^ BitVec.allOnes 32
  rw [BitVec.xor_allOnes]
theorem fch_eq (e f g : UInt32) : fch e.toNat f.toNat g.toNat = ((e &&& f) ^^^ (~~~e &&& g)).toNat := by
  rw [not_xor, UInt32.toNat_xor, UInt32.toNat_and, UInt32.toNat_and, UInt32.toNat_xor]
  rfl
theorem fmaj_eq (a b c : UInt32) : fmaj a.toNat b.toNat c.toNat = (((a &&& b) ^^^ (a &&& c)) ^^^ (b &&& c)).toNat := by
  rw [UInt32.toNat_xor, UInt32.toNat_xor, UInt32.toNat_and, UInt32.toNat_and, UInt32.toNat_and]
  rfl

/-- The words of a block and what follows from them. -/
def wx (b : List UInt8) (i : Nat) : UInt32 := (sched b 64).getD i 0
theorem sched_more (b : List UInt8) (n d i : Nat) (hi : i < 16 + n) : (sched b (n + d)).getD i 0 = (sched b n).getD i 0 := by
  induction d with
  | zero => rfl
  | succ d ih =>
    rw [show n + (d + 1) = (n + d) + 1 from rfl, sched, List.getD_eq_getElem?_getD, List.getElem?_append_left (by rw [sched_len]; omega), ← List.getD_eq_getElem?_getD, ih]
theorem wx_at (b : List UInt8) (n i : Nat) (hn : n ≤ 64) (hi : i < 16 + n) : (sched b n).getD i 0 = wx b i := by
  have e := sched_more b n (64 - n) i hi
  rw [show n + (64 - n) = 64 by omega] at e
  exact e.symm
theorem wx_next (b : List UInt8) (i : Nat) (hi : i < 64) : wx b (i + 16) = wx b i + sig0 (wx b (i + 1)) + wx b (i + 9) + sig1 (wx b (i + 14)) := by
  rw [← wx_at b (i + 1) (i + 16) (by omega) (by omega), sched]
  have hl := sched_len b i
  rw [List.getD_eq_getElem?_getD, List.getElem?_append_right (by omega), hl, show i + 16 - (16 + i) = 0 by omega]
  show nextW _ = _
  unfold nextW
  rw [hl, show 16 + i - 16 = i by omega, show 16 + i - 15 = i + 1 by omega, show 16 + i - 7 = i + 9 by omega, show 16 + i - 2 = i + 14 by omega]
  rw [wx_at b i i (by omega) (by omega), wx_at b i (i + 1) (by omega) (by omega), wx_at b i (i + 9) (by omega) (by omega), wx_at b i (i + 14) (by omega) (by omega)]
theorem fK_at : ∀ t : Fin 64, fK.drop t.val = (roundK.getD t.val 0).toNat :: fK.drop (t.val + 1) := by decide +kernel
theorem fK_end : fK.drop 64 = [] := by decide +kernel
theorem sum_mod (x y : UInt32) : (x + y).toNat = (x.toNat + y.toNat) % 4294967296 := UInt32.toNat_add x y

theorem fRounds_eq {α : Type} (k : Nat → Nat → Nat → Nat → Nat → Nat → Nat → Nat → α) (b : List UInt8) (s : St) (m : Nat) : ∀ t, t + m = 64 → fRounds k (fK.drop t) (rounds (sched b 48) s t).a.toNat (rounds (sched b 48) s t).b.toNat (rounds (sched b 48) s t).c.toNat (rounds (sched b 48) s t).d.toNat (rounds (sched b 48) s t).e.toNat (rounds (sched b 48) s t).f.toNat (rounds (sched b 48) s t).g.toNat (rounds (sched b 48) s t).h.toNat (wx b t).toNat (wx b (t + 1)).toNat (wx b (t + 2)).toNat (wx b (t + 3)).toNat (wx b (t + 4)).toNat (wx b (t + 5)).toNat (wx b (t + 6)).toNat (wx b (t + 7)).toNat (wx b (t + 8)).toNat (wx b (t + 9)).toNat (wx b (t + 10)).toNat (wx b (t + 11)).toNat (wx b (t + 12)).toNat (wx b (t + 13)).toNat (wx b (t + 14)).toNat (wx b (t + 15)).toNat = k (rounds (sched b 48) s 64).a.toNat (rounds (sched b 48) s 64).b.toNat (rounds (sched b 48) s 64).c.toNat (rounds (sched b 48) s 64).d.toNat (rounds (sched b 48) s 64).e.toNat (rounds (sched b 48) s 64).f.toNat (rounds (sched b 48) s 64).g.toNat (rounds (sched b 48) s 64).h.toNat := by
  induction m with
  | zero => intro t ht; obtain rfl : t = 64 := by omega
            rw [fK_end]; rfl
  | succ m ih =>
    intro t ht
    rw [fK_at ⟨t, by omega⟩, fRounds]
    simp only [numeral_eq]
    have e1 := ih (t + 1) (by omega)
    rw [rounds] at e1
    have hw : (sched b 48).getD t 0 = wx b t := wx_at b 48 t (by omega) (by omega)
    rw [hw] at e1
    generalize rounds (sched b 48) s t = r at e1 ⊢
    have hn := wx_next b t (by omega)
    rw [← e1]
    have et : Nat.add (Nat.add (Nat.add (Nat.add r.h.toNat (fS1 r.e.toNat)) (fch r.e.toNat r.f.toNat r.g.toNat)) (roundK.getD t 0).toNat) (wx b t).toNat = r.h.toNat + ((rot r.e 6 ^^^ rot r.e 11) ^^^ rot r.e 25).toNat + ((r.e &&& r.f) ^^^ (~~~r.e &&& r.g)).toNat + (roundK.getD t 0).toNat + (wx b t).toNat := by
      rw [fS1_eq, fch_eq]; rfl
    have ht1 : (r.t1 (roundK.getD t 0) (wx b t)).toNat = (r.h.toNat + ((rot r.e 6 ^^^ rot r.e 11) ^^^ rot r.e 25).toNat + ((r.e &&& r.f) ^^^ (~~~r.e &&& r.g)).toNat + (roundK.getD t 0).toNat + (wx b t).toNat) % 4294967296 := by
      unfold St.t1
      rw [sum_mod, sum_mod, sum_mod, sum_mod]
      omega
    have ea : Nat.mod (Nat.add (Nat.add (Nat.add (Nat.add (Nat.add (Nat.add r.h.toNat (fS1 r.e.toNat)) (fch r.e.toNat r.f.toNat r.g.toNat)) (roundK.getD t 0).toNat) (wx b t).toNat) (fS0 r.a.toNat)) (fmaj r.a.toNat r.b.toNat r.c.toNat)) 4294967296 = (r.round (roundK.getD t 0) (wx b t)).a.toNat := by
      rw [et, fS0_eq, fmaj_eq]
      show (_ + _ + _) % 4294967296 = (r.t1 (roundK.getD t 0) (wx b t) + r.t2).toNat
      unfold St.t2
      rw [sum_mod, sum_mod, ht1]
      omega
    have ee : Nat.mod (Nat.add r.d.toNat (Nat.add (Nat.add (Nat.add (Nat.add r.h.toNat (fS1 r.e.toNat)) (fch r.e.toNat r.f.toNat r.g.toNat)) (roundK.getD t 0).toNat) (wx b t).toNat)) 4294967296 = (r.round (roundK.getD t 0) (wx b t)).e.toNat := by
      rw [et]
      show (_ + _) % 4294967296 = (r.d + r.t1 (roundK.getD t 0) (wx b t)).toNat
      rw [sum_mod, ht1]
      omega
    have ew : Nat.mod (Nat.add (Nat.add (Nat.add (wx b t).toNat (fs0 (wx b (t + 1)).toNat)) (wx b (t + 9)).toNat) (fs1 (wx b (t + 14)).toNat)) 4294967296 = (wx b (t + 16)).toNat := by
      rw [fs0_eq, fs1_eq, hn]
      show (_ + _ + _ + _) % 4294967296 = _
      rw [sum_mod, sum_mod, sum_mod]
      omega
    rw [ea, ee, ew]
    rfl

theorem wordAt_lt (a b c d : UInt8) : a.toNat * 16777216 + b.toNat * 65536 + c.toNat * 256 + d.toNat < 4294967296 := by
  have := a.toNat_lt; have := b.toNat_lt; have := c.toNat_lt; have := d.toNat_lt
  omega
theorem fWords_eq (l : List UInt8) (h : 4 ≤ l.length) : fWords l = (wordAt l 0).toNat :: fWords (l.drop 4) := by
  match l, h with
  | a :: b :: c :: d :: r, _ =>
    rw [fWords]
    simp only [numeral_eq]
    unfold wordAt
    simp only [List.getD_cons_zero, List.getD_cons_succ, List.drop_succ_cons, List.drop_zero, Nat.zero_add]
    rw [UInt32.toNat_ofNat', Nat.mod_eq_of_lt (wordAt_lt a b c d)]
    rfl
theorem getD_drop (l : List UInt8) (k i : Nat) : (l.drop k).getD i 0 = l.getD (k + i) 0 := by
  rw [List.getD_eq_getElem?_getD, List.getD_eq_getElem?_getD, List.getElem?_drop]
theorem wordAt_drop (l : List UInt8) (k i : Nat) : wordAt (l.drop k) i = wordAt l (k + i) := by
  unfold wordAt
  simp only [getD_drop, Nat.add_assoc]
theorem getD_take (l : List UInt8) (k i : Nat) (h : i < k) : (l.take k).getD i 0 = l.getD i 0 := by
  rw [List.getD_eq_getElem?_getD, List.getD_eq_getElem?_getD, List.getElem?_take, if_pos h]
theorem wordAt_take (l : List UInt8) (k i : Nat) (h : i + 3 < k) : wordAt (l.take k) i = wordAt l i := by
  unfold wordAt
  rw [getD_take _ _ _ (by omega), getD_take _ _ _ (by omega), getD_take _ _ _ (by omega), getD_take _ _ _ (by omega)]
theorem wordsOf_at (b : List UInt8) (n i : Nat) (h : i < n) : (wordsOf b n).getD i 0 = wordAt b (4 * i) := by
  induction n with
  | zero => omega
  | succ n ih =>
    rw [wordsOf, List.getD_eq_getElem?_getD]
    by_cases hi : i < n
    · rw [List.getElem?_append_left (by rw [wordsOf_len]; exact hi), ← List.getD_eq_getElem?_getD, ih hi]
    · obtain rfl : i = n := by omega
      rw [List.getElem?_append_right (by rw [wordsOf_len]; exact Nat.le_refl _), wordsOf_len, Nat.sub_self]
      rfl
theorem wx_first (l : List UInt8) (i : Nat) (h : i < 16) : wx (l.take 64) i = wordAt (l.drop (4 * i)) 0 := by
  rw [← wx_at _ 0 i (by omega) (by omega), sched, wordsOf_at _ _ _ h, wordAt_take _ _ _ (by omega), wordAt_drop, Nat.add_zero]
theorem fWords_step (l : List UInt8) (i : Nat) (h : 64 ≤ l.length) (hi : i < 16) : fWords (l.drop (4 * i)) = (wx (l.take 64) i).toNat :: fWords (l.drop (4 * (i + 1))) := by
  rw [fWords_eq _ (by rw [List.length_drop]; omega), wx_first l i hi, List.drop_drop, show 4 * (i + 1) = 4 * i + 4 by omega]
theorem fWords_16 (l : List UInt8) (h : 64 ≤ l.length) : fWords l = (wx (l.take 64) 0).toNat :: (wx (l.take 64) 1).toNat :: (wx (l.take 64) 2).toNat :: (wx (l.take 64) 3).toNat :: (wx (l.take 64) 4).toNat :: (wx (l.take 64) 5).toNat :: (wx (l.take 64) 6).toNat :: (wx (l.take 64) 7).toNat :: (wx (l.take 64) 8).toNat :: (wx (l.take 64) 9).toNat :: (wx (l.take 64) 10).toNat :: (wx (l.take 64) 11).toNat :: (wx (l.take 64) 12).toNat :: (wx (l.take 64) 13).toNat :: (wx (l.take 64) 14).toNat :: (wx (l.take 64) 15).toNat :: fWords (l.drop 64) := by
  have e0 := fWords_step l 0 h (by omega)
  rw [Nat.mul_zero, List.drop_zero] at e0
  rw [e0]
  rw [fWords_step l 1 h (by omega)]
  rw [fWords_step l 2 h (by omega)]
  rw [fWords_step l 3 h (by omega)]
  rw [fWords_step l 4 h (by omega)]
  rw [fWords_step l 5 h (by omega)]
  rw [fWords_step l 6 h (by omega)]
  rw [fWords_step l 7 h (by omega)]
  rw [fWords_step l 8 h (by omega)]
  rw [fWords_step l 9 h (by omega)]
  rw [fWords_step l 10 h (by omega)]
  rw [fWords_step l 11 h (by omega)]
  rw [fWords_step l 12 h (by omega)]
  rw [fWords_step l 13 h (by omega)]
  rw [fWords_step l 14 h (by omega)]
  rw [fWords_step l 15 h (by omega)]
theorem rounds_zero (W : List UInt32) (s : St) : rounds W s 0 = s := rfl
theorem compr_at (s : St) (b : List UInt8) : compr s b = s.plus (rounds (sched b 48) s 64) := rfl
theorem fBlocks_eq {α : Type} (k : Nat → Nat → Nat → Nat → Nat → Nat → Nat → Nat → α) (s : St) (l : List UInt8) (n : Nat) : ∀ j, 64 * (j + n) ≤ l.length → fBlocks k n (fWords (l.drop (64 * j))) (blocksN s l j).a.toNat (blocksN s l j).b.toNat (blocksN s l j).c.toNat (blocksN s l j).d.toNat (blocksN s l j).e.toNat (blocksN s l j).f.toNat (blocksN s l j).g.toNat (blocksN s l j).h.toNat = k (blocksN s l (j + n)).a.toNat (blocksN s l (j + n)).b.toNat (blocksN s l (j + n)).c.toNat (blocksN s l (j + n)).d.toNat (blocksN s l (j + n)).e.toNat (blocksN s l (j + n)).f.toNat (blocksN s l (j + n)).g.toNat (blocksN s l (j + n)).h.toNat := by
  induction n with
  | zero => intro j _; rw [fBlocks]; rfl
  | succ n ih =>
    intro j hj
    rw [fWords_16 (l.drop (64 * j)) (by rw [List.length_drop]; omega), fBlocks]
    have e := fRounds_eq (fun a' b' c' d' e' f' g' h' =>
      numeral (Nat.mod (Nat.add (blocksN s l j).a.toNat a') 4294967296) fun a'' =>
      numeral (Nat.mod (Nat.add (blocksN s l j).b.toNat b') 4294967296) fun b'' =>
      numeral (Nat.mod (Nat.add (blocksN s l j).c.toNat c') 4294967296) fun c'' =>
      numeral (Nat.mod (Nat.add (blocksN s l j).d.toNat d') 4294967296) fun d'' =>
      numeral (Nat.mod (Nat.add (blocksN s l j).e.toNat e') 4294967296) fun e'' =>
      numeral (Nat.mod (Nat.add (blocksN s l j).f.toNat f') 4294967296) fun f'' =>
      numeral (Nat.mod (Nat.add (blocksN s l j).g.toNat g') 4294967296) fun g'' =>
      numeral (Nat.mod (Nat.add (blocksN s l j).h.toNat h') 4294967296) fun h'' =>
      fBlocks k n (fWords ((l.drop (64 * j)).drop 64)) a'' b'' c'' d'' e'' f'' g'' h'') ((l.drop (64 * j)).take 64) (blocksN s l j) 64 0 rfl
    simp only [Nat.zero_add, rounds_zero, List.drop_zero] at e
    rw [e]
    simp only [numeral_eq]
    clear e
    have e2 := ih (j + 1) (by omega)
    rw [blocksN, compr_at] at e2
    generalize rounds (sched ((l.drop (64 * j)).take 64) 48) (blocksN s l j) 64 = R at e2 ⊢
    rw [show j + (n + 1) = j + 1 + n by omega, ← e2, List.drop_drop, show 64 * (j + 1) = 64 * j + 64 by omega]
    generalize blocksN s l j = B
    unfold St.plus
    simp only [sum_mod]
    rfl
theorem fBytes4_eq (x : UInt32) (r : List UInt8) : fBytes4 x.toNat r = word4 x ++ r := by
  unfold fBytes4 word4
  rw [show Nat.shiftRight x.toNat 24 = x.toNat / 16777216 from Nat.shiftRight_eq_div_pow _ _, show Nat.shiftRight x.toNat 16 = x.toNat / 65536 from Nat.shiftRight_eq_div_pow _ _, show Nat.shiftRight x.toNat 8 = x.toNat / 256 from Nat.shiftRight_eq_div_pow _ _]
  rfl
theorem fBlocks_all {α : Type} (k : Nat → Nat → Nat → Nat → Nat → Nat → Nat → Nat → α) (l : List UInt8) : fBlocks k ((padded l).length / 64) (fWords (padded l)) 1779033703 3144134277 1013904242 2773480762 1359893119 2600822924 528734635 1541459225 = k (blocksN first8 (padded l) ((padded l).length / 64)).a.toNat (blocksN first8 (padded l) ((padded l).length / 64)).b.toNat (blocksN first8 (padded l) ((padded l).length / 64)).c.toNat (blocksN first8 (padded l) ((padded l).length / 64)).d.toNat (blocksN first8 (padded l) ((padded l).length / 64)).e.toNat (blocksN first8 (padded l) ((padded l).length / 64)).f.toNat (blocksN first8 (padded l) ((padded l).length / 64)).g.toNat (blocksN first8 (padded l) ((padded l).length / 64)).h.toNat := by
  have e := fBlocks_eq k first8 (padded l) ((padded l).length / 64) 0 (by rw [Nat.zero_add]; exact Nat.mul_div_le _ _)
  rw [Nat.zero_add, Nat.mul_zero, List.drop_zero] at e
  exact e
theorem fSha_eq (l : List UInt8) : fSha l = sha l := by
  unfold fSha sha
  rw [fBlocks_all]
  simp only [fBytes4_eq]
  generalize blocksN first8 (padded l) ((padded l).length / 64) = s
  unfold St.bytes St.list
  simp
theorem fDig_eq (l : List UInt8) : fDig l = (sha l).take 16 := by
  unfold fDig sha
  rw [fBlocks_all]
  simp only [fBytes4_eq]
  generalize blocksN first8 (padded l) ((padded l).length / 64) = s
  unfold St.bytes St.list word4
  rfl
end Go.Proofs.YtfclifolniefpaaDoor
