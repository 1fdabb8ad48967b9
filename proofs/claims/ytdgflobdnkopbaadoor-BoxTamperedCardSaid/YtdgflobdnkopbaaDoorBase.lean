/-
  The plain functions of layer 1's encodings, and their laws: numbers and lists alone. No condition.
-/
import Derived.WalkKit
import Derived.Laws.BitsAllLaws
import Derived.Laws.Bits128
import Derived.WalkSpells
import Derived.WalkLawsBesides
import Derived.Handy
import Derived.Lib.Hide
import Derived.Deep.QuietTactic
import Derived.BigQuiet
import Derived.Deep.AppendSrc
import Derived.Deep.AppendLies
import Derived.Deep.Draws
import Derived.Maps.AppendAt
import Derived.Laws.CopyOwn
import Derived.Stop.BytesEq
import Derived.Laws.IdiomStrings
import Derived.Test.YtdgflobdnkopbaaDoorProg
import Derived.WalkMore
import Derived.Deep.LoopGhost
namespace Go.Proofs.YtdgflobdnkopbaaDoor

/-- The zigzag number of an integer. -/
def zz (n : Int) : Nat := if 0 ≤ n then (2 * n).toNat else (-2 * n - 1).toNat
def unzz (u : Nat) : Int := if u % 2 = 0 then (u / 2 : Nat) else -((u / 2 : Nat) : Int) - 1
theorem zz_lt (n : Int) (h1 : -9223372036854775808 ≤ n) (h2 : n ≤ 9223372036854775807) : zz n < 18446744073709551616 := by unfold zz; split <;> omega
theorem unzz_zz (n : Int) : unzz (zz n) = n := by
  unfold zz unzz
  split <;> split <;> omega
theorem zz_unzz (u : Nat) : zz (unzz u) = u := by
  unfold zz unzz
  split <;> split <;> omega
theorem unzz_bd (u : Nat) (h : u < 18446744073709551616) : -9223372036854775808 ≤ unzz u ∧ unzz u ≤ 9223372036854775807 := by unfold unzz; split <;> omega

/-- The groups of seven bits, least first; the first argument bounds their number. -/
def lebF : Nat → Nat → List UInt8
  | 0, u => [UInt8.ofNat u]
  | f + 1, u => if u < 128 then [UInt8.ofNat u] else UInt8.ofNat (u % 128 + 128) :: lebF f (u / 128)
theorem lebF_any : ∀ (f g u : Nat), u ≤ f → u ≤ g → lebF f u = lebF g u
  | 0, g, u, h, _ => by
    obtain rfl : u = 0 := by omega
    cases g <;> simp [lebF]
  | f + 1, 0, u, _, h => by
    obtain rfl : u = 0 := by omega
    simp [lebF]
  | f + 1, g + 1, u, h1, h2 => by
    unfold lebF
    by_cases h : u < 128
    · rw [if_pos h, if_pos h]
    · rw [if_neg h, if_neg h, lebF_any f g (u / 128) (by omega) (by omega)]
def leb (u : Nat) : List UInt8 := lebF u u
theorem leb_small {u : Nat} (h : u < 128) : leb u = [UInt8.ofNat u] := by
  unfold leb
  cases u with
  | zero => rfl
  | succ k => rw [lebF, if_pos h]
theorem leb_more {u : Nat} (h : ¬ u < 128) : leb u = UInt8.ofNat (u % 128 + 128) :: leb (u / 128) := by
  unfold leb
  cases u with
  | zero => exact absurd (by decide) h
  | succ k => rw [lebF, if_neg h, lebF_any k ((k + 1) / 128) ((k + 1) / 128) (by omega) (Nat.le_refl _)]
theorem leb_len (k : Nat) : ∀ u : Nat, u < 128 ^ (k + 1) → (leb u).length ≤ k + 1 := by
  induction k with
  | zero => intro u h; rw [leb_small (by simpa using h)]; simp
  | succ k ih =>
    intro u h
    by_cases hu : u < 128
    · rw [leb_small hu]; simp
    · rw [leb_more hu]
      have := ih (u / 128) (by rw [Nat.pow_succ] at h; omega)
      simp; omega
theorem leb_le10 (u : Nat) (h : u < 18446744073709551616) : (leb u).length ≤ 10 := leb_len 9 u (by omega)
theorem leb_pos (u : Nat) : 0 < (leb u).length := by
  by_cases hu : u < 128
  · rw [leb_small hu]; simp
  · rw [leb_more hu]; simp
/-- The encoding of an integer. -/
def encInt (n : Int) : List UInt8 := leb (zz n)
end Go.Proofs.YtdgflobdnkopbaaDoor

/-
  Go's bit operations on numbers of known range, as plain arithmetic. No condition beyond the ranges that stand in each law.
-/
namespace Go.Proofs.YtdgflobdnkopbaaDoor
open Go.RowKit

theorem i64_not_any (n : Int) (h1 : -9223372036854775808 ≤ n) (h2 : n ≤ 9223372036854775807) : bits .xor .i64 (-1) n = -n - 1 := by
  have h : BitVec.ofInt 64 (-1) ^^^ BitVec.ofInt 64 n = ~~~ (BitVec.ofInt 64 n) := by
    have e : BitVec.ofInt 64 (-1) = BitVec.allOnes 64 := by decide
    rw [e, BitVec.allOnes_xor]
  show IntKind.i64.wrap ((BitVec.ofInt 64 (-1) ^^^ BitVec.ofInt 64 n).toNat : Nat) = -n - 1
  rw [h, BitVec.toNat_not, BitVec.toNat_ofInt, IntKind.wrap_i64]
  omega
theorem u64_and_mask (u i : Nat) (hu : u < 18446744073709551616) (hi : 2 ^ i ≤ 18446744073709551616) : bits .and .u64 (u : Int) ((2 ^ i - 1 : Nat) : Int) = ((u % 2 ^ i : Nat) : Int) := by
  have := Nat.two_pow_pos i
  rw [u64_and_nat u (2 ^ i - 1) hu (by omega), Nat.and_two_pow_sub_one_eq_mod]
theorem u64_and127 (u : Nat) (hu : u < 18446744073709551616) : bits .and .u64 (u : Int) 127 = ((u % 128 : Nat) : Int) := u64_and_mask u 7 hu (by decide)
theorem u64_and1 (u : Nat) (hu : u < 18446744073709551616) : bits .and .u64 (u : Int) 1 = ((u % 2 : Nat) : Int) := u64_and_mask u 1 hu (by decide)
theorem u8_and127 (u : Nat) (hu : u < 256) : bits .and .u8 (u : Int) 127 = ((u % 128 : Nat) : Int) := by
  have h := u8_and_nat u 127 hu (by decide)
  have h2 : u &&& 127 = u % 128 := Nat.and_two_pow_sub_one_eq_mod u 7
  rw [← h2, ← h]; rfl
/-- A sum of parts that share no bit. -/
theorem u64_or_join (a b i : Nat) (hd : a % 2 ^ i = 0) (hb : b < 2 ^ i) (ha : a + b < 18446744073709551616) : bits .or .u64 (a : Int) (b : Int) = ((a + b : Nat) : Int) := by
  rw [u64_or_nat a b (by omega) (by omega)]
  have hq : a = 2 ^ i * (a / 2 ^ i) := by
    have := Nat.div_add_mod a (2 ^ i)
    omega
  rw [hq, ← Nat.two_pow_add_eq_or_of_lt hb (a / 2 ^ i)]
theorem u64_or_comm (a b : Int) : bits .or .u64 a b = bits .or .u64 b a := by simp only [bits, BitVec.or_comm]
theorem u64_or1 (a : Nat) (hd : a % 2 = 0) (ha : a + 1 < 18446744073709551616) : bits .or .u64 (a : Int) 1 = ((a + 1 : Nat) : Int) := u64_or_join a 1 1 hd (by decide) ha
end Go.Proofs.YtdgflobdnkopbaaDoor

/-
  Words of this seat's proofs, over any program: a slice value that reads as a list ('Reads'), a slice of the call's own ('ownsRow') and what append leaves of it, whatever is appended. No condition.
-/
namespace Go.Proofs.YtdgflobdnkopbaaDoor
open Go.RowKit

theorem block_of_add (a : Addr) (n : Nat) : (a.add n).block = a.block := by unfold Addr.add; split <;> rfl
theorem add_of_add (a : Addr) (i j : Nat) : (a.add i).add j = a.add (i + j) := by
  unfold Addr.add
  by_cases hi : i = 0 <;> by_cases hj : j = 0 <;> simp [hi, hj, Nat.add_assoc]

/-- The slice value '.slice A n c' reads as the cells xs, which lie below block B. -/
def Reads (w : World) (B size : Nat) (A : Option Addr) (n : Nat) (xs : List Value) : Prop :=
  xs.length = n * size ∧ (0 < n → ∃ ad, A = some ad ∧ ad.block < B ∧ ∀ j u, xs[j]? = some u → w.cell? (ad.add j) = some u)

section
variable {w w' : World} {B B' size n : Nat} {A : Option Addr} {xs : List Value}
theorem Reads.nil_ : Reads w B size A 0 [] := ⟨by simp, fun h => absurd h (by omega)⟩
theorem Reads.at_ {k : Nat} (h : Reads w B 1 A n xs) (hk : k < n) : ∃ ad u, A = some ad ∧ ad.block < B ∧ xs[k]? = some u ∧ w.cell? (ad.add k) = some u := by
  obtain ⟨ad, e, hb, hc⟩ := h.2 (by omega)
  have hl : k < xs.length := by have := h.1; omega
  exact ⟨ad, xs[k], e, hb, List.getElem?_eq_getElem hl, hc k _ (List.getElem?_eq_getElem hl)⟩
theorem Reads.keep (h : Reads w B size A n xs) (hk : ∀ p : Addr, p.block < B → w'.cell? p = w.cell? p) : Reads w' B size A n xs :=
  ⟨h.1, fun hn => by
    obtain ⟨ad, e, hb, hc⟩ := h.2 hn
    exact ⟨ad, e, hb, fun j u hu => (hk _ (by rw [block_of_add]; exact hb)).trans (hc j u hu)⟩⟩
theorem Reads.more (h : Reads w B size A n xs) (hB : B ≤ B') : Reads w B' size A n xs :=
  ⟨h.1, fun hn => by
    obtain ⟨ad, e, hb, hc⟩ := h.2 hn
    exact ⟨ad, e, by omega, hc⟩⟩
theorem Reads.below (h : Reads w B size A n xs) (hb : Below B w w') : Reads w' B size A n xs := h.keep fun _ hp => hb.cell hp
/-- Behind a call: below the new heap's size. -/
theorem Reads.on (h : Reads w w.heap.size size A n xs) (hb : Below w.heap.size w w') : Reads w' w'.heap.size size A n xs := (h.below hb).more hb.size
theorem Reads.drew (h : Reads w B size A n xs) : Reads w.drew B size A n xs := h
theorem Reads.drewN (h : Reads w B size A n xs) (k : Nat) : Reads (w.drewN k) B size A n xs := h
theorem Reads.alloc (h : Reads w B size A n xs) (hB : B ≤ w.heap.size) (o : Obj) : Reads (w.alloc o) B size A n xs := h.keep fun p hp => World.cell?_alloc_lt w o p (by omega)
theorem Reads.setCell (h : Reads w B size A n xs) {p : Addr} (hB : B ≤ p.block) (u : Value) : Reads (w.setCell p u) B size A n xs :=
  h.keep fun q hq => World.cell?_setCell_other w p q u (fun e => by subst e; omega)
theorem Reads.cut (h : Reads w B size A n xs) {k cap : Nat} (hk : k ≤ n) (hc : n ≤ cap) :
    Reads w B size (if cap = k then A else A.map (·.add (k * size))) (n - k) (xs.drop (k * size)) := by
  refine ⟨by rw [List.length_drop, h.1, Nat.sub_mul], fun hn => ?_⟩
  obtain ⟨ad, rfl, hb, hcell⟩ := h.2 (by omega)
  rw [if_neg (by omega)]
  refine ⟨ad.add (k * size), rfl, by rw [block_of_add]; exact hb, fun j u hu => ?_⟩
  rw [add_of_add]
  exact hcell _ u (by rw [← hu, List.getElem?_drop])
theorem Reads.take (h : Reads w B size A n xs) {k : Nat} (hk : k ≤ n) : Reads w B size A k (xs.take (k * size)) := by
  refine ⟨by rw [List.length_take, h.1, Nat.min_eq_left (Nat.mul_le_mul_right _ hk)], fun hn => ?_⟩
  obtain ⟨ad, rfl, hb, hcell⟩ := h.2 (by omega)
  refine ⟨ad, rfl, hb, fun j u hu => hcell j u ?_⟩
  rw [List.getElem?_take] at hu
  split at hu
  · exact hu
  · cases hu
theorem Reads.of_own {base : Nat} {e : TypeId} {c : Nat} (h : w.ownsRow base e size (.slice A n c) n xs) : Reads w w.heap.size size A n xs := by
  refine ⟨h.1, fun hn => ?_⟩
  obtain ⟨g, cap, hv, _, hlt⟩ := h.form hn
  have hA : A = some ⟨g, 0, none⟩ := by injection hv
  subst hA
  exact ⟨_, rfl, hlt, h.cells (g := g) rfl⟩
/-- What the call owns is a slice value, and reads. -/
theorem own_form {base : Nat} {e : TypeId} {v : Value} (h : w.ownsRow base e size v n xs) : ∃ A c, v = .slice A n c ∧ n ≤ c ∧ c ≤ maxLen ∧ Reads w w.heap.size size A n xs := by
  rcases h.2 with ⟨rfl, rfl⟩ | ⟨g, cap, cur, rfl, _, _, hn, hm, _⟩
  · exact ⟨none, 0, rfl, Nat.le_refl _, by unfold maxLen; omega, Reads.of_own h⟩
  · exact ⟨_, cap, rfl, hn, hm, Reads.of_own h⟩
/-- A smaller base. -/
theorem own_base {base base' : Nat} {e : TypeId} {v : Value} (h : w.ownsRow base e size v n xs) (hb : base' ≤ base) : w.ownsRow base' e size v n xs := by
  obtain ⟨h1, h2⟩ := h
  refine ⟨h1, ?_⟩
  rcases h2 with h2 | ⟨g, cap, cur, hv, hg, r⟩
  · exact .inl h2
  · exact .inr ⟨g, cap, cur, hv, Nat.le_trans hb hg, r⟩
end

section
variable {P : Program} (w : World)

/-- What is appended, out of 'Reads'. -/
theorem Src.ofReads {size : Nat} {tx e' : TypeId} (hk : P.underlying tx = some (.slice e')) {B : Nat} {A : Option Addr} {m : Nat} {c : Nat} {news : List Value} (hr : Reads w B size A m news) (h1 : ∀ u ∈ news, u.oneCell' = true) :
    Src P size tx (.slice A m c) m news w := by
  rcases A with _ | ad
  · have hm : m = 0 := by
      rcases Nat.eq_zero_or_pos m with h0 | h0
      · exact h0
      · obtain ⟨ad, h, _⟩ := hr.2 h0
        cases h
    subst hm
    have hn : news = [] := List.eq_nil_of_length_eq_zero (by simpa using hr.1)
    subst hn
    exact Src.ofNil w hk c
  · refine Src.ofSlice w hk ad m c news hr.1 (fun j u hu => ?_) h1
    rcases Nat.eq_zero_or_pos m with h0 | h0
    · subst h0
      have hn : news = [] := List.eq_nil_of_length_eq_zero (by simpa using hr.1)
      subst hn
      simp at hu
    · obtain ⟨ad', h, _, hc⟩ := hr.2 h0
      injection h with h
      subst h
      exact hc j u hu

theorem firstCells_reads {size : Nat} {B : Nat} {A : Option Addr} {n c : Nat} {xs : List Value} (hr : Reads w B size A n xs) : (Builtin.firstCells size n (.slice A n c)).run P w = .ok xs.toArray w := by
  rcases A with _ | ad
  · have hm : n = 0 := by
      rcases Nat.eq_zero_or_pos n with h0 | h0
      · exact h0
      · obtain ⟨ad, h, _⟩ := hr.2 h0
        cases h
    subst hm
    have hn : xs = [] := List.eq_nil_of_length_eq_zero (by simpa using hr.1)
    subst hn
    exact run_firstCells_none w size 0 0 c
  · refine run_firstCells_some w size n ad n c xs hr.1 (fun j u hu => ?_)
    rcases Nat.eq_zero_or_pos n with h0 | h0
    · subst h0
      have hn : xs = [] := List.eq_nil_of_length_eq_zero (by simpa using hr.1)
      subst hn
      simp at hu
    · obtain ⟨ad', h, _, hc⟩ := hr.2 h0
      injection h with h
      subst h
      exact hc j u hu

/-- A new row of old ++ new ++ zeros owns what it should. -/
theorem own_grown (base e size n m old : Nat) (z : Value) (hzs : z.cells.size = size) (xs news : List Value) (hx : xs.length = n * size) (hl : news.length = m * size)
    (h63 : n + m ≤ maxLen) (hbase : base ≤ w.heap.size) :
    (w.drew.alloc (.cells ((xs ++ news).toArray ++ Builtin.zeroCells z.cells (grownCap w (n + m) old e - (n + m))) e)).ownsRow base e size
      (.slice (some ⟨w.heap.size, 0, none⟩) (n + m) (grownCap w (n + m) old e)) (n + m) (xs ++ news) := by
  have hlen : (xs ++ news).length = (n + m) * size := by rw [List.length_append, hx, hl, Nat.add_mul]
  have hge := grownCap_ge w (n + m) old e
  have hcm : grownCap w (n + m) old e ≤ maxLen := grownCap_le_maxLen w (n + m) old e h63
  refine ⟨hlen, .inr ⟨w.heap.size, _, _, rfl, hbase, heap_alloc_new w.drew _, hge, hcm, ?_, ?_⟩⟩
  · simp only [Array.size_append, List.size_toArray, size_zeroCells, hzs, hlen, ← Nat.add_mul]
    congr 1
    omega
  · simp only [Array.toList_append]
    rw [← hlen]
    exact List.take_left

/-- append ONTO A SLICE OF THE CALL's OWN, WHATEVER IS APPENDED. -/
theorem run_append_src (base : Nat) (t tx ty e : TypeId) (i : TypeInfo) (z : Value) (size bytes : Nat) (ht : P.underlying t = some (.slice e)) (hi : P.info? e = some i) (hz : i.zero = some z)
    (hsize : i.size = size) (hby : i.bytes = bytes) (hzs : z.cells.size = size)
    (v : Value) (n : Nat) (xs : List Value) (hown : w.ownsRow base e size v n xs) (x : Value) (m : Nat) (news : List Value) (hs : Src P size tx x m news w)
    (h63 : n + m ≤ maxLen) (hbytes : (n + m) * bytes ≤ 140737488355328) (hbase : base ≤ w.heap.size) :
    ∃ v' w', (Builtin.append_ #[t, tx] ty #[v, x]).run P w = .ok v' w' ∧ w'.ownsRow base e size v' (n + m) (xs ++ news) ∧ w.grownBy w' v.ownBlock := by
  subst hsize
  subst hby
  have hlen : (xs ++ news).length = (n + m) * i.size := by rw [List.length_append, hown.1, hs.newsLen, Nat.add_mul]
  have hsmall : ((n + m : Nat) : Int) ≤ 9223372036854775807 := by simp only [maxLen] at h63; omega
  rcases hown.2 with ⟨rfl, rfl⟩ | ⟨g, cap, cur, rfl, hbg, hg, hnc, hcm, hcs, htake⟩
  · have hx : xs = [] := List.eq_nil_of_length_eq_zero (by simpa using hown.1)
    subst hx
    by_cases hm : m = 0
    · subst hm
      have hn : news = [] := List.eq_nil_of_length_eq_zero (by simpa using hs.newsLen)
      subst hn
      refine ⟨.slice none 0 0, w, ?_, World.ownsRow_nil w base e i.size, World.grownBy.refl w _⟩
      rcases hs.kind with ⟨e', hk⟩ | hk <;> simp [Builtin.append_, run_underlying ht, run_underlying hk, sizeOf, typeInfo, hi, hs.len, hs.cells]
    · have hr := run_append_grow_src (P := P) w t tx ty e i z ht hi hz none 0 0 [] (run_firstCells_none w.drew i.size 0 0 0) x m news hs (by omega) hsmall (growslice_fits (by omega) hbytes)
      refine ⟨_, _, hr, ?_, ⟨rfl, rfl, rfl, by simp, fun k hk _ => Below.heap_alloc w.drew _ k hk⟩⟩
      have := own_grown w base e i.size 0 m 0 z hzs [] news (by simp) hs.newsLen h63 hbase
      simpa using this
  · by_cases hroom : n + m ≤ cap
    · have hfit : n * i.size + news.length ≤ cur.size := by rw [hs.newsLen, hcs, ← Nat.add_mul]; exact Nat.mul_le_mul_right _ hroom
      have hst := run_storeCells_at P g (n * i.size) e news 0 cur w hg (by simpa using hfit) hs.one
      simp only [Nat.add_zero] at hst
      have hr : (Builtin.append_ #[t, tx] ty #[.slice (some ⟨g, 0, none⟩) n cap, x]).run P w =
          .ok (.slice (some ⟨g, 0, none⟩) (n + m) cap) (w.setRow g (cur.toList.take (n * i.size) ++ news ++ cur.toList.drop (n * i.size + news.length)).toArray) := by
        rcases hs.kind with ⟨e', hk⟩ | hk <;> simp [Builtin.append_, run_underlying ht, run_underlying hk, sizeOf, typeInfo, hi, hs.len, hroom, hs.cells, Addr.add_lit, hst]
      refine ⟨_, _, hr, ⟨hlen, .inr ⟨g, cap, _, rfl, hbg, setRow_heap w g cur _ e _ hg, hroom, hcm, ?_, ?_⟩⟩, ⟨rfl, rfl, rfl, by simp, fun k _ hk => setRow_other w g k _ (fun e => hk (by simp [Value.ownBlock, e]))⟩⟩
      · simp only [List.size_toArray, List.length_append, List.length_take, List.length_drop, Array.length_toList]
        omega
      · rw [htake, ← hlen]
        exact List.take_left
    · have holds : ∀ j u, xs[j]? = some u → w.cell? ((⟨g, 0, none⟩ : Addr).add j) = some u := hown.cells (g := g) rfl
      have hr := run_append_grow_src (P := P) w t tx ty e i z ht hi hz (some ⟨g, 0, none⟩) n cap xs (run_firstCells_some w.drew i.size n ⟨g, 0, none⟩ n cap xs hown.1 (by simpa using holds)) x m news hs (by omega) hsmall (growslice_fits (by omega) hbytes)
      exact ⟨_, _, hr, own_grown w base e i.size n m cap z hzs xs news hown.1 hs.newsLen h63 hbase, ⟨rfl, rfl, rfl, by simp, fun k hk _ => Below.heap_alloc w.drew _ k hk⟩⟩

/-- append TO A SLICE WITHOUT ROOM (a cut of full capacity): the old row is not written. -/
theorem run_append_full (t tx ty e : TypeId) (i : TypeInfo) (z : Value) (size bytes : Nat) (ht : P.underlying t = some (.slice e)) (hi : P.info? e = some i) (hz : i.zero = some z)
    (hsize : i.size = size) (hby : i.bytes = bytes) (hzs : z.cells.size = size)
    (B : Nat) (A : Option Addr) (n : Nat) (xs : List Value) (hr0 : Reads w B size A n xs) (hB : B ≤ w.heap.size) (x : Value) (m : Nat) (news : List Value) (hs : Src P size tx x m news w)
    (h63 : n + m ≤ maxLen) (hbytes : (n + m) * bytes ≤ 140737488355328) :
    ∃ A' c' w', (Builtin.append_ #[t, tx] ty #[.slice A n n, x]).run P w = .ok (.slice A' (n + m) c') w' ∧ n + m ≤ c' ∧ Reads w' w'.heap.size size A' (n + m) (xs ++ news) ∧ Below w.heap.size w w' := by
  subst hsize
  subst hby
  have hsmall : ((n + m : Nat) : Int) ≤ 9223372036854775807 := by simp only [maxLen] at h63; omega
  by_cases hm : m = 0
  · subst hm
    have hn : news = [] := List.eq_nil_of_length_eq_zero (by simpa using hs.newsLen)
    subst hn
    refine ⟨A, n, w, ?_, Nat.le_refl _, by simpa using hr0.more hB, Below.refl _ _⟩
    rcases A with _ | a <;> rcases hs.kind with ⟨e', hk⟩ | hk <;> simp [Builtin.append_, run_underlying ht, run_underlying hk, sizeOf, typeInfo, hi, hs.len, hs.cells, storeCells]
  · have hr := run_append_grow_src (P := P) w t tx ty e i z ht hi hz A n n xs (firstCells_reads (P := P) w.drew (hr0.drew)) x m news hs (by omega) hsmall (growslice_fits (by omega) hbytes)
    have hown := own_grown w w.heap.size e i.size n m n z hzs xs news hr0.1 hs.newsLen h63 (Nat.le_refl _)
    exact ⟨_, _, _, hr, grownCap_ge _ _ _ _, Reads.of_own hown, ((Below.refl _ _).drew).alloc (Nat.le_refl _) _⟩

theorem wpList_append_src {ops : Array Oper} {rest : List Oper} {o : Oper} {a : Act} {Q : Exit → Act → World → Prop} (hgd : o.guard = none) (s x : Operand) (t tx : TypeId)
    (ho : o.op = .call { callee := .builtin .append, args := #[s, x], argTypes := #[t, tx] })
    (base : Nat) (e : TypeId) (i : TypeInfo) (z : Value) (size bytes : Nat) (ht : P.underlying t = some (.slice e)) (hi : P.info? e = some i) (hz : i.zero = some z)
    (hsize : i.size = size) (hby : i.bytes = bytes) (hzs : z.cells.size = size)
    (v : Value) (n : Nat) (xs : List Value) (hsv : a.eval s = v) (hown : w.ownsRow base e size v n xs) (m : Nat) (news : List Value) (hs : Src P size tx (a.eval x) m news w)
    (h63 : n + m ≤ maxLen) (hbytes : (n + m) * bytes ≤ 140737488355328) (hbase : base ≤ w.heap.size)
    (h : ∀ v' w', w'.ownsRow base e size v' (n + m) (xs ++ news) → Below base w w' → wpList P ops Q rest (a.put o.dst v') w') : wpList P ops Q (o :: rest) a w := by
  refine wpList_plain hgd fun _ hK => ?_
  obtain ⟨v', w', hrun, h2, h3⟩ := run_append_src (P := P) w base t tx o.type e i z size bytes ht hi hz hsize hby hzs v n xs hown (a.eval x) m news hs h63 hbytes hbase
  unfold Oper.wp execOp
  simp only [ho, resolve, invoke, builtin, Sem.run_bind, Sem.run_pure, Result.andThen_ok, List.map_toArray, List.map_cons, List.map_nil, hsv, hrun]
  exact hK _ _ (h v' w' h2 ((Below.refl base w).grown h3 hbase fun k hk => (hown.lt k hk).1))

theorem wpList_append_full {ops : Array Oper} {rest : List Oper} {o : Oper} {a : Act} {Q : Exit → Act → World → Prop} (hgd : o.guard = none) (s x : Operand) (t tx : TypeId)
    (ho : o.op = .call { callee := .builtin .append, args := #[s, x], argTypes := #[t, tx] })
    (e : TypeId) (i : TypeInfo) (z : Value) (size bytes : Nat) (ht : P.underlying t = some (.slice e)) (hi : P.info? e = some i) (hz : i.zero = some z)
    (hsize : i.size = size) (hby : i.bytes = bytes) (hzs : z.cells.size = size)
    (B : Nat) (A : Option Addr) (n : Nat) (xs : List Value) (hsv : a.eval s = .slice A n n) (hr0 : Reads w B size A n xs) (hB : B ≤ w.heap.size) (m : Nat) (news : List Value) (hs : Src P size tx (a.eval x) m news w)
    (h63 : n + m ≤ maxLen) (hbytes : (n + m) * bytes ≤ 140737488355328)
    (h : ∀ A' c' w', n + m ≤ c' → Reads w' w'.heap.size size A' (n + m) (xs ++ news) → Below w.heap.size w w' → wpList P ops Q rest (a.put o.dst (.slice A' (n + m) c')) w') : wpList P ops Q (o :: rest) a w := by
  refine wpList_plain hgd fun _ hK => ?_
  obtain ⟨A', c', w', hrun, h2, h3, h4⟩ := run_append_full (P := P) w t tx o.type e i z size bytes ht hi hz hsize hby hzs B A n xs hr0 hB (a.eval x) m news hs h63 hbytes
  unfold Oper.wp execOp
  simp only [ho, resolve, invoke, builtin, Sem.run_bind, Sem.run_pure, Result.andThen_ok, List.map_toArray, List.map_cons, List.map_nil, hsv, hrun]
  exact hK _ _ (h A' c' w' h2 h3 h4)
end

/-! ## Arrays and structs: a load, a store of several cells -/
section
variable {P : Program}
theorem run_loadVar_at (w : World) (ty : TypeId) (ad : Addr) (cs : List Value) (hc : ∀ j u, cs[j]? = some u → w.cell? (ad.add j) = some u) (d : TypeDesc)
    (hu : P.underlying ty = some d) (hd : (match d with | .struct _ | .array _ _ => true | _ => false) = true) (hi : (P.info? ty).map (·.size) = some cs.length) :
    (loadVar ty ad).run P w = .ok (.agg cs.toArray) w := by
  have hl : (loadCells ad cs.length).run P w = .ok cs.toArray w := run_loadCells_list (P := P) w ad cs hc
  cases hq : P.info? ty with
  | none => simp [hq] at hi
  | some i =>
    have hs : i.size = cs.length := by simpa [hq] using hi
    have hagg : (isAgg ty).run P w = .ok true w := by
      unfold isAgg
      rw [Sem.run_bind, run_underlying hu w]
      cases d <;> simp_all
    simp [loadVar, Sem.run_bind, hagg, sizeOf, typeInfo, hq, hs, hl]
theorem run_storeVar_at (w : World) (ty : TypeId) (g : Nat) (cur : Array Value) (e : TypeId) (hg : w.heap[g]? = some (.cells cur e (0, 0))) (cs : Array Value) (h1 : ∀ u ∈ cs.toList, u.oneCell' = true) (hsz : cur.size = cs.size)
    (hi : (P.info? ty).map (·.size) = some cs.size) : (storeVar ty ⟨g, 0, none⟩ (.agg cs)).run P w = .ok () (w.setRow g cs) := by
  have hst := run_storeCells_at P g 0 e cs.toList 0 cur w hg (by simp; omega) h1
  cases hq : P.info? ty with
  | none => simp [hq] at hi
  | some i =>
    have hs : i.size = cs.size := by simpa [hq] using hi
    have e : (cur.toList.take (0 + 0) ++ cs.toList ++ cur.toList.drop (0 + 0 + cs.toList.length)).toArray = cs := by
      rw [List.drop_of_length_le (by simp; omega)]
      simp
    rw [e] at hst
    simp [storeVar, Sem.run_bind, sizeOf, typeInfo, hq, hs, Value.cells, hst]
theorem wpList_load_at {ops : Array Oper} {rest : List Oper} {o : Oper} {a : Act} {w : World} {Q : Exit → Act → World → Prop} (hgd : o.guard = none) (ty : TypeId) (x : Operand) (ho : o.op = .load ty x)
    (ad : Addr) (hx : a.eval x = .pointer (some ad)) (cs : List Value) (hc : ∀ j u, cs[j]? = some u → w.cell? (ad.add j) = some u) (d : TypeDesc)
    (hu : P.underlying ty = some d) (hd : (match d with | .struct _ | .array _ _ => true | _ => false) = true) (hi : (P.info? ty).map (·.size) = some cs.length)
    (h : wpList P ops Q rest (a.put o.dst (.agg cs.toArray)) w) : wpList P ops Q (o :: rest) a w :=
  wpList_plain hgd fun K hK => by
    unfold Oper.wp execOp
    simp only [ho, hx, Instr.loadAt, Instr.sureAddr, Sem.run_bind, Sem.run_pure, Result.andThen_ok, run_loadVar_at w ty ad cs hc d hu hd hi]
    exact hK _ _ h
theorem wpList_store_row {ops : Array Oper} {rest : List Oper} {o : Oper} {a : Act} {w : World} {Q : Exit → Act → World → Prop} (hgd : o.guard = none) (ty : TypeId) (x v : Operand) (ho : o.op = .store ty x v)
    (g : Nat) (hx : a.eval x = .pointer (some ⟨g, 0, none⟩)) (cs : Array Value) (hv : a.eval v = .agg cs) (cur : Array Value) (e : TypeId) (hg : w.heap[g]? = some (.cells cur e (0, 0))) (h1 : ∀ u ∈ cs.toList, u.oneCell' = true) (hsz : cur.size = cs.size)
    (hi : (P.info? ty).map (·.size) = some cs.size)
    (h : wpList P ops Q rest (a.put o.dst undef) (w.setRow g cs)) : wpList P ops Q (o :: rest) a w :=
  wpList_plain hgd fun K hK => by
    unfold Oper.wp execOp
    simp only [ho, hx, hv, Instr.storeAt, Instr.sureAddr, Sem.run_bind, Sem.run_pure, Result.andThen_ok, run_storeVar_at w ty g cur e hg cs h1 hsz hi]
    exact hK _ _ h
end

/-- A byte as a cell, bytes as cells. -/
def bv (b : UInt8) : Value := .int .u8 (b.toNat : Int)
def bvs (l : List UInt8) : List Value := l.map bv
theorem bvs_one (l : List UInt8) : ∀ u ∈ bvs l, u.oneCell' = true := by
  intro u hu
  obtain ⟨b, _, rfl⟩ := List.mem_map.1 hu
  rfl
theorem bvs_append (l k : List UInt8) : bvs (l ++ k) = bvs l ++ bvs k := List.map_append
theorem bvs_length (l : List UInt8) : (bvs l).length = l.length := List.length_map _
theorem byteCells_bvs (s : ByteArray) : byteCells s = bvs s.data.toList := rfl
/-- The one cell of 'append(s, x)''s box. -/
theorem Src.box {P : Program} {tx e' : TypeId} (hk : P.underlying tx = some (.slice e')) (w : World) (u : Value) (t : TypeId) (h1 : u.oneCell' = true) (c : Nat) :
    Src P 1 tx (.slice (some ⟨w.heap.size, 0, none⟩) 1 c) 1 [u] (w.alloc (.cells #[u] t)) :=
  Src.ofSlice _ hk _ 1 c [u] rfl (cell_one_new w u t) (by intro x hx; simp at hx; subst hx; exact h1)
end Go.Proofs.YtdgflobdnkopbaaDoor

/-
  A local array or struct: a new block that is stored into as a whole. Over any program. No condition.
-/
namespace Go.Proofs.YtdgflobdnkopbaaDoor
open Go.RowKit

/-- The world behind 'var d T = x': a new block, whose cells are then set. -/
def laid (w : World) (o : Obj) (cs : Array Value) : World := (w.alloc o).setRow w.heap.size cs
section
variable (w : World)
theorem laid_size (o : Obj) (cs : Array Value) : (laid w o cs).heap.size = w.heap.size + 1 := by simp [laid]
theorem laid_grown (o : Obj) (cs : Array Value) : w.grownBy (laid w o cs) none :=
  ⟨rfl, rfl, rfl, by rw [laid_size]; omega, fun k hk _ => by
    unfold laid
    rw [setRow_other _ _ _ _ (by omega)]
    exact Below.heap_alloc w o k hk⟩
theorem laid_heap (cur : Array Value) (e : TypeId) (cs : Array Value) : (laid w (.cells cur e) cs).heap[w.heap.size]? = some (.cells cs e (0, 0)) :=
  setRow_heap _ _ cur cs e _ (Go.heap_alloc_new w _)
theorem laid_below {B : Nat} {w0 : World} (h : Below B w0 w) (hB : B ≤ w.heap.size) (o : Obj) (cs : Array Value) : Below B w0 (laid w o cs) :=
  h.grown (laid_grown w o cs) hB (by simp)
theorem laid_own {base : Nat} {e : TypeId} {size n : Nat} {v : Value} {xs : List Value} (h : w.ownsRow base e size v n xs) (o : Obj) (cs : Array Value) : (laid w o cs).ownsRow base e size v n xs :=
  h.kept (laid_grown w o cs) (by cases hv : v.ownBlock <;> simp)
theorem laid_cells (cur : Array Value) (e : TypeId) (cs : Array Value) : ∀ j u, cs.toList[j]? = some u → (laid w (.cells cur e) cs).cell? ((⟨w.heap.size, 0, none⟩ : Addr).add j) = some u :=
  World.news_of_block (laid_heap w cur e cs)
end

/-- What the call owns is not touched by a callee. -/
theorem own_below {w w' : World} {base : Nat} {e : TypeId} {size n : Nat} {v : Value} {xs : List Value} (h : w.ownsRow base e size v n xs) (hb : Below w.heap.size w w') : w'.ownsRow base e size v n xs := by
  obtain ⟨h1, h2⟩ := h
  refine ⟨h1, ?_⟩
  rcases h2 with h2 | ⟨g, cap, cur, hv, hg, hh, r⟩
  · exact .inl h2
  · exact .inr ⟨g, cap, cur, hv, hg, (hb.block g (Array.getElem?_eq_some_iff.1 hh).1).trans hh, r⟩

/-- Three results, the first of them in memory. -/
theorem results_cell3 {P : Program} {fn : Func} {p t u : Tmp} {ty : TypeId} (h : fn.results = #[.cell p ty, .tmp t, .tmp u]) (tmps : Array Value) (w : World) (ad : Addr) (x : Value) (hp : tmps.getD p undef = .pointer (some ad))
    (hl : (loadVar ty ad).run P w = .ok x w) : (results fn tmps).run P w = .ok (.tuple #[x, tmps.getD t undef, tmps.getD u undef]) w := by
  have hp' : tmps[p]?.getD undef = .pointer (some ad) := by simpa using hp
  simp [results, h, hp', asAddr, hl]

/-! ## An operation whose value is known, in a walk of the text's order -/
section
variable {P : Program}
theorem wanted_plain {ops : Array Oper} {o : Oper} {a : Act} (hgd : o.guard = none) : Region.wanted o (yielded ops a.tmps) = true := by simp [Region.wanted, hgd]
theorem wpQuiet_value {ops : Array Oper} {C : World → Prop} {Q : Act → Prop} {o : Oper} {rest : List Oper} {a : Act} (hgd : o.guard = none) (v : Value) (hrun : ∀ w, C w → (execOp a.eval o).run P w = .ok (.value v) w)
    (h : wpQuiet P ops C Q rest (a.put o.dst v)) : wpQuiet P ops C Q (o :: rest) a := by
  show if Region.wanted o (yielded ops a.tmps) then o.quiet P a C (wpQuiet P ops C Q rest) else wpQuiet P ops C Q rest (a.put o.dst undef)
  rw [if_pos (wanted_plain hgd)]
  refine ⟨v, fun w hw => ?_, h⟩
  unfold Oper.quietAt
  rw [hrun w hw]
  exact ⟨rfl, rfl⟩
theorem wpQuiet_valueK {ops : Array Oper} {C : World → Prop} {Q : Act → Prop} {o : Oper} {rest : List Oper} {a : Act} (hgd : o.guard = none) (v : Value) (hrun : ∀ w, C w → (execOp a.eval o).run P w = .ok (.value v) w)
    (h : ∀ K : Act → Prop, (∀ a, wpQuiet P ops C Q rest a → K a) → K (a.put o.dst v)) : wpQuiet P ops C Q (o :: rest) a := wpQuiet_value hgd v hrun (h _ fun _ h => h)
theorem wpList_value {ops : Array Oper} {rest : List Oper} {o : Oper} {a : Act} {w : World} {Q : Exit → Act → World → Prop} (hgd : o.guard = none) (v : Value) (hrun : (execOp a.eval o).run P w = .ok (.value v) w)
    (h : wpList P ops Q rest (a.put o.dst v) w) : wpList P ops Q (o :: rest) a w :=
  wpList_plain hgd fun K hK => by
    unfold Oper.wp
    rw [hrun]
    exact hK _ _ h
theorem exec_load {ρ : Operand → Value} {o : Oper} (w : World) (ty : TypeId) (x : Operand) (ho : o.op = .load ty x) (ad : Addr) (hx : ρ x = .pointer (some ad)) (cs : List Value) (hc : ∀ j u, cs[j]? = some u → w.cell? (ad.add j) = some u) (d : TypeDesc)
    (hu : P.underlying ty = some d) (hd : (match d with | .struct _ | .array _ _ => true | _ => false) = true) (hi : (P.info? ty).map (·.size) = some cs.length) :
    (execOp ρ o).run P w = .ok (.value (.agg cs.toArray)) w := by
  unfold execOp
  simp only [ho, hx, Instr.loadAt, Instr.sureAddr, Sem.run_bind, Sem.run_pure, Result.andThen_ok, run_loadVar_at w ty ad cs hc d hu hd hi]
theorem exec_eql_bytes {ρ : Operand → Value} {o : Oper} (w : World) (t yt e : TypeId) (n : Nat) (x y : Operand) (ho : o.op = .binOp .eql t x y yt) (ht : P.underlying t = some (.array n e)) (he : P.underlying e = some (.int .u8)) (hsz : ∀ w, (sizeOf e).run P w = .ok 1 w)
    (hg : P.eqGuardType P.depth t = false) (xs ys : List UInt8) (hx : xs.length = n) (hy : ys.length = n) (h1 : ρ x = .agg (bvs xs).toArray) (h2 : ρ y = .agg (bvs ys).toArray) :
    (execOp ρ o).run P w = .ok (.value (.bool (xs == ys))) w := by
  have h := run_eql_bytes (P := P) w t e n ht he hsz xs ys hx hy
  have e1 : xs.map Extern.Stop.cell = bvs xs := rfl
  have e2 : ys.map Extern.Stop.cell = bvs ys := rfl
  rw [e1, e2] at h
  unfold execOp
  simp [ho, h1, h2, eqGuard, hg, h]
theorem exec_neq_bytes {ρ : Operand → Value} {o : Oper} (w : World) (t yt e : TypeId) (n : Nat) (x y : Operand) (ho : o.op = .binOp .neq t x y yt) (ht : P.underlying t = some (.array n e)) (he : P.underlying e = some (.int .u8)) (hsz : ∀ w, (sizeOf e).run P w = .ok 1 w)
    (hg : P.eqGuardType P.depth t = false) (xs ys : List UInt8) (hx : xs.length = n) (hy : ys.length = n) (h1 : ρ x = .agg (bvs xs).toArray) (h2 : ρ y = .agg (bvs ys).toArray) :
    (execOp ρ o).run P w = .ok (.value (.bool (!(xs == ys)))) w := by
  have h := run_equalIn_bytes (P := P) w 9998 t e n ht he hsz xs ys hx hy
  have e1 : xs.map Extern.Stop.cell = bvs xs := rfl
  have e2 : ys.map Extern.Stop.cell = bvs ys := rfl
  rw [e1, e2] at h
  unfold execOp
  simp [ho, h1, h2, eqGuard, hg, binOp, Op.equal, Op.maxDepth, h]
end
end Go.Proofs.YtdgflobdnkopbaaDoor

/-
  'string(b)' and '[]byte(s)' in a walk. Over any program. No condition.
-/
namespace Go.Proofs.YtdgflobdnkopbaaDoor
open Go.RowKit

section
variable {P : Program}
theorem exec_string_of {ρ : Operand → Value} {o : Oper} (w : World) (src dst e : TypeId) (x : Operand) (ho : o.op = .convert src dst x) (hs : P.underlying src = some (.slice e)) (he : P.underlying e = some (.int .u8)) (hd : P.underlying dst = some .string)
    {B : Nat} {A : Option Addr} {n c : Nat} {l : List UInt8} (hx : ρ x = .slice A n c) (hr : Reads w B 1 A n (bvs l)) : (execOp ρ o).run P w = .ok (.value (.string ⟨l.toArray⟩)) w := by
  have hl : l.length = n := by have := hr.1; rw [bvs_length] at this; omega
  have h : (convert src dst (.slice A n c)).run P w = .ok (.string ⟨l.toArray⟩) w := by
    rcases A with _ | ad
    · rw [run_convert_bytes_string w src dst e none n c hs he hd]
      have hm : n = 0 := by
        rcases Nat.eq_zero_or_pos n with h0 | h0
        · exact h0
        · obtain ⟨ad, h, _⟩ := hr.2 h0
          cases h
      have : l = [] := List.eq_nil_of_length_eq_zero (by omega)
      subst this
      rfl
    · rw [← hl]
      refine run_convert_bytes_back w src dst e ad c l hs he hd fun j hj => ?_
      obtain ⟨ad', h, _, hc⟩ := hr.2 (by omega)
      injection h with h
      subst h
      exact hc j _ (by unfold bvs; rw [List.getElem?_map, List.getElem?_eq_getElem hj]; rfl)
  unfold execOp
  simp [ho, hx, h]
theorem exec_bytes_of {ρ : Operand → Value} {o : Oper} (w : World) (src dst e : TypeId) (x : Operand) (ho : o.op = .convert src dst x) (hs : P.underlying src = some .string) (he : P.underlying e = some (.int .u8)) (hd : P.underlying dst = some (.slice e))
    {s : ByteArray} (hx : ρ x = .string s) : ∃ A c w', (execOp ρ o).run P w = .ok (.value (.slice A s.size c)) w' ∧ s.size ≤ c ∧ Reads w' w'.heap.size 1 A s.size (bvs s.data.toList) ∧ Below w.heap.size w w' := by
  have h := run_bytes_of_string (P := P) w src dst e s hs hd he
  have hrun : (execOp ρ o).run P w = .ok (.value (.slice (some ⟨w.heap.size, 0, none⟩) s.size (grownCap w s.size 0 e)))
      (w.drew.alloc (.cells (bytesRow s (grownCap w s.size 0 e)) e ((bytesRow s (grownCap w s.size 0 e)).size, (bytesRow s (grownCap w s.size 0 e)).size + 1))) := by
    unfold execOp
    simp [ho, hx, h]
  refine ⟨_, _, _, hrun, grownCap_ge _ _ _ _, ⟨?_, fun _ => ⟨⟨w.heap.size, 0, none⟩, rfl, by simp, fun j u hu => ?_⟩⟩, ((Below.refl _ _).drew).alloc (Nat.le_refl _) _⟩
  · rw [bvs_length]; simp
  · refine World.news_of_block (Go.heap_alloc_new w.drew _) j u ?_
    have hj : j < (bvs s.data.toList).length := by
      rcases Nat.lt_or_ge j (bvs s.data.toList).length with h | h
      · exact h
      · rw [List.getElem?_eq_none h] at hu; cases hu
    unfold bytesRow
    simp only [Array.toList_append, Array.toList_map]
    rw [List.getElem?_append_left (by rw [List.length_map]; rw [bvs_length] at hj; exact hj)]
    exact hu
theorem wpList_valueW {ops : Array Oper} {rest : List Oper} {o : Oper} {a : Act} {w w' : World} {Q : Exit → Act → World → Prop} (hgd : o.guard = none) (v : Value) (hrun : (execOp a.eval o).run P w = .ok (.value v) w')
    (h : wpList P ops Q rest (a.put o.dst v) w') : wpList P ops Q (o :: rest) a w :=
  wpList_plain hgd fun K hK => by
    unfold Oper.wp
    rw [hrun]
    exact hK _ _ h
end
end Go.Proofs.YtdgflobdnkopbaaDoor

/-
  The box of 'append(s, x)' where x is an array or a struct; '[]T{x}' of one element. Over any program. No condition.
-/
namespace Go.Proofs.YtdgflobdnkopbaaDoor
open Go.RowKit

theorem foldl_set (l : List Value) : ∀ (k : Nat) (acc : Array Value), k + l.length ≤ acc.size →
    (l.zipIdx k).foldl (fun cs x => cs.setIfInBounds x.2 x.1) acc = (acc.toList.take k ++ l ++ acc.toList.drop (k + l.length)).toArray := by
  induction l with
  | nil => intro k acc _; simp
  | cons v rest ih =>
    intro k acc h
    rw [List.zipIdx_cons, List.foldl_cons, ih (k + 1) _ (by simp at h ⊢; omega)]
    congr 1
    have e := list_seg_step acc.toList k v rest (by simp at h ⊢; omega)
    simpa [Array.toList_setIfInBounds, Nat.add_assoc] using e
theorem fill_one (Z : Array Value) (cs : List Value) (hZ : Z.size = cs.length) : Instr.fill (fun i => some (i * cs.length, cs.length)) Z [(0, .agg cs.toArray)] = some cs.toArray := by
  have hb := foldl_set cs 0 Z (by omega)
  have e1 : Z.toList.take 0 ++ cs ++ Z.toList.drop (0 + cs.length) = cs := by
    rw [List.drop_of_length_le (by simp; omega)]
    simp
  rw [e1] at hb
  simp [Instr.fill, Value.cells, hZ, hb]
section
variable {P : Program}
theorem exec_slice1 {ρ : Operand → Value} {o : Oper} (w : World) (t e : TypeId) (x : Operand) (ho : o.op = .buildSlice t 1 #[(0, x)]) (ht : P.underlying t = some (.slice e)) (i : TypeInfo) (z : Value) (hi : P.info? e = some i) (hz : i.zero = some z)
    (cs : List Value) (hs : i.size = cs.length) (hpos : 0 < cs.length) (hsmall : cs.length ≤ 1000) (hx : ρ x = .agg cs.toArray) :
    (execOp ρ o).run P w = .ok (.value (.slice (some ⟨w.heap.size, 0, none⟩) 1 1)) (w.alloc (.cells cs.toArray e)) := by
  have hf := fill_one ((Array.range cs.length).map (z.cells[· % z.cells.size]!)) cs (by simp)
  have h24 : ¬ (16777216 < cs.length) := by omega
  have h0 : ¬ cs = [] := by intro h; rw [h] at hpos; simp at hpos
  unfold execOp
  simp [ho, hx, Instr.buildSlice, run_underlying ht, sizeOf, typeInfo, zeroValue, hi, hz, hs, h24, h0, newRow, hf]
end
end Go.Proofs.YtdgflobdnkopbaaDoor

/-
  What wire.Int, wire.appendInt and the reference's Int return: contracts by walks.
-/
namespace Go.Proofs.YtdgflobdnkopbaaDoor
open Go.RowKit

theorem info_u8 : (Tryd.prog.info? 5).map (fun i => (i.zero, i.size, i.bytes)) = some (some (.int .u8 0), 1, 1) := by kernel_rfl

theorem zig_neg (n : Int) (h1 : -9223372036854775808 ≤ n) (h : n < 0) : bits BinOp.or IntKind.u64 (IntKind.u64.wrap (IntKind.u64.wrap (bits BinOp.xor IntKind.i64 (-1) n) * 2)) 1 = ((zz n : Nat) : Int) := by
  obtain ⟨m, hm⟩ : ∃ m : Nat, -n - 1 = (m : Int) := ⟨(-n - 1).toNat, by omega⟩
  have hz : zz n = m * 2 + 1 := by unfold zz; rw [if_neg (by omega)]; omega
  rw [i64_not_any n h1 (by omega), hm, IntWalk.u64_in (m : Int) (by omega), IntWalk.u64_in ((m : Int) * 2) (by omega), hz]
  exact u64_or1 (m * 2) (by omega) (by omega)

set_option maxHeartbeats 400000 in
theorem zigzag_any (n : Int) (w : World) (h1 : -9223372036854775808 ≤ n) (h2 : n ≤ 9223372036854775807) :
    Calls Tryd.prog 36 #[.int .i64 n] w fun e w' => e = .returned (.int .u64 (zz n : Nat)) ∧ w = w' := by
  by_cases h : 0 ≤ n
  · have HZ : Hid (((zz n : Nat) : Int) = n * 2) := by show ((zz n : Nat) : Int) = n * 2; unfold zz; rw [if_pos h]; omega
    go_enter Tryd.func36, Tryd.ntmps36
    go_wp2
    go_ret
    exact ⟨by rw [HZ.out]; rfl, rfl⟩
  · have HZ := Lib.hid (zig_neg n h1 (by omega))
    go_enter Tryd.func36, Tryd.ntmps36
    go_wp2
    go_ret
    exact ⟨by rw [HZ.out]; rfl, rfl⟩

theorem cell_last (u : Nat) (h : u < 128) : Value.int IntKind.u8 (bits BinOp.and IntKind.u64 (u : Int) 127 % 256) = bv (UInt8.ofNat u) := by
  rw [u64_and127 u (by omega)]
  unfold bv
  congr 1
  simp
  omega
theorem cell_more (u : Nat) (h : u < 18446744073709551616) : Value.int IntKind.u8 (bits BinOp.or IntKind.u8 (bits BinOp.and IntKind.u64 (u : Int) 127 % 256) 128) = bv (UInt8.ofNat (u % 128 + 128)) := by
  rw [u64_and127 u (by omega), u8_or128_right _ (by omega) (by omega)]
  unfold bv
  congr 1
  simp
  omega

set_option maxHeartbeats 400000 in
theorem appendInt_any (base : Nat) (v : Value) (k : Nat) (xs : List Value) (n : Int) (w : World) (h1 : -9223372036854775808 ≤ n) (h2 : n ≤ 9223372036854775807)
    (hown : w.ownsRow base 5 1 v k xs) (hb : base ≤ w.heap.size) (hk : k ≤ 1000000000000) :
    Calls Tryd.prog 24 #[v, .int .i64 n] w fun e w' => ∃ v', e = .returned v' ∧ w'.ownsRow base 5 1 v' (k + (encInt n).length) (xs ++ bvs (encInt n)) ∧ Below base w w' := by
  obtain ⟨i0, hi0, hz0, hz1, hz2⟩ := info_parts info_u8
  have hz64 := zz_lt n h1 h2
  have h10 := leb_le10 (zz n) hz64
  go_enter Tryd.func24, Tryd.ntmps24
  go_wp2_with fail
  go_step3
  go_wp2_with fail
  refine (zigzag_any n _ h1 h2).mono ?_
  rintro e w' ⟨rfl, rfl⟩
  go_wp2_with fail
  go_step3
  go_wp2_with fail
  go_loopg [0, 5] (zz n) (fun g v' u wr => ∃ (u' : Nat) (done : List UInt8), u' ≤ g ∧ g ≤ 18446744073709551615 ∧ done.length + (leb u').length ≤ 10 ∧ u = .int .u64 u' ∧ Hid (done ++ leb u' = encInt n) ∧ wr.ownsRow base 5 1 v' (k + done.length) (xs ++ bvs done) ∧ Below base w wr)
  case atStart => exact ⟨zz n, [], Nat.le_refl _, by omega, by simpa using h10, rfl, rfl, by simpa [bvs] using hown, Below.refl _ _⟩
  case round =>
    obtain ⟨u, done, hug, hg64, hlen, rfl, hdone, hown1, hbel⟩ := hrel
    have hu64 : u ≤ 18446744073709551615 := by omega
    by_cases hu : u < 128
    · have hq : ((u : Int) / 128 == 0) = true := by simp; omega
      go_wp2_with (at_builtin; refine wpList_append_src _ rfl (.tmp 22) (.tmp 24) _ _ rfl base 5 i0 _ 1 1 Tryd.underlying34 hi0 hz0 hz1 hz2 rfl _ _ _ rfl (hown1.alloc _) 1 _ (Src.box Tryd.underlying34 _ _ _ rfl _) (by unfold maxLen; omega) (by omega) (by have := hbel.size; simp; omega) ?_; intro v2 w2 hown2 hbel2)
      rw [Exit.noGoto_ret]
      go_ret
      have hd := hdone.out
      rw [leb_small hu] at hd
      refine ⟨_, rfl, ?_, hbel.trans (((Below.refl _ _).alloc (Nat.le_trans hb hbel.size) _).trans hbel2)⟩
      rw [cell_last u hu] at hown2
      have e1 : xs ++ bvs (encInt n) = xs ++ bvs done ++ [bv (UInt8.ofNat u)] := by rw [← hd, bvs_append, List.append_assoc]; rfl
      have e2 : k + (encInt n).length = k + done.length + 1 := by rw [← hd, List.length_append]; rfl
      rw [e1, e2]
      exact hown2
    · have hq : ((u : Int) / 128 == 0) = false := by simp; omega
      go_wp2_with (at_builtin; refine wpList_append_src _ rfl (.tmp 15) (.tmp 18) _ _ rfl base 5 i0 _ 1 1 Tryd.underlying34 hi0 hz0 hz1 hz2 rfl _ _ _ rfl (hown1.alloc _) 1 _ (Src.box Tryd.underlying34 _ _ _ rfl _) (by unfold maxLen; omega) (by omega) (by have := hbel.size; simp; omega) ?_; intro v2 w2 hown2 hbel2)
      go_roundg (gk / 128)
      case measure => omega
      case rel =>
        have hd := hdone.out
        rw [leb_more hu] at hd hlen
        rw [cell_more u (by omega)] at hown2
        refine ⟨u / 128, done ++ [UInt8.ofNat (u % 128 + 128)], by omega, by omega, by simp at hlen ⊢; omega, by go_num, ?_, ?_, hbel.trans (((Below.refl _ _).alloc (Nat.le_trans hb hbel.size) _).trans hbel2)⟩
        · show _ = _
          rw [← hd]; simp
        · rw [bvs_append, ← List.append_assoc, List.length_append, ← Nat.add_assoc]
          exact hown2
end Go.Proofs.YtdgflobdnkopbaaDoor

/-
  What wire.Int, wire.Bytes and the reference's Int return: contracts by walks.
-/
namespace Go.Proofs.YtdgflobdnkopbaaDoor
open Go.RowKit

/-- A new slice that reads as the bytes l; nothing that was there has changed. -/
def Gives (l : List UInt8) (w : World) (e : Ending) (w' : World) : Prop :=
  ∃ v, e = .returned v ∧ w'.ownsRow w.heap.size 5 1 v l.length (bvs l) ∧ Below w.heap.size w w'

set_option maxHeartbeats 400000 in
theorem int_any (n : Int) (w : World) (h1 : -9223372036854775808 ≤ n) (h2 : n ≤ 9223372036854775807) : Calls Tryd.prog 15 #[.int .i64 n] w (Gives (encInt n) w) := by
  go_enter Tryd.func15, Tryd.ntmps15
  go_wp2_with fail
  refine (appendInt_any w.heap.size (.slice none 0 0) 0 [] n _ h1 h2 (World.ownsRow_nil _ _ _ _) (Nat.le_refl _) (by omega)).mono ?_
  rintro e w' ⟨v', rfl, hown, hbel⟩
  go_wp2_with fail
  go_ret
  exact ⟨v', rfl, by simpa using hown, hbel⟩

/-! ## The reference's Int -/
set_option maxHeartbeats 400000 in
theorem refZigzag_any (n : Int) (w : World) (h1 : -9223372036854775808 ≤ n) (h2 : n ≤ 9223372036854775807) :
    Calls Tryd.prog 38 #[.int .i64 n] w fun e w' => e = .returned (.int .u64 (zz n : Nat)) ∧ w = w' := by
  by_cases h : 0 ≤ n
  · have HZ : Hid (((zz n : Nat) : Int) = 2 * n) := by show ((zz n : Nat) : Int) = 2 * n; unfold zz; rw [if_pos h]; omega
    go_enter Tryd.func38, Tryd.ntmps38
    go_wp2
    go_ret
    exact ⟨by rw [HZ.out]; rfl, rfl⟩
  · have HZ : Hid (((zz n : Nat) : Int) = 2 * -(n + 1) + 1) := by show ((zz n : Nat) : Int) = 2 * -(n + 1) + 1; unfold zz; rw [if_neg h]; omega
    go_enter Tryd.func38, Tryd.ntmps38
    go_wp2
    go_ret
    exact ⟨by rw [HZ.out]; rfl, rfl⟩

theorem rcell_last (u : Nat) (h : u < 128) : Value.int IntKind.u8 (u : Int) = bv (UInt8.ofNat u) := by
  unfold bv
  congr 1
  simp
  omega
theorem rcell_more (u : Nat) : Value.int IntKind.u8 (128 + (u : Int) % 128) = bv (UInt8.ofNat (u % 128 + 128)) := by
  unfold bv
  congr 1
  simp
  omega

set_option maxRecDepth 100000 in
set_option maxHeartbeats 400000 in
theorem refInt_any (n : Int) (w : World) (h1 : -9223372036854775808 ≤ n) (h2 : n ≤ 9223372036854775807) : Calls Tryd.prog 29 #[.int .i64 n] w (Gives (encInt n) w) := by
  obtain ⟨i0, hi0, hz0, hz1, hz2⟩ := info_parts info_u8
  have hz64 := zz_lt n h1 h2
  have h10 := leb_le10 (zz n) hz64
  go_enter Tryd.func29, Tryd.ntmps29
  go_wp2_with fail
  refine (refZigzag_any n _ h1 h2).mono ?_
  rintro e w' ⟨rfl, rfl⟩
  go_wp2_with fail
  go_loopg [4, 3] (zz n) (fun g v' u wr => ∃ (u' : Nat) (done : List UInt8), u' ≤ g ∧ g ≤ 18446744073709551615 ∧ done.length + (leb u').length ≤ 10 ∧ u = .int .u64 u' ∧ Hid (done ++ leb u' = encInt n) ∧ wr.ownsRow w.heap.size 5 1 v' done.length (bvs done) ∧ Below w.heap.size w wr)
  case atStart => exact ⟨zz n, [], Nat.le_refl _, by omega, by simpa using h10, rfl, rfl, World.ownsRow_nil _ _ _ _, Below.refl _ _⟩
  case round =>
    obtain ⟨u, done, hug, hg64, hlen, rfl, hdone, hown1, hbel⟩ := hrel
    by_cases hu : u < 128
    · go_wp2_with (at_builtin; refine wpList_append_src _ rfl (.tmp 18) (.tmp 21) _ _ rfl w.heap.size 5 i0 _ 1 1 Tryd.underlying34 hi0 hz0 hz1 hz2 rfl _ _ _ rfl (hown1.alloc _) 1 _ (Src.box Tryd.underlying34 _ _ _ rfl _) (by unfold maxLen; omega) (by omega) (by have := hbel.size; simp; omega) ?_; intro v2 w2 hown2 hbel2)
      go_ret
      have hd := hdone.out
      rw [leb_small hu] at hd
      refine ⟨_, rfl, ?_, hbel.trans (((Below.refl _ _).alloc hbel.size _).trans hbel2)⟩
      rw [rcell_last u hu] at hown2
      have e1 : bvs (encInt n) = bvs done ++ [bv (UInt8.ofNat u)] := by rw [← hd, bvs_append]; rfl
      have e2 : (encInt n).length = done.length + 1 := by rw [← hd, List.length_append]; rfl
      rw [e1, e2]
      exact hown2
    · go_wp2_with (at_builtin; refine wpList_append_src _ rfl (.tmp 9) (.tmp 14) _ _ rfl w.heap.size 5 i0 _ 1 1 Tryd.underlying34 hi0 hz0 hz1 hz2 rfl _ _ _ rfl (hown1.alloc _) 1 _ (Src.box Tryd.underlying34 _ _ _ rfl _) (by unfold maxLen; omega) (by omega) (by have := hbel.size; simp; omega) ?_; intro v2 w2 hown2 hbel2)
      go_roundg (gk / 128)
      case measure => omega
      case rel =>
        have hd := hdone.out
        rw [leb_more hu] at hd hlen
        rw [rcell_more u] at hown2
        refine ⟨u / 128, done ++ [UInt8.ofNat (u % 128 + 128)], by omega, by omega, by simp at hlen ⊢; omega, by go_num, ?_, ?_, hbel.trans (((Below.refl _ _).alloc hbel.size _).trans hbel2)⟩
        · show _ = _
          rw [← hd]; simp
        · rw [bvs_append, List.length_append]
          exact hown2

/-! ## Bytes -/
def encBytes (s : List UInt8) : List UInt8 := encInt s.length ++ s
set_option maxHeartbeats 400000 in
theorem bytes_any (s : ByteArray) (w : World) (hs : s.size ≤ 100000000000) : Calls Tryd.prog 16 #[.string s] w (Gives (encBytes s.data.toList) w) := by
  obtain ⟨i0, hi0, hz0, hz1, hz2⟩ := info_parts info_u8
  have hl : (encInt (s.size : Int)).length ≤ 10 := leb_le10 _ (zz_lt _ (by omega) (by omega))
  have hsz : s.data.toList.length = s.size := by simp
  go_enter Tryd.func16, Tryd.ntmps16
  go_wp2_with fail
  refine (int_any (s.size : Int) _ (by omega) (by omega)).mono ?_
  rintro e w' ⟨v, rfl, hown, hbel⟩
  go_wp2_with (at_builtin; refine wpList_append_src _ rfl (.tmp 5) (.tmp 6) _ _ rfl w.heap.size 5 i0 _ 1 1 Tryd.underlying34 hi0 hz0 hz1 hz2 rfl _ _ _ rfl hown s.size _ (Src.ofString _ Tryd.underlying9 s) (by unfold maxLen; omega) (by omega) hbel.size ?_; intro v2 w2 hown2 hbel2)
  go_ret
  refine ⟨v2, rfl, ?_, hbel.trans hbel2⟩
  rw [byteCells_bvs, ← bvs_append] at hown2
  have e : (encBytes s.data.toList).length = (encInt (s.size : Int)).length + s.size := by unfold encBytes; rw [List.length_append, hsz]
  rw [e]
  unfold encBytes
  rw [hsz]
  exact hown2

end Go.Proofs.YtdgflobdnkopbaaDoor

/-
  What the reference's Bytes returns: a contract by a walk.
-/
namespace Go.Proofs.YtdgflobdnkopbaaDoor
open Go.RowKit

set_option maxRecDepth 100000 in
set_option maxHeartbeats 1000000 in
theorem refBytes_any (s : ByteArray) (w : World) (hs : s.size ≤ 100000000000) : Calls Tryd.prog 30 #[.string s] w (Gives (encBytes s.data.toList) w) := by
  obtain ⟨i0, hi0, hz0, hz1, hz2⟩ := info_parts info_u8
  have hl : (encInt (s.size : Int)).length ≤ 10 := leb_le10 _ (zz_lt _ (by omega) (by omega))
  have hsz : s.data.toList.length = s.size := by simp
  have HSZ := Lib.hid hsz
  clear hsz
  go_enter Tryd.func30, Tryd.ntmps30
  go_wp2_with fail
  refine (refInt_any (s.size : Int) _ (by omega) (by omega)).mono ?_
  rintro e w1 ⟨v, rfl, hown, hbel⟩
  obtain ⟨A, c, w2, hrun, hc, hr2, hbel2⟩ : ∃ A c w2, (∀ (ρ : Operand → Value) (o : Oper), o.op = .convert 9 34 (.tmp 6) → ρ (.tmp 6) = .string s → (execOp ρ o).run Tryd.prog w1 = .ok (.value (.slice A s.size c)) w2) ∧ s.size ≤ c ∧ Reads w2 w2.heap.size 1 A s.size (bvs s.data.toList) ∧ Below w1.heap.size w1 w2 := by
    obtain ⟨A, c, w2, h1, h2, h3, h4⟩ := exec_bytes_of (P := Tryd.prog) (ρ := fun _ => .string s) (o := ⟨none, .convert 9 34 (.tmp 6), 0, "", #[], none⟩) w1 _ _ _ _ rfl Tryd.underlying9 Tryd.underlying5 Tryd.underlying34 (s := s) rfl
    refine ⟨A, c, w2, fun ρ o ho hx => ?_, h2, h3, h4⟩
    unfold execOp at h1 ⊢
    simp only [ho, hx]
    exact h1
  have HRUN := Lib.hid hrun
  clear hrun
  have hb2 : Below w.heap.size w w2 := hbel.trans (hbel2.mono hbel.size)
  have hown2 := own_below hown hbel2
  go_wp2_with (first
    | (refine wpList_valueW (o := ⟨some 7, _, _, _, _, _⟩) rfl _ (by exact HRUN.out _ _ rfl rfl) ?_)
    | (at_builtin; refine wpList_append_src _ rfl (.tmp 5) (.tmp 7) _ _ rfl w.heap.size 5 i0 _ 1 1 Tryd.underlying34 hi0 hz0 hz1 hz2 rfl _ _ _ rfl hown2 s.size _ (Src.ofReads _ Tryd.underlying34 hr2 (bvs_one _)) (by unfold maxLen; omega) (by omega) hb2.size ?_; intro v2 w3 hown3 hbel3))
  go_ret
  refine ⟨v2, rfl, ?_, hb2.trans hbel3⟩
  rw [← bvs_append] at hown3
  have e : (encBytes s.data.toList).length = (encInt (s.size : Int)).length + s.size := by unfold encBytes; rw [List.length_append, HSZ.out]
  rw [e]
  unfold encBytes
  rw [HSZ.out]
  exact hown3

end Go.Proofs.YtdgflobdnkopbaaDoor

/-
  A part of a slice of bytes reads as that part of its list. Over any program. No condition.
-/
namespace Go.Proofs.YtdgflobdnkopbaaDoor
open Go.RowKit

theorem Reads.bytes_len {w : World} {B n : Nat} {A : Option Addr} {l : List UInt8} (h : Reads w B 1 A n (bvs l)) : l.length = n := by
  have := h.1; rw [bvs_length] at this; omega
theorem Reads.sub {w : World} {B n c u m : Nat} {A : Option Addr} {l : List UInt8} (h : Reads w B 1 A n (bvs l)) (hu : u + m ≤ n) (hc : n ≤ c) :
    Reads w B 1 (if c = u then A else A.map (·.add (u * 1))) m (bvs ((l.drop u).take m)) := by
  have h1 := (h.cut (k := u) (cap := c) (by omega) hc).take (k := m) (by omega)
  have e : bvs ((l.drop u).take m) = ((bvs l).drop (u * 1)).take (m * 1) := by unfold bvs; rw [Nat.mul_one, Nat.mul_one, List.map_take, List.map_drop]
  rw [e]
  exact h1
end Go.Proofs.YtdgflobdnkopbaaDoor
