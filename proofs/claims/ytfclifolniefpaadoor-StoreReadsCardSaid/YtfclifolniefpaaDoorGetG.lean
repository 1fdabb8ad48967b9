/-
  Bytes one by one: comparisons, and what the reference's Same returns: a contract by a walk.
-/
import Derived.Test.YtfclifolniefpaaDoorBase
import Derived.Test.YtfclifolniefpaaDoorEncG
namespace Go.Proofs.YtfclifolniefpaaDoor
open Go.RowKit

def I64 (n : Int) : Prop := -9223372036854775808 ≤ n ∧ n ≤ 9223372036854775807
/-- A bool comes back; the world is as it was but for draws. -/
def Tells (b : Bool) (w : World) (e : Ending) (w' : World) : Prop := e = .returned (.bool b) ∧ ∃ m, w' = w.drewN m
/-- Two lists of one length differ at a place, or are one. -/
theorem ne_atB {α : Type} {l k : List α} {i : Nat} {x y : α} (hx : l[i]? = some x) (hy : k[i]? = some y) (h : x ≠ y) : l ≠ k := by
  rintro rfl
  rw [hx] at hy
  injection hy with hy
  exact h hy
theorem take_eq_snoc {α : Type} {l k : List α} {i : Nat} {x y : α} (hx : l[i]? = some x) (hy : k[i]? = some y) (h : l.take i = k.take i) (e : x = y) : l.take (i + 1) = k.take (i + 1) := by
  rw [List.take_add_one, List.take_add_one, h, hx, hy, e]
theorem Reads.byte_at {w : World} {B n : Nat} {A : Option Addr} {l : List UInt8} (h : Reads w B 1 A n (bvs l)) {k : Nat} (hk : k < n) :
    ∃ ad x, A = some ad ∧ ad.block < B ∧ l[k]? = some x ∧ w.cell? (ad.add k) = some (.int .u8 (x.toNat : Int)) := by
  obtain ⟨ad, u, hA, hb, hx, hc⟩ := h.at_ hk
  unfold bvs at hx
  rw [List.getElem?_map, Option.map_eq_some_iff] at hx
  obtain ⟨x, hx, rfl⟩ := hx
  exact ⟨ad, x, hA, hb, hx, hc⟩
end Go.Proofs.YtfclifolniefpaaDoor

/-
  What wire.GetInt, getLength, GetBytes return: contracts by walks.
-/
namespace Go.Proofs.YtfclifolniefpaaDoor
open Go.RowKit

/-- P1.2, byte by byte: place i, the number u of what was read. -/
def getIntGo : Nat → Nat → List UInt8 → Int × Nat × Int
  | _, _, [] => (0, 0, 6)
  | i, u, c :: t =>
    if i = 9 ∧ 1 < c.toNat then (0, 0, 7)
    else if 128 ≤ c.toNat then getIntGo (i + 1) (u + c.toNat % 128 * 2 ^ (7 * i)) t
    else if c.toNat = 0 ∧ 0 < i then (0, 0, 7)
    else (unzz (u + c.toNat % 128 * 2 ^ (7 * i)), i + 1, 0)
def getInt (l : List UInt8) : Int × Nat × Int := getIntGo 0 0 l

/-- Three integers come back; the world is as it was. -/
def Rets (r : Int × Nat × Int) (w : World) (e : Ending) (w' : World) : Prop := e = .returned (.tuple #[.int .i64 r.1, .int .i64 (r.2.1 : Int), .int .i64 r.2.2]) ∧ w = w'

theorem unzz_even (u : Nat) (h : u % 2 = 0) : unzz u = (u : Int) / 2 := by unfold unzz; rw [if_pos h]; omega
theorem unzz_odd (u : Nat) (h : ¬ u % 2 = 0) : unzz u = -((u : Int) / 2) - 1 := by unfold unzz; rw [if_neg h]; omega

set_option maxRecDepth 100000 in
set_option maxHeartbeats 400000 in
theorem unzigzag_any (u : Nat) (w : World) (h : u < 18446744073709551616) : Calls Tryd.prog 76 #[.int .u64 (u : Int)] w fun e w' => e = .returned (.int .i64 (unzz u)) ∧ w = w' := by
  have hb := u64_and1 u h
  have hn := i64_not_any ((u : Int) / 2) (by omega) (by omega)
  by_cases h2 : u % 2 = 0
  · have ht : (bits BinOp.and IntKind.u64 (u : Int) 1 == 0) = true := by rw [hb]; simp; omega
    have HU := Lib.hid (unzz_even u h2)
    clear hb hn
    go_enter Tryd.func76, Tryd.ntmps76
    go_wp2
    go_ret
    exact ⟨by rw [HU.out]; rfl, rfl⟩
  · have ht : (bits BinOp.and IntKind.u64 (u : Int) 1 == 0) = false := by rw [hb]; simp; omega
    have HU := Lib.hid (unzz_odd u h2)
    have HN := Lib.hid hn
    clear hb hn
    go_enter Tryd.func76, Tryd.ntmps76
    go_wp2
    go_ret
    exact ⟨by rw [HU.out, ← HN.out]; rfl, rfl⟩

/-- One group more. -/
theorem group_or (x b j : Nat) (hx : x < 2 ^ (7 * j)) (hb : b < 256) (hj : j ≤ 8 ∨ j = 9 ∧ b ≤ 1) :
    x + b % 128 * 2 ^ (7 * j) < 2 ^ (7 * (j + 1)) ∧ x + b % 128 * 2 ^ (7 * j) < 18446744073709551616 ∧
      bits .or .u64 (x : Int) (IntKind.u64.wrap (IntKind.u64.wrap (bits .and .u8 (b : Int) 127) * 2 ^ (7 * j))) = ((x + b % 128 * 2 ^ (7 * j) : Nat) : Int) := by
  have hm : b % 128 < 128 := by omega
  have hp : 2 ^ (7 * (j + 1)) = 128 * 2 ^ (7 * j) := by rw [show 7 * (j + 1) = 7 + 7 * j from by omega, Nat.pow_add]
  have h1 : b % 128 * 2 ^ (7 * j) ≤ 127 * 2 ^ (7 * j) := Nat.mul_le_mul_right _ (by omega)
  have h64 : x + b % 128 * 2 ^ (7 * j) < 18446744073709551616 := by
    rcases hj with hj | ⟨rfl, hb1⟩
    · have h2 : 2 ^ (7 * j) ≤ 2 ^ 56 := Nat.pow_le_pow_right (by decide) (by omega)
      omega
    · have h2 : b % 128 * 2 ^ (7 * 9) ≤ 1 * 2 ^ (7 * 9) := Nat.mul_le_mul_right _ (by omega)
      omega
  refine ⟨by omega, h64, ?_⟩
  have e2 : ((b % 128 : Nat) : Int) * 2 ^ (7 * j) = ((b % 128 * 2 ^ (7 * j) : Nat) : Int) := by push_cast; rfl
  rw [u8_and127 b hb, IntWalk.u64_in ((b % 128 : Nat) : Int) (by omega), e2, IntWalk.u64_in _ (by omega), u64_or_comm]
  have h := u64_or_join (b % 128 * 2 ^ (7 * j)) x (7 * j) (Nat.mul_mod_left _ _) hx (by omega)
  rw [h, Nat.add_comm]

theorem drop_cons {α : Type} {l : List α} {j : Nat} {b : α} (h : l[j]? = some b) : l.drop j = b :: l.drop (j + 1) := by
  rw [List.getElem?_eq_some_iff] at h
  obtain ⟨h1, h2⟩ := h
  rw [← h2]; exact List.drop_eq_getElem_cons h1

set_option maxRecDepth 100000 in
set_option maxHeartbeats 4000000 in
theorem getInt_any (A : Option Addr) (c : Nat) (l : List UInt8) (n : Nat) (w : World) (C : Nat) (hl : Reads w C 1 A n (bvs l)) (hn : n ≤ 1000000000000) :
    Calls Tryd.prog 65 #[.slice A n c] w (Rets (getInt l) w) := by
  have HL := Lib.hid hl.bytes_len
  go_enter Tryd.func65, Tryd.ntmps65
  go_wp2_with fail
  go_loopg [5, 10] n (fun g u i wr => ∃ (j x : Nat), Hid (j + g = n) ∧ j ≤ n ∧ j ≤ 9 ∧ Hid (x < 2 ^ (7 * j)) ∧ i = .int .i64 j ∧ u = .int .u64 x ∧ w = wr ∧ Hid (getInt l = getIntGo j x (l.drop j)))
  case atStart => exact ⟨0, 0, by show _ = _; omega, by omega, by omega, by show _ < _; omega, rfl, rfl, rfl, rfl⟩
  case round =>
    obtain ⟨j, x, HJ, hj, hj9, HX, rfl, rfl, rfl, HG⟩ := hrel
    by_cases hlt : j < n
    · obtain ⟨ad, b, rfl, _, hb, hcb⟩ := hl.byte_at hlt
      have hbb : b.toNat < 256 := UInt8.toNat_lt b
      have HD := Lib.hid (drop_cons hb)
      clear hb
      by_cases h9 : j = 9 ∧ 1 < b.toNat
      · have HE : Hid (getInt l = (0, 0, 7)) := by show _ = _; rw [HG.out, HD.out]; unfold getIntGo; rw [if_pos h9]
        have t1 : 9 ≤ j := by omega
        have t2 : (1 : Int) < (b.toNat : Int) := by omega
        clear h9
        go_wp2_with fail
        go_ret3
        exact ⟨by rw [HE.out]; rfl, rfl⟩
      · obtain ⟨g1, g2, g3⟩ := group_or x b.toNat j HX.out hbb (by omega)
        obtain ⟨y, hy⟩ : ∃ y : Nat, y = x + b.toNat % 128 * 2 ^ (7 * j) := ⟨_, rfl⟩
        rw [← hy] at g1 g2 g3
        have HY := Lib.hid hy
        have G1 := Lib.hid g1
        have G2 := Lib.hid g2
        clear hy g1 g2
        by_cases hc : 128 ≤ b.toNat
        · have hj8 : j ≤ 8 := by omega
          have HE : Hid (getInt l = getIntGo (j + 1) y (l.drop (j + 1))) := by show _ = _; rw [HG.out, HD.out, getIntGo, if_neg h9, if_pos hc, HY.out]
          clear h9
          go_wp2_with fail
          go_roundg (gk - 1)
          case measure => have := HJ.out; omega
          case rel => exact ⟨j + 1, y, by have := HJ.out; show _ = _; omega, by omega, by omega, G1, by go_num, rfl, rfl, HE⟩
        · by_cases h0 : b.toNat = 0 ∧ 0 < j
          · have HE : Hid (getInt l = (0, 0, 7)) := by show _ = _; rw [HG.out, HD.out, getIntGo, if_neg h9, if_neg hc, if_pos h0]
            have t1 : b.toNat ≤ 0 := by omega
            have t2 : 0 < j := by omega
            clear h9 h0
            by_cases t3 : 9 ≤ j
            · have t5 : ((j : Int) == 9) = true := by simp; omega
              go_wp2_with fail
              go_ret3
              exact ⟨by rw [HE.out]; rfl, rfl⟩
            · have t5 : ((j : Int) == 9) = false := by simp; omega
              go_wp2_with fail
              go_ret3
              exact ⟨by rw [HE.out]; rfl, rfl⟩
          · have HE : Hid (getInt l = (unzz y, j + 1, 0)) := by show _ = _; rw [HG.out, HD.out, getIntGo, if_neg h9, if_neg hc, if_neg h0, HY.out]
            have t0 : j ≤ 8 ∨ b.toNat ≤ 1 := by omega
            have T0 := Lib.hid t0
            have H0 := Lib.hid h0
            clear h9 h0 t0
            by_cases t1 : b.toNat ≤ 0
            · have t2 : j ≤ 0 := by have := H0.out; omega
              go_wp2_with fail
              refine (unzigzag_any y _ G2.out).mono ?_
              rintro e w1 ⟨rfl, rfl⟩
              go_wp2_with fail
              go_ret3
              exact ⟨by rw [HE.out]; rfl, rfl⟩
            · by_cases t3 : 9 ≤ j
              · have t4 : b.toNat ≤ 1 := by have := T0.out; omega
                have t5 : ((j : Int) == 9) = true := by simp; omega
                go_wp2_with fail
                refine (unzigzag_any y _ G2.out).mono ?_
                rintro e w1 ⟨rfl, rfl⟩
                go_wp2_with fail
                go_ret3
                exact ⟨by rw [HE.out]; rfl, rfl⟩
              · go_wp2_with fail
                refine (unzigzag_any y _ G2.out).mono ?_
                rintro e w1 ⟨rfl, rfl⟩
                go_wp2_with fail
                go_ret3
                exact ⟨by rw [HE.out]; rfl, rfl⟩
    · have hjn : n ≤ j := by omega
      have HE : Hid (getInt l = (0, 0, 6)) := by show _ = _; rw [HG.out, List.drop_of_length_le (by rw [HL.out]; omega)]; rfl
      go_wp2_with fail
      go_ret3
      exact ⟨by rw [HE.out]; rfl, rfl⟩
end Go.Proofs.YtfclifolniefpaaDoor

/-
  What wire.getLength and GetBytes return: contracts by walks.
-/
namespace Go.Proofs.YtfclifolniefpaaDoor
open Go.RowKit

/-- What a decoded integer is known to satisfy. -/
theorem getIntGo_ok (t : List UInt8) : ∀ (i u : Nat), i ≤ 9 → u < 2 ^ (7 * i) →
    ((getIntGo i u t).2.2 = 0 ∧ I64 (getIntGo i u t).1 ∧ i < (getIntGo i u t).2.1 ∧ (getIntGo i u t).2.1 ≤ i + t.length ∧ (getIntGo i u t).2.1 ≤ 10) ∨
    (getIntGo i u t = (0, 0, 6)) ∨ getIntGo i u t = (0, 0, 7) := by
  induction t with
  | nil => intro i u _ _; exact .inr (.inl rfl)
  | cons c t ih =>
    intro i u hi hu
    have hc := UInt8.toNat_lt c
    unfold getIntGo
    by_cases h9 : i = 9 ∧ 1 < c.toNat
    · rw [if_pos h9]; exact .inr (.inr rfl)
    · obtain ⟨g1, g2, _⟩ := group_or u c.toNat i hu hc (by omega)
      rw [if_neg h9]
      by_cases hm : 128 ≤ c.toNat
      · rw [if_pos hm]
        rcases ih (i + 1) _ (by omega) g1 with h | h | h
        · exact .inl ⟨h.1, h.2.1, by omega, by have := h.2.2.2.1; rw [List.length_cons]; omega, h.2.2.2.2⟩
        · exact .inr (.inl h)
        · exact .inr (.inr h)
      · rw [if_neg hm]
        by_cases h0 : c.toNat = 0 ∧ 0 < i
        · rw [if_pos h0]; exact .inr (.inr rfl)
        · rw [if_neg h0]
          exact .inl ⟨rfl, unzz_bd _ g2, Nat.lt_succ_self i, by rw [List.length_cons]; show i + 1 ≤ i + (t.length + 1); omega, by show i + 1 ≤ 10; omega⟩
theorem getInt_ok (l : List UInt8) : ((getInt l).2.2 = 0 ∧ I64 (getInt l).1 ∧ 0 < (getInt l).2.1 ∧ (getInt l).2.1 ≤ l.length ∧ (getInt l).2.1 ≤ 10) ∨ (getInt l = (0, 0, 6)) ∨ getInt l = (0, 0, 7) := by
  have h := getIntGo_ok l 0 0 (by omega) (by omega)
  simpa [getInt] using h

/-- A length, of elements of at least z bytes. -/
def getLen (l : List UInt8) (z : Nat) : Int × Nat × Int :=
  if (getInt l).2.2 ≠ 0 then (0, 0, (getInt l).2.2)
  else if (getInt l).1 < 0 then (0, 0, 7)
  else if ((l.length - (getInt l).2.1) / z : Nat) < (getInt l).1 then (0, 0, 6)
  else getInt l
theorem getLen_ok (l : List UInt8) (z : Nat) (hz : 0 < z) : ((getLen l z).2.2 = 0 ∧ 0 ≤ (getLen l z).1 ∧ 0 < (getLen l z).2.1 ∧ (getLen l z).2.1 ≤ 10 ∧ (getLen l z).2.1 + (getLen l z).1.toNat * z ≤ l.length) ∨
    (getLen l z = (0, 0, 6)) ∨ getLen l z = (0, 0, 7) := by
  unfold getLen
  rcases getInt_ok l with h | h | h
  · rw [if_neg (by simp [h.1])]
    by_cases h1 : (getInt l).1 < 0
    · rw [if_pos h1]; exact .inr (.inr rfl)
    · rw [if_neg h1]
      by_cases h2 : ((l.length - (getInt l).2.1) / z : Nat) < (getInt l).1
      · rw [if_pos h2]; exact .inr (.inl rfl)
      · rw [if_neg h2]
        refine .inl ⟨h.1, by omega, h.2.2.1, h.2.2.2.2, ?_⟩
        have h3 : (getInt l).1.toNat ≤ (l.length - (getInt l).2.1) / z := by omega
        have h4 := (Nat.le_div_iff_mul_le hz).1 h3
        have := h.2.2.2.1
        omega
  · rw [h]; exact .inr (.inl rfl)
  · rw [h]; exact .inr (.inr rfl)

set_option maxRecDepth 100000 in
set_option maxHeartbeats 1000000 in
theorem getLen_any (A : Option Addr) (c : Nat) (l : List UInt8) (n z : Nat) (w : World) (C : Nat) (hl : Reads w C 1 A n (bvs l)) (hn : n ≤ 1000000000000) (hz : 0 < z) (hz2 : z ≤ 1000) :
    Calls Tryd.prog 77 #[.slice A n c, .int .i64 (z : Int)] w (Rets (getLen l z) w) := by
  have HL := Lib.hid hl.bytes_len
  have hok := getInt_ok l
  obtain ⟨m, u, e, hr⟩ : ∃ m u e, getInt l = (m, u, e) := ⟨_, _, _, rfl⟩
  rw [hr] at hok
  have HR := Lib.hid hr
  have hcon := getInt_any A c l n w C hl hn
  rw [hr] at hcon
  unfold Rets at hcon
  have HC := Lib.hid hcon
  clear hr hcon
  rcases hok with ⟨he, hm, hu0, hul, hu10⟩ | he | he
  · simp only at he hm hu0 hul hu10
    subst he
    rw [HL.out] at hul
    obtain ⟨hm1, hm2⟩ := hm
    by_cases h1 : m < 0
    · have HE : Hid (getLen l z = (0, 0, 7)) := by show _ = _; unfold getLen; rw [HR.out]; simp [h1]
      go_enter Tryd.func77, Tryd.ntmps77
      go_wp2_with fail
      refine HC.out.mono ?_
      rintro e w1 ⟨rfl, rfl⟩
      go_wp2_with fail
      go_ret3
      exact ⟨by rw [HE.out]; rfl, rfl⟩
    · obtain ⟨q, hq⟩ : ∃ q : Nat, q = (n - u) / z := ⟨_, rfl⟩
      have hq1 : ((n : Int) - (u : Int)) / (z : Int) = (q : Int) := by rw [hq]; rw [← Int.ofNat_sub hul]; rfl
      have hqn : q ≤ n := by rw [hq]; exact Nat.le_trans (Nat.div_le_self _ _) (Nat.sub_le _ _)
      have HQ := Lib.hid hq
      clear hq
      by_cases h2 : (q : Int) < m
      · have HE : Hid (getLen l z = (0, 0, 6)) := by
          show _ = _
          unfold getLen
          rw [HR.out, HL.out, ← HQ.out]
          rw [if_neg (by simp), if_neg h1, if_pos h2]
        go_enter Tryd.func77, Tryd.ntmps77
        go_wp2_with fail
        refine HC.out.mono ?_
        rintro e w1 ⟨rfl, rfl⟩
        go_wp2_with fail
        go_ret3
        exact ⟨by rw [HE.out]; rfl, rfl⟩
      · have HE : Hid (getLen l z = (m, u, 0)) := by
          show _ = _
          unfold getLen
          rw [HR.out, HL.out, ← HQ.out]
          rw [if_neg (by simp), if_neg h1, if_neg h2]
        go_enter Tryd.func77, Tryd.ntmps77
        go_wp2_with fail
        refine HC.out.mono ?_
        rintro e w1 ⟨rfl, rfl⟩
        go_wp2_with fail
        go_ret3
        exact ⟨by rw [HE.out]; rfl, rfl⟩
  all_goals
    injection he with h1 h2
    injection h2 with h2 h3
    subst h1 h2 h3
  · have HE : Hid (getLen l z = (0, 0, 6)) := by show _ = _; unfold getLen; rw [HR.out]; rfl
    go_enter Tryd.func77, Tryd.ntmps77
    go_wp2_with fail
    refine HC.out.mono ?_
    rintro e w1 ⟨rfl, rfl⟩
    go_wp2_with fail
    go_ret3
    exact ⟨by rw [HE.out]; rfl, rfl⟩
  · have HE : Hid (getLen l z = (0, 0, 7)) := by show _ = _; unfold getLen; rw [HR.out]; rfl
    go_enter Tryd.func77, Tryd.ntmps77
    go_wp2_with fail
    refine HC.out.mono ?_
    rintro e w1 ⟨rfl, rfl⟩
    go_wp2_with fail
    go_ret3
    exact ⟨by rw [HE.out]; rfl, rfl⟩
end Go.Proofs.YtfclifolniefpaaDoor

/-
  What wire.GetBytes returns: a contract by a walk.
-/
namespace Go.Proofs.YtfclifolniefpaaDoor
open Go.RowKit

def getBytes (l : List UInt8) : List UInt8 × Nat × Int :=
  if (getLen l 1).2.2 ≠ 0 then ([], 0, (getLen l 1).2.2) else ((l.drop (getLen l 1).2.1).take (getLen l 1).1.toNat, (getLen l 1).2.1 + (getLen l 1).1.toNat, 0)
/-- A string and two integers come back; the world is as it was. -/
def RetsS (r : List UInt8 × Nat × Int) (w : World) (e : Ending) (w' : World) : Prop := e = .returned (.tuple #[.string ⟨r.1.toArray⟩, .int .i64 (r.2.1 : Int), .int .i64 r.2.2]) ∧ w = w'
set_option maxRecDepth 100000 in
set_option maxHeartbeats 1000000 in
theorem getBytes_any (A : Option Addr) (c : Nat) (l : List UInt8) (n : Nat) (w : World) (C : Nat) (hl : Reads w C 1 A n (bvs l)) (hn : n ≤ 1000000000000) (hc : n ≤ c) :
    Calls Tryd.prog 66 #[.slice A n c] w (RetsS (getBytes l) w) := by
  have HL := Lib.hid hl.bytes_len
  have hok := getLen_ok l 1 (by omega)
  obtain ⟨m, u, e, hr⟩ : ∃ m u e, getLen l 1 = (m, u, e) := ⟨_, _, _, rfl⟩
  rw [hr] at hok
  have HR := Lib.hid hr
  have hcon := getLen_any A c l n 1 w C hl hn (by omega) (by omega)
  rw [hr] at hcon
  unfold Rets at hcon
  have HC := Lib.hid hcon
  clear hr hcon
  rcases hok with ⟨he, hm, hu0, hu10, hum⟩ | he | he
  · simp only at he hm hu0 hu10 hum
    subst he
    rw [HL.out] at hum
    obtain ⟨k, rfl⟩ := Int.eq_ofNat_of_zero_le hm
    rw [Int.toNat_natCast] at hum
    have hsub := hl.sub (u := u) (m := k) (c := c) (by omega) hc
    have HE : Hid (getBytes l = ((l.drop u).take k, u + k, 0)) := by show _ = _; unfold getBytes; rw [HR.out]; rfl
    rw [Nat.mul_one] at hsub
    by_cases hcu : c = u
    · rw [if_pos hcu] at hsub
      subst hcu
      have hsub2 : Reads w C 1 A (c + k - c) (bvs ((l.drop c).take k)) := by rw [Nat.add_sub_cancel_left]; exact hsub
      go_enter Tryd.func66, Tryd.ntmps66
      go_wp2_with fail
      refine HC.out.mono ?_
      rintro e w1 ⟨rfl, rfl⟩
      go_wp2_with (refine wpList_valueW (o := ⟨some 25, _, _, _, _, _⟩) rfl _ (by exact exec_string_of _ _ _ _ _ rfl Tryd.underlying42 Tryd.underlying5 Tryd.underlying9 rfl hsub2) ?_)
      go_ret3
      exact ⟨by rw [HE.out]; rfl, rfl⟩
    · rw [if_neg hcu] at hsub
      have hsub2 : Reads w C 1 (A.map (·.add u)) (u + k - u) (bvs ((l.drop u).take k)) := by rw [Nat.add_sub_cancel_left]; exact hsub
      go_enter Tryd.func66, Tryd.ntmps66
      go_wp2_with fail
      refine HC.out.mono ?_
      rintro e w1 ⟨rfl, rfl⟩
      go_wp2_with (refine wpList_valueW (o := ⟨some 25, _, _, _, _, _⟩) rfl _ (by exact exec_string_of _ _ _ _ _ rfl Tryd.underlying42 Tryd.underlying5 Tryd.underlying9 rfl hsub2) ?_)
      go_ret3
      exact ⟨by rw [HE.out]; rfl, rfl⟩
  · injection he with h1 h2
    injection h2 with h2 h3
    subst h1 h2 h3
    have HE : Hid (getBytes l = ([], 0, 6)) := by show _ = _; unfold getBytes; rw [HR.out]; rfl
    go_enter Tryd.func66, Tryd.ntmps66
    go_wp2_with fail
    refine HC.out.mono ?_
    rintro e w1 ⟨rfl, rfl⟩
    go_wp2_with fail
    go_ret3
    exact ⟨by rw [HE.out]; rfl, rfl⟩
  · injection he with h1 h2
    injection h2 with h2 h3
    subst h1 h2 h3
    have HE : Hid (getBytes l = ([], 0, 7)) := by show _ = _; unfold getBytes; rw [HR.out]; rfl
    go_enter Tryd.func66, Tryd.ntmps66
    go_wp2_with fail
    refine HC.out.mono ?_
    rintro e w1 ⟨rfl, rfl⟩
    go_wp2_with fail
    go_ret3
    exact ⟨by rw [HE.out]; rfl, rfl⟩
end Go.Proofs.YtfclifolniefpaaDoor

/-
  Layer 1's integers: what GetInt finds in a list of bytes, against the groups of seven bits. Numbers and lists alone.
-/
namespace Go.Proofs.YtfclifolniefpaaDoor

/-- The number of a list of groups. -/
def val : List UInt8 → Nat
  | [] => 0
  | c :: t => c.toNat % 128 + 128 * val t
theorem val_leb : ∀ u : Nat, val (leb u) = u := by
  intro u
  induction u using Nat.strongRecOn with
  | _ u ih =>
    by_cases h : u < 128
    · rw [leb_small h]; simp [val]; omega
    · rw [leb_more h, val, ih (u / 128) (by omega)]
      simp
      omega
/-- All bytes but the last announce another one. -/
def Groups (q : List UInt8) (p : List UInt8) (c : UInt8) : Prop := q = p ++ [c] ∧ (∀ x ∈ p, 128 ≤ x.toNat) ∧ c.toNat < 128
theorem leb_groups : ∀ u : Nat, ∃ p c, Groups (leb u) p c ∧ (c.toNat ≠ 0 ∨ p = []) := by
  intro u
  induction u using Nat.strongRecOn with
  | _ u ih =>
    by_cases h : u < 128
    · exact ⟨[], UInt8.ofNat u, ⟨by rw [leb_small h]; rfl, by simp, by simp; omega⟩, .inr rfl⟩
    · obtain ⟨p, c, ⟨h1, h2, h3⟩, h4⟩ := ih (u / 128) (by omega)
      refine ⟨UInt8.ofNat (u % 128 + 128) :: p, c, ⟨by rw [leb_more h, h1]; rfl, ?_, h3⟩, .inl ?_⟩
      · intro x hx
        rcases List.mem_cons.1 hx with rfl | hx
        · simp; omega
        · exact h2 x hx
      · rcases h4 with h4 | rfl
        · exact h4
        · have hv := val_leb (u / 128)
          rw [h1] at hv
          simp [val] at hv
          omega
theorem val_pos (c : UInt8) (h0 : c.toNat ≠ 0) (hc : c.toNat < 128) : ∀ p : List UInt8, 0 < val (p ++ [c])
  | [] => by simp [val]; omega
  | y :: p => by have := val_pos c h0 hc p; rw [List.cons_append, val]; omega
theorem leb_val (p : List UInt8) (c : UInt8) (hp : ∀ x ∈ p, 128 ≤ x.toNat) (hc : c.toNat < 128) (h0 : c.toNat ≠ 0 ∨ p = []) : leb (val (p ++ [c])) = p ++ [c] := by
  induction p with
  | nil =>
    have : val ([] ++ [c]) = c.toNat := by simp [val]; omega
    rw [this, leb_small hc]
    simp
  | cons x p ih =>
    have hc0 : c.toNat ≠ 0 := by rcases h0 with h | h <;> first | exact h | cases h
    have ih := ih (fun y hy => hp y (by simp [hy])) (.inl hc0)
    have hx := hp x (by simp)
    have hx2 := UInt8.toNat_lt x
    have hpos : 0 < val (p ++ [c]) := val_pos c hc0 hc p
    have e : val (x :: p ++ [c]) = x.toNat % 128 + 128 * val (p ++ [c]) := rfl
    rw [e, leb_more (by omega), show (x.toNat % 128 + 128 * val (p ++ [c])) / 128 = val (p ++ [c]) from by omega, ih]
    congr 1
    apply UInt8.toNat_inj.1
    simp
    omega
theorem val_app (p q : List UInt8) : val (p ++ q) = val p + 128 ^ p.length * val q := by
  induction p with
  | nil => simp [val]
  | cons x p ih =>
    rw [List.cons_append, val, val, ih, List.length_cons, Nat.pow_succ, Nat.mul_add, Nat.mul_comm (128 ^ p.length) 128, Nat.mul_assoc]
    omega
theorem val_lt (p : List UInt8) : val p < 128 ^ p.length := by
  induction p with
  | nil => simp [val]
  | cons x p ih => rw [val, List.length_cons, Nat.pow_succ]; omega

theorem getIntGo_groups (c : UInt8) (rest : List UInt8) (hc : c.toNat < 128) : ∀ (p : List UInt8) (i x : Nat), (∀ y ∈ p, 128 ≤ y.toNat) → i + p.length ≤ 9 →
    getIntGo i x (p ++ c :: rest) = if i + p.length = 9 ∧ 1 < c.toNat then (0, 0, 7) else if c.toNat = 0 ∧ 0 < i + p.length then (0, 0, 7) else (unzz (x + 2 ^ (7 * i) * val (p ++ [c])), i + p.length + 1, 0) := by
  intro p
  induction p with
  | nil =>
    intro i x _ _
    rw [List.nil_append, getIntGo, List.length_nil, Nat.add_zero]
    rw [if_neg (show ¬ 128 ≤ c.toNat by omega)]
    have : val ([] ++ [c]) = c.toNat % 128 := by simp [val]
    rw [this, Nat.mul_comm (2 ^ (7 * i))]
    simp only [Nat.add_zero]
  | cons y p ih =>
    intro i x hp hi
    have hy := hp y (by simp)
    rw [List.length_cons] at hi
    rw [List.cons_append, getIntGo, if_neg (by omega), if_pos hy, ih (i + 1) _ (fun z hz => hp z (by simp [hz])) (by omega), List.length_cons]
    have e1 : i + 1 + p.length = i + (p.length + 1) := by omega
    have e2 : x + y.toNat % 128 * 2 ^ (7 * i) + 2 ^ (7 * (i + 1)) * val (p ++ [c]) = x + 2 ^ (7 * i) * val (y :: p ++ [c]) := by
      have e3 : val (y :: p ++ [c]) = y.toNat % 128 + 128 * val (p ++ [c]) := rfl
      rw [e3, show 7 * (i + 1) = 7 * i + 7 from by omega, Nat.pow_add, Nat.mul_add, Nat.mul_comm (y.toNat % 128), Nat.mul_assoc, show (2 : Nat) ^ 7 = 128 from rfl]
      omega
    rw [e1, e2]
theorem getIntGo_more : ∀ (p : List UInt8) (i x : Nat), (∀ y ∈ p, 128 ≤ y.toNat) → i + p.length ≤ 9 → getIntGo i x p = (0, 0, 6) := by
  intro p
  induction p with
  | nil => intro i x _ _; rfl
  | cons y p ih =>
    intro i x hp hi
    rw [List.length_cons] at hi
    rw [getIntGo, if_neg (by omega), if_pos (hp y (by simp)), ih _ _ (fun z hz => hp z (by simp [hz])) (by omega)]
theorem getIntGo_ten : ∀ (p : List UInt8) (i x : Nat) (rest : List UInt8), (∀ y ∈ p, 128 ≤ y.toNat) → i + p.length = 10 → i ≤ 9 → getIntGo i x (p ++ rest) = (0, 0, 7) := by
  intro p
  induction p with
  | nil => intro i x _ _ h1 h2; simp at h1; omega
  | cons y p ih =>
    intro i x rest hp hi h9
    have hy := hp y (by simp)
    rw [List.length_cons] at hi
    rw [List.cons_append, getIntGo]
    by_cases h : i = 9
    · rw [if_pos ⟨h, by omega⟩]
    · rw [if_neg (by omega), if_pos hy, ih _ _ _ (fun z hz => hp z (by simp [hz])) (by omega) (by omega)]

/-- THE ROUND TRIP: whatever follows. -/
theorem getInt_encInt (n : Int) (h : I64 n) (tail : List UInt8) : getInt (encInt n ++ tail) = (n, (encInt n).length, 0) := by
  obtain ⟨p, c, ⟨h1, h2, h3⟩, h4⟩ := leb_groups (zz n)
  have hz := zz_lt n h.1 h.2
  have hl := leb_le10 (zz n) hz
  have hv := val_leb (zz n)
  rw [h1] at hv hl
  have hlen : p.length ≤ 9 := by simp at hl; omega
  have hg := getIntGo_groups c tail h3 p 0 0 h2 (by omega)
  unfold getInt encInt
  rw [h1, List.append_assoc, List.singleton_append, hg, hv]
  have c1 : ¬ (0 + p.length = 9 ∧ 1 < c.toNat) := by
    rintro ⟨e, hc⟩
    rw [val_app, show p.length = 9 from by omega] at hv
    simp [val] at hv
    omega
  have c2 : ¬ (c.toNat = 0 ∧ 0 < 0 + p.length) := by
    rintro ⟨e, hp⟩
    rcases h4 with h4 | h4
    · exact h4 e
    · rw [h4] at hp; simp at hp
  rw [if_neg c1, if_neg c2]
  simp [unzz_zz]
/-- A PROPER PREFIX. -/
theorem getInt_prefix (n : Int) (h : I64 n) (k : Nat) (hk : k < (encInt n).length) : getInt ((encInt n).take k) = (0, 0, 6) := by
  obtain ⟨p, c, ⟨h1, h2, h3⟩, h4⟩ := leb_groups (zz n)
  have hl := leb_le10 (zz n) (zz_lt n h.1 h.2)
  unfold encInt at hk ⊢
  rw [h1] at hk hl ⊢
  simp at hk hl
  rw [List.take_append_of_le_length (by omega)]
  exact getIntGo_more _ 0 0 (fun y hy => h2 y (List.mem_of_mem_take hy)) (by have := List.length_take_le k p; omega)

/-- The bytes up to the first one below 128, if it is among the first ten. -/
theorem split_first : ∀ (l : List UInt8) (k : Nat), (∃ p c rest, l = p ++ c :: rest ∧ (∀ y ∈ p, 128 ≤ y.toNat) ∧ c.toNat < 128 ∧ p.length < k) ∨ (∀ y ∈ l.take k, 128 ≤ y.toNat) := by
  intro l
  induction l with
  | nil => intro k; right; simp
  | cons x l ih =>
    intro k
    cases k with
    | zero => right; simp
    | succ k =>
      by_cases hx : 128 ≤ x.toNat
      · rcases ih k with ⟨p, c, rest, h1, h2, h3, h4⟩ | h
        · left
          refine ⟨x :: p, c, rest, by rw [h1]; rfl, ?_, h3, by simp; omega⟩
          intro y hy
          rcases List.mem_cons.1 hy with rfl | hy
          · exact hx
          · exact h2 y hy
        · right
          intro y hy
          rw [List.take_succ_cons] at hy
          rcases List.mem_cons.1 hy with rfl | hy
          · exact hx
          · exact h y hy
      · left
        exact ⟨[], x, l, rfl, by simp, by omega, by simp⟩

/-- WHAT GetInt FINDS, in three cases. -/
theorem getInt_cases (l : List UInt8) :
    (∃ p c rest, l = p ++ c :: rest ∧ (∀ y ∈ p, 128 ≤ y.toNat) ∧ c.toNat < 128 ∧ p.length ≤ 9 ∧
      getInt l = if leb (val (p ++ [c]) % 18446744073709551616) = p ++ [c] then (unzz (val (p ++ [c]) % 18446744073709551616), p.length + 1, 0) else (0, 0, 7)) ∨
    ((∀ y ∈ l, 128 ≤ y.toNat) ∧ l.length < 10 ∧ getInt l = (0, 0, 6)) ∨
    ((∀ y ∈ l.take 10, 128 ≤ y.toNat) ∧ 10 ≤ l.length ∧ getInt l = (0, 0, 7)) := by
  rcases split_first l 10 with ⟨p, c, rest, h1, h2, h3, h4⟩ | h
  · left
    refine ⟨p, c, rest, h1, h2, h3, by omega, ?_⟩
    have hg := getIntGo_groups c rest h3 p 0 0 h2 (by omega)
    unfold getInt
    rw [h1, hg]
    have hva : val (p ++ [c]) = val p + 128 ^ p.length * (c.toNat % 128) := by rw [val_app]; simp [val]
    have hvl := val_lt p
    have hp9 : 128 ^ p.length ≤ 128 ^ 9 := Nat.pow_le_pow_right (by decide) (by omega)
    by_cases c1 : 0 + p.length = 9 ∧ 1 < c.toNat
    · rw [if_pos c1]
      rw [if_neg]
      intro he
      have hv := val_leb (val (p ++ [c]) % 18446744073709551616)
      rw [he] at hv
      rw [show p.length = 9 from by omega] at hva
      omega
    · rw [if_neg c1]
      by_cases c2 : c.toNat = 0 ∧ 0 < 0 + p.length
      · rw [if_pos c2, if_neg]
        intro he
        obtain ⟨p2, c3, ⟨g1, g2, g3⟩, g4⟩ := leb_groups (val (p ++ [c]) % 18446744073709551616)
        rw [he] at g1
        have hcc := List.append_inj' g1 rfl
        obtain ⟨e1, e2⟩ := hcc
        injection e2 with e2
        subst e1 e2
        rcases g4 with g4 | g4
        · exact g4 c2.1
        · rw [g4] at c2; simp at c2
      · rw [if_neg c2]
        have hsmall : val (p ++ [c]) < 18446744073709551616 := by
          rw [hva]
          by_cases hp : p.length = 9
          · rw [hp] at hvl ⊢
            have : c.toNat % 128 ≤ 1 := by omega
            omega
          · have hp8 : 128 ^ p.length ≤ 128 ^ 8 := Nat.pow_le_pow_right (by decide) (by omega)
            have h5 : 128 ^ p.length * (c.toNat % 128) ≤ 128 ^ 8 * 127 := Nat.mul_le_mul hp8 (by omega)
            omega
        rw [Nat.mod_eq_of_lt hsmall, leb_val p c h2 h3 (by
          by_cases hc0 : c.toNat = 0
          · right
            have : ¬ 0 < 0 + p.length := fun h => c2 ⟨hc0, h⟩
            exact List.eq_nil_of_length_eq_zero (by omega)
          · exact .inl hc0), if_pos rfl]
        simp
  · right
    rcases Nat.lt_or_ge l.length 10 with hl | hl
    · left
      rw [List.take_of_length_le (by omega)] at h
      exact ⟨h, hl, getIntGo_more l 0 0 h (by omega)⟩
    · right
      refine ⟨h, hl, ?_⟩
      have := getIntGo_ten (l.take 10) 0 0 (l.drop 10) h (by rw [List.length_take]; omega) (by omega)
      rw [List.take_append_drop] at this
      exact this
/-- CANONICAL: what was consumed is the encoding. -/
theorem getInt_canon (l : List UInt8) (m : Int) (u : Nat) (h : getInt l = (m, u, 0)) : encInt m = l.take u := by
  rcases getInt_cases l with ⟨p, c, rest, h1, h2, h3, h4, h5⟩ | ⟨_, _, h5⟩ | ⟨_, _, h5⟩
  · rw [h5] at h
    split at h
    · rename_i he
      injection h with e1 e2
      injection e2 with e2 e3
      subst e1 e2
      unfold encInt
      rw [zz_unzz, he, h1, show p ++ c :: rest = (p ++ [c]) ++ rest from by simp]
      exact (List.take_left' (by simp)).symm
    · injection h with e1 e2
      injection e2 with e2 e3
      cases e3
  · rw [h5] at h
    injection h with e1 e2
    injection e2 with e2 e3
    cases e3
  · rw [h5] at h
    injection h with e1 e2
    injection e2 with e2 e3
    cases e3
end Go.Proofs.YtfclifolniefpaaDoor

/-
  Layer 1's strings: what GetBytes finds in a list of bytes. Numbers and lists alone.
-/
namespace Go.Proofs.YtfclifolniefpaaDoor
open Go.RowKit

theorem getLen_enc (n z : Nat) (hn : (n : Int) ≤ 9223372036854775807) (hz : 0 < z) (t : List UInt8) (h : n * z ≤ t.length) : getLen (encInt (n : Int) ++ t) z = ((n : Int), (encInt (n : Int)).length, 0) := by
  unfold getLen
  rw [getInt_encInt (n : Int) ⟨by omega, hn⟩]
  rw [if_neg (by simp), if_neg (by omega), if_neg]
  rw [List.length_append, Nat.add_sub_cancel_left]
  have := (Nat.le_div_iff_mul_le hz).2 h
  show ¬ ((t.length / z : Nat) : Int) < (n : Int)
  omega
/-- A list that ends too early, behind its length. -/
theorem getLen_short (n z : Nat) (hn : (n : Int) ≤ 9223372036854775807) (hz : 0 < z) (t : List UInt8) (h : t.length < n * z) : getLen (encInt (n : Int) ++ t) z = (0, 0, 6) := by
  unfold getLen
  rw [getInt_encInt (n : Int) ⟨by omega, hn⟩]
  rw [if_neg (by simp), if_neg (by omega), if_pos]
  rw [List.length_append, Nat.add_sub_cancel_left]
  have := (Nat.div_lt_iff_lt_mul hz).2 h
  show ((t.length / z : Nat) : Int) < (n : Int)
  omega
theorem getLen_prefix (n z k : Nat) (hn : (n : Int) ≤ 9223372036854775807) (hk : k < (encInt (n : Int)).length) : getLen ((encInt (n : Int)).take k) z = (0, 0, 6) := by
  unfold getLen
  rw [getInt_prefix (n : Int) ⟨by omega, hn⟩ k hk]
  rfl
theorem getLen_canon (l : List UInt8) (z : Nat) (m : Int) (u : Nat) (h : getLen l z = (m, u, 0)) : getInt l = (m, u, 0) := by
  unfold getLen at h
  split at h
  · rename_i h1; injection h with e1 e2; injection e2 with e2 e3; exact absurd e3 h1
  · split at h
    · injection h with e1 e2; injection e2 with e2 e3; cases e3
    · split at h
      · injection h with e1 e2; injection e2 with e2 e3; cases e3
      · exact h
theorem getBytes_enc (s tail : List UInt8) (h : s.length ≤ 4611686018427387903) : getBytes (encBytes s ++ tail) = (s, (encBytes s).length, 0) := by
  have hl := getLen_enc s.length 1 (by omega) (by omega) (s ++ tail) (by simp)
  unfold getBytes encBytes
  rw [List.append_assoc, hl]
  simp
theorem take_app {α : Type} (a b : List α) (k : Nat) (h : a.length ≤ k) : (a ++ b).take k = a ++ b.take (k - a.length) := by
  rw [List.take_append, List.take_of_length_le h]
theorem getBytes_prefix (s : List UInt8) (h : s.length ≤ 4611686018427387903) (k : Nat) (hk : k < (encBytes s).length) : (getBytes ((encBytes s).take k)).2.2 = 6 := by
  unfold encBytes at hk ⊢
  rcases Nat.lt_or_ge k (encInt (s.length : Int)).length with h1 | h1
  · rw [List.take_append_of_le_length (by omega)]
    unfold getBytes
    rw [getLen_prefix s.length 1 k (by omega) h1]
    rfl
  · rw [take_app _ _ _ h1]
    unfold getBytes
    rw [getLen_short s.length 1 (by omega) (by omega) _ (by rw [List.length_append] at hk; rw [List.length_take]; omega)]
    rfl
theorem take_split {α : Type} (l : List α) (u k : Nat) : l.take u ++ (l.drop u).take k = l.take (u + k) := by
  rw [List.take_add]
theorem getBytes_canon (l : List UInt8) (s : List UInt8) (u : Nat) (h : getBytes l = (s, u, 0)) : encBytes s = l.take u ∧ u ≤ l.length := by
  have hok := getLen_ok l 1 (by omega)
  unfold getBytes at h
  rcases hok with ⟨he, hm, hu0, hu10, hum⟩ | he | he
  · rw [if_neg (by simp [he])] at h
    injection h with e1 e2
    injection e2 with e2 e3
    obtain ⟨m, v, er, hr⟩ : ∃ m v er, getLen l 1 = (m, v, er) := ⟨_, _, _, rfl⟩
    rw [hr] at he hm hum e1 e2
    simp only at he hm hum e1 e2
    subst he
    have hc := getInt_canon l m v (getLen_canon l 1 m v hr)
    subst e1 e2
    have hlen : ((l.drop v).take m.toNat).length = m.toNat := by rw [List.length_take, List.length_drop]; omega
    unfold encBytes
    rw [hlen, Int.toNat_of_nonneg hm, hc, take_split]
    exact ⟨rfl, by omega⟩
  · rw [he] at h
    injection h with e1 e2; injection e2 with e2 e3; cases e3
  · rw [he] at h
    injection h with e1 e2; injection e2 with e2 e3; cases e3
theorem encInt_inj {m n : Int} (hm : I64 m) (hn : I64 n) (h : encInt m = encInt n) : m = n := by
  have h1 := getInt_encInt m hm []
  have h2 := getInt_encInt n hn []
  rw [h, h2] at h1
  injection h1 with h1 _
  exact h1.symm
end Go.Proofs.YtfclifolniefpaaDoor
