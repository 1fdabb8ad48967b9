/-
  Counters in fuses: the programs of layer 11 as trees of accesses, what they answer to a log, and what they do to cells: numbers and lists alone. No condition.
-/
import Derived.Test.YtfcbcclcmgheeaaDvM
set_option linter.unusedSimpArgs false
set_option linter.unusedVariables false
namespace Go.Proofs.Ytfcbcclcmgheeaa

/-! ## Programs as trees -/
inductive RtP where
  | done (n : Nat) (e : Int)
  | rd (c : Nat) (k : Bool → RtP)
  | pu (c : Nat) (k : RtP)
/-- A level and an error. -/
structure RtO where
  n : Int
  e : Int
def maj3 (x y z : Bool) : Bool := (x && y) || ((x && z) || (y && z))
def rtBit (b : Nat) (k : Bool → RtP) : RtP := .rd (3 * b) fun x => .rd (3 * b + 1) fun y => .rd (3 * b + 2) fun z => k (maj3 x y z)
def rtPul (b : Nat) (k : RtP) : RtP := .pu (3 * b) (.pu (3 * b + 1) (.pu (3 * b + 2) k))
def rtRead : Nat → Nat → (Nat → RtP) → RtP
  | b, 0, k => k b
  | b, r + 1, k => rtBit b fun one => if one then rtRead (b + 1) r k else k b
def rtPuls : Nat → Nat → RtP → RtP
  | _, 0, k => k
  | b, r + 1, k => rtPul b (rtPuls (b + 1) r k)
def rtUp : Nat → Nat → (Nat → RtP) → RtP
  | b, 0, k => k b
  | b, r + 1, k => rtPul b (rtBit b fun one => if one then rtUp (b + 1) r k else k b)
def rtLev (bits : Nat) (k : Nat → RtP) : RtP := rtRead 0 bits fun n => rtPuls 0 n (k n)
def rtLevel (bits : Nat) : RtP := rtLev bits fun n => .done n 0
def rtRaise (bits target : Nat) : RtP := rtLev bits fun n => rtUp n (target - n) fun m => .done m (if m < target then 12 else 0)

/-! ## What a program answers to a log -/
def noO : RtO := ⟨0, 0⟩
def acA (bank kind c : Int) : DvA := ⟨kind, bank, c, noB⟩
def noAc : DvA := ⟨0, 0, 0, noB⟩
def rtAns (bank : Int) : RtP → List Int → DvA × RtO × Bool
  | .done n e, _ => (noAc, ⟨n, e⟩, true)
  | .rd c _, [] => (acA bank 1 c, noO, false)
  | .rd _ k, v :: vs => rtAns bank (k (v != 0)) vs
  | .pu c _, [] => (acA bank 2 c, noO, false)
  | .pu _ k, _ :: vs => rtAns bank k vs
/-- What is left of a log, and the access behind its end. -/
structure RtS where
  l : List Int
  a : DvA
def RtS.OK (s : RtS) : Prop := s.a = noAc ∨ (s.a.k ≠ 0 ∧ s.l = [])
def rtFin (bank : Int) (s : RtS) (T : RtP) : DvA × RtO × Bool := if s.a.k = 0 then rtAns bank T s.l else (s.a, noO, false)
/-- One access. -/
def rtAcc (bank : Int) (s : RtS) (kind c : Int) : RtS × Int :=
  match s.l with
  | v :: vs => (⟨vs, s.a⟩, v)
  | [] => (⟨[], if s.a.k = 0 then acA bank kind c else s.a⟩, 0)
def rtAcc3 (bank : Int) (s : RtS) (kind : Int) (b : Nat) : RtS × Int × Int × Int :=
  ((rtAcc bank (rtAcc bank (rtAcc bank s kind (3 * b : Nat)).1 kind (3 * b + 1 : Nat)).1 kind (3 * b + 2 : Nat)).1,
   (rtAcc bank s kind (3 * b : Nat)).2,
   (rtAcc bank (rtAcc bank s kind (3 * b : Nat)).1 kind (3 * b + 1 : Nat)).2,
   (rtAcc bank (rtAcc bank (rtAcc bank s kind (3 * b : Nat)).1 kind (3 * b + 1 : Nat)).1 kind (3 * b + 2 : Nat)).2)
def majI (x y z : Int) : Bool := maj3 (x != 0) (y != 0) (z != 0)
theorem rtFin_stop {bank : Int} {s : RtS} (h : s.a.k ≠ 0) (T T' : RtP) : rtFin bank s T = rtFin bank s T' := by unfold rtFin; rw [if_neg h, if_neg h]
theorem rtAcc_ok {bank kind c : Int} {s : RtS} (h : s.OK) (hk : kind ≠ 0) : (rtAcc bank s kind c).1.OK := by
  obtain ⟨l, a⟩ := s
  rcases h with h | ⟨h, rfl⟩
  · simp only at h
    subst h
    cases l with
    | nil => exact .inr ⟨by show (if (0 : Int) = 0 then acA bank kind c else noAc).k ≠ 0; rw [if_pos rfl]; exact hk, rfl⟩
    | cons v vs => exact .inl rfl
  · simp only at h
    exact .inr ⟨by show (if a.k = 0 then acA bank kind c else a).k ≠ 0; rw [if_neg h]; exact h, rfl⟩
theorem rtAcc3_ok {bank kind : Int} {b : Nat} {s : RtS} (h : s.OK) (hk : kind ≠ 0) : (rtAcc3 bank s kind b).1.OK := rtAcc_ok (rtAcc_ok (rtAcc_ok h hk) hk) hk
theorem rtAcc_stop {bank kind c : Int} {s : RtS} (h : s.OK) (h0 : s.a.k ≠ 0) : rtAcc bank s kind c = (s, 0) := by
  obtain ⟨l, a⟩ := s
  rcases h with h | ⟨h, rfl⟩
  · simp only at h; subst h; exact absurd rfl h0
  · simp only at h
    show (RtS.mk [] (if a.k = 0 then acA bank kind c else a), (0 : Int)) = _
    rw [if_neg h]
theorem rtFin_rd {bank : Int} {s : RtS} (h : s.OK) (c : Nat) (k : Bool → RtP) : rtFin bank s (.rd c k) = rtFin bank (rtAcc bank s 1 c).1 (k ((rtAcc bank s 1 c).2 != 0)) := by
  obtain ⟨l, a⟩ := s
  rcases h with h | ⟨h, rfl⟩
  · simp only at h
    subst h
    cases l with
    | nil => rfl
    | cons v vs => rfl
  · simp only at h
    rw [rtAcc_stop (.inr ⟨h, rfl⟩) h]
    exact rtFin_stop h _ _
theorem rtFin_pu {bank : Int} {s : RtS} (h : s.OK) (c : Nat) (k : RtP) : rtFin bank s (.pu c k) = rtFin bank (rtAcc bank s 2 c).1 k := by
  obtain ⟨l, a⟩ := s
  rcases h with h | ⟨h, rfl⟩
  · simp only at h
    subst h
    cases l with
    | nil => rfl
    | cons v vs => rfl
  · simp only at h
    rw [rtAcc_stop (.inr ⟨h, rfl⟩) h]
    exact rtFin_stop h _ _
def rtMaj (bank : Int) (s : RtS) (b : Nat) : Bool := majI (rtAcc3 bank s 1 b).2.1 (rtAcc3 bank s 1 b).2.2.1 (rtAcc3 bank s 1 b).2.2.2
theorem rtFin_bit {bank : Int} {s : RtS} (h : s.OK) (b : Nat) (k : Bool → RtP) : rtFin bank s (rtBit b k) = rtFin bank (rtAcc3 bank s 1 b).1 (k (rtMaj bank s b)) := by
  unfold rtBit
  rw [rtFin_rd h, rtFin_rd (rtAcc_ok h (by decide)), rtFin_rd (rtAcc_ok (rtAcc_ok h (by decide)) (by decide))]
  rfl
theorem rtFin_pul {bank : Int} {s : RtS} (h : s.OK) (b : Nat) (k : RtP) : rtFin bank s (rtPul b k) = rtFin bank (rtAcc3 bank s 2 b).1 k := by
  unfold rtPul
  rw [rtFin_pu h, rtFin_pu (rtAcc_ok h (by decide)), rtFin_pu (rtAcc_ok (rtAcc_ok h (by decide)) (by decide))]
  rfl

/-! ## The landed code's walk over bits -/
def rtKinds (bank : Int) (b : Nat) : List Int → RtS → RtS × Bool
  | [], s => (s, false)
  | k :: ks, s =>
    if k = 1 ∧ majI (rtAcc3 bank s k b).2.1 (rtAcc3 bank s k b).2.2.1 (rtAcc3 bank s k b).2.2.2 = false then ((rtAcc3 bank s k b).1, true) else rtKinds bank b ks (rtAcc3 bank s k b).1
def rtWalk (bank : Int) (ks : List Int) : Nat → Nat → RtS → RtS × Nat
  | b, 0, s => (s, b)
  | b, r + 1, s => if (rtKinds bank b ks s).2 then ((rtKinds bank b ks s).1, b) else rtWalk bank ks (b + 1) r (rtKinds bank b ks s).1
theorem rtKinds_1 (bank : Int) (b : Nat) (s : RtS) : rtKinds bank b [1] s = ((rtAcc3 bank s 1 b).1, !rtMaj bank s b) := by
  unfold rtKinds rtMaj
  cases h : majI (rtAcc3 bank s 1 b).2.1 (rtAcc3 bank s 1 b).2.2.1 (rtAcc3 bank s 1 b).2.2.2 with
  | true => rw [if_neg (by simp)]; rfl
  | false => rw [if_pos ⟨rfl, rfl⟩]; rfl
theorem rtKinds_2 (bank : Int) (b : Nat) (ks : List Int) (s : RtS) : rtKinds bank b (2 :: ks) s = rtKinds bank b ks (rtAcc3 bank s 2 b).1 := by
  rw [rtKinds, if_neg (by simp)]
theorem rtKinds_ok {bank : Int} {b : Nat} : ∀ {ks : List Int} {s : RtS}, s.OK → (∀ k ∈ ks, k ≠ 0) → (rtKinds bank b ks s).1.OK
  | [], s, h, _ => h
  | k :: ks, s, h, hk => by
    have h1 := rtAcc3_ok (bank := bank) (b := b) h (hk k (List.mem_cons_self ..))
    rw [rtKinds]
    split
    · exact h1
    · exact rtKinds_ok h1 fun q hq => hk q (List.mem_cons_of_mem _ hq)
theorem rtWalk_ok {bank : Int} {ks : List Int} (hk : ∀ k ∈ ks, k ≠ 0) : ∀ {r b : Nat} {s : RtS}, s.OK → (rtWalk bank ks b r s).1.OK
  | 0, b, s, h => h
  | r + 1, b, s, h => by
    rw [rtWalk]
    split
    · exact rtKinds_ok h hk
    · exact rtWalk_ok hk (rtKinds_ok h hk)
theorem rtWalk_le {bank : Int} {ks : List Int} : ∀ {r b : Nat} {s : RtS}, b ≤ (rtWalk bank ks b r s).2 ∧ (rtWalk bank ks b r s).2 ≤ b + r
  | 0, b, s => by simp [rtWalk]
  | r + 1, b, s => by
    rw [rtWalk]
    split
    · simp only; omega
    · have := rtWalk_le (bank := bank) (ks := ks) (r := r) (b := b + 1) (s := (rtKinds bank b ks s).1)
      omega
theorem rtWalk_read {bank : Int} {k : Nat → RtP} : ∀ (r b : Nat) (s : RtS), s.OK → rtFin bank s (rtRead b r k) = rtFin bank (rtWalk bank [1] b r s).1 (k (rtWalk bank [1] b r s).2)
  | 0, b, s, h => rfl
  | r + 1, b, s, h => by
    have h1 := rtAcc3_ok (bank := bank) (b := b) h (show (1 : Int) ≠ 0 by decide)
    rw [rtRead, rtFin_bit h, rtWalk, rtKinds_1]
    cases hm : rtMaj bank s b with
    | true =>
      simp only [↓reduceIte, Bool.not_true, Bool.not_false, Bool.false_eq_true]
      exact rtWalk_read r (b + 1) _ h1
    | false => simp only [↓reduceIte, Bool.not_true, Bool.not_false, Bool.false_eq_true]
theorem rtWalk_puls {bank : Int} {k : RtP} : ∀ (r b : Nat) (s : RtS), s.OK → rtFin bank s (rtPuls b r k) = rtFin bank (rtWalk bank [2] b r s).1 k ∧ (rtWalk bank [2] b r s).2 = b + r
  | 0, b, s, h => ⟨rfl, rfl⟩
  | r + 1, b, s, h => by
    have h1 := rtAcc3_ok (bank := bank) (b := b) h (show (2 : Int) ≠ 0 by decide)
    have ih := rtWalk_puls (bank := bank) (k := k) r (b + 1) _ h1
    rw [rtPuls, rtFin_pul h, rtWalk, rtKinds_2, rtKinds]
    simp only [↓reduceIte, Bool.false_eq_true]
    exact ⟨ih.1, by rw [ih.2]; omega⟩
theorem rtWalk_up {bank : Int} {k : Nat → RtP} : ∀ (r b : Nat) (s : RtS), s.OK → rtFin bank s (rtUp b r k) = rtFin bank (rtWalk bank [2, 1] b r s).1 (k (rtWalk bank [2, 1] b r s).2)
  | 0, b, s, h => rfl
  | r + 1, b, s, h => by
    have h1 := rtAcc3_ok (bank := bank) (b := b) h (show (2 : Int) ≠ 0 by decide)
    have h2 := rtAcc3_ok (bank := bank) (b := b) h1 (show (1 : Int) ≠ 0 by decide)
    rw [rtUp, rtFin_pul h, rtFin_bit h1, rtWalk, rtKinds_2, rtKinds_1]
    cases hm : rtMaj bank (rtAcc3 bank s 2 b).1 b with
    | true =>
      simp only [↓reduceIte, Bool.not_true, Bool.not_false, Bool.false_eq_true]
      exact rtWalk_up r (b + 1) _ h2
    | false => simp only [↓reduceIte, Bool.not_true, Bool.not_false, Bool.false_eq_true]
/-- The landed code's Level: the state behind it, and the level. -/
def rtcLev (bank : Int) (bits : Nat) (s : RtS) : RtS × Nat := ((rtWalk bank [2] 0 (rtWalk bank [1] 0 bits s).2 (rtWalk bank [1] 0 bits s).1).1, (rtWalk bank [1] 0 bits s).2)
theorem rtcLev_ok {bank : Int} {bits : Nat} {s : RtS} (h : s.OK) : (rtcLev bank bits s).1.OK := rtWalk_ok (by decide) (rtWalk_ok (by decide) h)
theorem rtcLev_le {bank : Int} {bits : Nat} {s : RtS} : (rtcLev bank bits s).2 ≤ bits := by have := (rtWalk_le (bank := bank) (ks := [1]) (r := bits) (b := 0) (s := s)).2; unfold rtcLev; simp only; omega
theorem rtcLev_fin {bank : Int} {bits : Nat} {s : RtS} (h : s.OK) (k : Nat → RtP) : rtFin bank s (rtLev bits k) = rtFin bank (rtcLev bank bits s).1 (k (rtcLev bank bits s).2) := by
  unfold rtLev rtcLev
  rw [rtWalk_read bits 0 s h, (rtWalk_puls _ 0 _ (rtWalk_ok (by decide) h)).1]
def rtEnd (s : RtS) (n e : Int) : DvA × RtO × Bool := if s.a.k = 0 then (noAc, ⟨n, e⟩, true) else (s.a, noO, false)
theorem rtFin_done (bank : Int) (s : RtS) (n : Nat) (e : Int) : rtFin bank s (.done n e) = rtEnd s n e := rfl
def rtS0 (l : List Int) : RtS := ⟨l, noAc⟩
theorem rtS0_ok (l : List Int) : (rtS0 l).OK := .inl rfl
theorem rtFin_0 (bank : Int) (l : List Int) (T : RtP) : rtFin bank (rtS0 l) T = rtAns bank T l := rfl
theorem rtc_level (bank : Int) (bits : Nat) (l : List Int) : rtEnd (rtcLev bank bits (rtS0 l)).1 ((rtcLev bank bits (rtS0 l)).2 : Nat) 0 = rtAns bank (rtLevel bits) l := by
  rw [← rtFin_0, rtLevel, rtcLev_fin (rtS0_ok l)]; rfl
/-- The landed code's Raise. -/
def rtcUp (bank : Int) (bits target : Nat) (s : RtS) : RtS × Nat := rtWalk bank [2, 1] (rtcLev bank bits s).2 (target - (rtcLev bank bits s).2) (rtcLev bank bits s).1
theorem rtc_raise (bank : Int) (bits target : Nat) (l : List Int) :
    rtEnd (rtcUp bank bits target (rtS0 l)).1 ((rtcUp bank bits target (rtS0 l)).2 : Nat) (if (rtcUp bank bits target (rtS0 l)).2 < target then 12 else 0) = rtAns bank (rtRaise bits target) l := by
  rw [← rtFin_0, rtRaise, rtcLev_fin (rtS0_ok l), rtWalk_up _ _ _ (rtcLev_ok (rtS0_ok l))]; rfl

/-! ## The reference's loops, which stop when the log is used up -/
def rfRead (bank : Int) : Nat → Nat → RtS → RtS × Nat
  | b, 0, s => (s, b)
  | b, r + 1, s => if s.a.k ≠ 0 then (s, b) else if rtMaj bank s b then rfRead bank (b + 1) r (rtAcc3 bank s 1 b).1 else ((rtAcc3 bank s 1 b).1, b)
def rfPuls (bank : Int) : Nat → Nat → RtS → RtS
  | _, 0, s => s
  | b, r + 1, s => if s.a.k ≠ 0 then s else rfPuls bank (b + 1) r (rtAcc3 bank s 2 b).1
def rfUp (bank : Int) : Nat → Nat → RtS → RtS × Nat × Bool
  | b, 0, s => (s, b, false)
  | b, r + 1, s => if s.a.k ≠ 0 then (s, b, false) else if rtMaj bank (rtAcc3 bank s 2 b).1 b then rfUp bank (b + 1) r (rtAcc3 bank (rtAcc3 bank s 2 b).1 1 b).1 else ((rtAcc3 bank (rtAcc3 bank s 2 b).1 1 b).1, b, true)
theorem rfRead_ok {bank : Int} : ∀ {r b : Nat} {s : RtS}, s.OK → (rfRead bank b r s).1.OK
  | 0, b, s, h => h
  | r + 1, b, s, h => by
    rw [rfRead]
    split
    · exact h
    · split
      · exact rfRead_ok (rtAcc3_ok h (by decide))
      · exact rtAcc3_ok h (by decide)
theorem rfPuls_ok {bank : Int} : ∀ {r b : Nat} {s : RtS}, s.OK → (rfPuls bank b r s).OK
  | 0, b, s, h => h
  | r + 1, b, s, h => by
    rw [rfPuls]
    split
    · exact h
    · exact rfPuls_ok (rtAcc3_ok h (by decide))
theorem rfUp_ok {bank : Int} : ∀ {r b : Nat} {s : RtS}, s.OK → (rfUp bank b r s).1.OK
  | 0, b, s, h => h
  | r + 1, b, s, h => by
    have h2 := rtAcc3_ok (bank := bank) (b := b) (rtAcc3_ok (bank := bank) (b := b) h (show (2 : Int) ≠ 0 by decide)) (show (1 : Int) ≠ 0 by decide)
    rw [rfUp]
    split
    · exact h
    · split
      · exact rfUp_ok h2
      · exact h2
theorem rfRead_le {bank : Int} : ∀ {r b : Nat} {s : RtS}, b ≤ (rfRead bank b r s).2 ∧ (rfRead bank b r s).2 ≤ b + r
  | 0, b, s => by simp [rfRead]
  | r + 1, b, s => by
    rw [rfRead]
    split
    · simp only; omega
    · split
      · have := rfRead_le (bank := bank) (r := r) (b := b + 1) (s := (rtAcc3 bank s 1 b).1)
        omega
      · simp only; omega
theorem rfUp_le {bank : Int} : ∀ {r b : Nat} {s : RtS}, b ≤ (rfUp bank b r s).2.1 ∧ (rfUp bank b r s).2.1 ≤ b + r
  | 0, b, s => by simp [rfUp]
  | r + 1, b, s => by
    rw [rfUp]
    split
    · simp only; omega
    · split
      · have := rfUp_le (bank := bank) (r := r) (b := b + 1) (s := (rtAcc3 bank (rtAcc3 bank s 2 b).1 1 b).1)
        omega
      · simp only; omega
theorem rfRead_fin {bank : Int} {k : Nat → RtP} : ∀ (r b : Nat) (s : RtS), s.OK → rtFin bank s (rtRead b r k) = rtFin bank (rfRead bank b r s).1 (k (rfRead bank b r s).2)
  | 0, b, s, h => rfl
  | r + 1, b, s, h => by
    have h1 := rtAcc3_ok (bank := bank) (b := b) h (show (1 : Int) ≠ 0 by decide)
    rw [rfRead]
    by_cases h0 : s.a.k ≠ 0
    · rw [if_pos h0]; exact rtFin_stop h0 _ _
    · rw [if_neg h0, rtRead, rtFin_bit h]
      cases hm : rtMaj bank s b with
      | true => simp only [↓reduceIte, Bool.not_true, Bool.not_false, Bool.false_eq_true]; exact rfRead_fin r (b + 1) _ h1
      | false => simp only [↓reduceIte, Bool.not_true, Bool.not_false, Bool.false_eq_true]
theorem rfPuls_fin {bank : Int} {k : RtP} : ∀ (r b : Nat) (s : RtS), s.OK → rtFin bank s (rtPuls b r k) = rtFin bank (rfPuls bank b r s) k
  | 0, b, s, h => rfl
  | r + 1, b, s, h => by
    have h1 := rtAcc3_ok (bank := bank) (b := b) h (show (2 : Int) ≠ 0 by decide)
    rw [rfPuls]
    by_cases h0 : s.a.k ≠ 0
    · rw [if_pos h0]; exact rtFin_stop h0 _ _
    · rw [if_neg h0, rtPuls, rtFin_pul h]
      exact rfPuls_fin r (b + 1) _ h1
/-- Where the reference stops at a bit that reads as 0, the error is told. -/
theorem rfUp_fin {bank : Int} (t : Nat) : ∀ (r b : Nat) (s : RtS), s.OK → b + r = t → rtFin bank s (rtUp b r fun m => .done m (if m < t then 12 else 0)) = rtEnd (rfUp bank b r s).1 ((rfUp bank b r s).2.1 : Nat) (if (rfUp bank b r s).2.2 then 12 else 0)
  | 0, b, s, h, ht => by
    rw [rtUp, rfUp, rtFin_done, if_neg (by omega)]; rfl
  | r + 1, b, s, h, ht => by
    have h1 := rtAcc3_ok (bank := bank) (b := b) h (show (2 : Int) ≠ 0 by decide)
    have h2 := rtAcc3_ok (bank := bank) (b := b) h1 (show (1 : Int) ≠ 0 by decide)
    rw [rfUp]
    by_cases h0 : s.a.k ≠ 0
    · rw [if_pos h0, ← rtFin_done bank]; exact rtFin_stop h0 _ _
    · rw [if_neg h0, rtUp, rtFin_pul h, rtFin_bit h1]
      cases hm : rtMaj bank (rtAcc3 bank s 2 b).1 b with
      | true => simp only [↓reduceIte, Bool.not_true, Bool.not_false, Bool.false_eq_true]; exact rfUp_fin t r (b + 1) _ h2 (by omega)
      | false => simp only [↓reduceIte, Bool.not_true, Bool.not_false, Bool.false_eq_true]; rw [rtFin_done, if_pos (by omega)]
def rfLev (bank : Int) (bits : Nat) (s : RtS) : RtS × Nat := (rfPuls bank 0 (rfRead bank 0 bits s).2 (rfRead bank 0 bits s).1, (rfRead bank 0 bits s).2)
theorem rfLev_ok {bank : Int} {bits : Nat} {s : RtS} (h : s.OK) : (rfLev bank bits s).1.OK := rfPuls_ok (rfRead_ok h)
theorem rfLev_le {bank : Int} {bits : Nat} {s : RtS} : (rfLev bank bits s).2 ≤ bits := by have := (rfRead_le (bank := bank) (r := bits) (b := 0) (s := s)).2; unfold rfLev; simp only; omega
theorem rfLev_fin {bank : Int} {bits : Nat} {s : RtS} (h : s.OK) (k : Nat → RtP) : rtFin bank s (rtLev bits k) = rtFin bank (rfLev bank bits s).1 (k (rfLev bank bits s).2) := by
  unfold rtLev rfLev
  rw [rfRead_fin bits 0 s h, rfPuls_fin _ 0 _ (rfRead_ok h)]
def rfRaise (bank : Int) (bits target : Nat) (s : RtS) : RtS × Nat × Bool := rfUp bank (rfLev bank bits s).2 (target - (rfLev bank bits s).2) (rfLev bank bits s).1
theorem rf_level (bank : Int) (bits : Nat) (l : List Int) : rtEnd (rfLev bank bits (rtS0 l)).1 ((rfLev bank bits (rtS0 l)).2 : Nat) 0 = rtAns bank (rtLevel bits) l := by
  rw [← rtFin_0, rtLevel, rfLev_fin (rtS0_ok l)]; rfl
theorem rf_raise (bank : Int) (bits target : Nat) (l : List Int) :
    rtEnd (rfRaise bank bits target (rtS0 l)).1 ((rfRaise bank bits target (rtS0 l)).2.1 : Nat) (if (rfRaise bank bits target (rtS0 l)).2.2 then 12 else 0) = rtAns bank (rtRaise bits target) l := by
  rw [← rtFin_0, rtRaise, rfLev_fin (rtS0_ok l)]
  by_cases hle : (rfLev bank bits (rtS0 l)).2 ≤ target
  · rw [rfUp_fin target _ _ _ (rfLev_ok (rtS0_ok l)) (by omega)]; rfl
  · unfold rfRaise
    rw [show target - (rfLev bank bits (rtS0 l)).2 = 0 by omega, rtUp, rfUp, rtFin_done, if_neg (show ¬ (rfLev bank bits (rtS0 l)).2 < target by omega)]; rfl
/-- What Level and Raise answer. -/
def rtIn (bank bits : Int) : Bool := decide (0 ≤ bank) && (decide (bank < 4) && (decide (0 ≤ bits) && decide (bits ≤ 16)))
def rtErr : DvA × RtO × Bool := (noAc, ⟨0, 1⟩, true)
def rtLvA (bank bits : Int) (l : List Int) : DvA × RtO × Bool := if rtIn bank bits then rtAns bank (rtLevel bits.toNat) l else rtErr
def rtRsA (bank bits target : Int) (l : List Int) : DvA × RtO × Bool := if rtIn bank bits && (decide (0 ≤ target) && decide (target ≤ bits)) then rtAns bank (rtRaise bits.toNat target.toNat) l else rtErr
end Go.Proofs.Ytfcbcclcmgheeaa
