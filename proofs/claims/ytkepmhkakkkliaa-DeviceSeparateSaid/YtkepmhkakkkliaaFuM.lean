/-
  Fuses: the plain functions of layer 7 over lists of banks, and their laws: numbers and lists alone. No condition.
-/

namespace Go.Proofs.Ytkepmhkakkkliaa

/-! ## One cell -/
def fuRd (s : UInt8) (noise : Bool) : Bool := s == 2 || (s == 1 && noise)
def fuPl (s : UInt8) (cut : Bool) : UInt8 := if s == 0 || s == 1 then (if cut then 1 else 2) else s

/-! ## One cell of the banks -/
def fuBank (bs : List (List UInt8)) (b : Int) : List UInt8 := bs.getD b.toNat []
def fuIn (bs : List (List UInt8)) (b : Int) : Bool := decide (0 ≤ b) && decide (b < (bs.length : Int))
def fuEx (bs : List (List UInt8)) (b c : Int) : Bool := fuIn bs b && (decide (0 ≤ c) && decide (c < ((fuBank bs b).length : Int)))
def fuAt (bs : List (List UInt8)) (b c : Int) : UInt8 := (fuBank bs b).getD c.toNat 0
def fuRead (bs : List (List UInt8)) (b c : Int) (noise : Bool) : Int := if fuEx bs b c && fuRd (fuAt bs b c) noise then 1 else 0
def fuErr (bs : List (List UInt8)) (b c : Int) : Int := if fuEx bs b c then 0 else 1
def fuPulse (bs : List (List UInt8)) (b c : Int) (cut : Bool) : List (List UInt8) :=
  if fuEx bs b c then bs.set b.toNat ((fuBank bs b).set c.toNat (fuPl (fuAt bs b c) cut)) else bs
def fuWidth (bs : List (List UInt8)) (b : Int) : Int := if fuIn bs b then (((fuBank bs b).length / 3 : Nat) : Int) else -1

theorem fuIn_neg {bs : List (List UInt8)} {b : Int} (h : b < 0) : fuIn bs b = false := by unfold fuIn; rw [decide_eq_false (by omega)]; rfl
theorem fuIn_far {bs : List (List UInt8)} {b : Int} (h : (bs.length : Int) ≤ b) : fuIn bs b = false := by unfold fuIn; rw [decide_eq_false (p := b < _) (by omega), Bool.and_false]
theorem fuIn_nat {bs : List (List UInt8)} {b : Nat} (h : b < bs.length) : fuIn bs (b : Int) = true := by unfold fuIn; rw [decide_eq_true (by omega), decide_eq_true (by omega)]; rfl
theorem fuIn_iff {bs : List (List UInt8)} {b : Int} : fuIn bs b = true ↔ ∃ k : Nat, b = (k : Int) ∧ k < bs.length := by
  unfold fuIn
  rw [Bool.and_eq_true, decide_eq_true_eq, decide_eq_true_eq]
  exact ⟨fun h => ⟨b.toNat, by omega, by omega⟩, fun ⟨k, e, h⟩ => by omega⟩
theorem fuBank_nat {bs : List (List UInt8)} {b : Nat} {l : List UInt8} (h : bs[b]? = some l) : fuBank bs (b : Int) = l := by
  unfold fuBank
  rw [Int.toNat_natCast, List.getD, h]; rfl
theorem fuEx_out {bs : List (List UInt8)} {b c : Int} (h : fuIn bs b = false) : fuEx bs b c = false := by unfold fuEx; rw [h]; rfl
theorem fuEx_neg {bs : List (List UInt8)} {b c : Int} (h : c < 0) : fuEx bs b c = false := by unfold fuEx; rw [decide_eq_false (p := 0 ≤ c) (by omega), Bool.false_and, Bool.and_false]
theorem fuEx_nat {bs : List (List UInt8)} {b c : Nat} {l : List UInt8} (h : bs[b]? = some l) : fuEx bs (b : Int) (c : Int) = decide (c < l.length) := by
  have hb := (List.getElem?_eq_some_iff.1 h).1
  unfold fuEx
  rw [fuIn_nat hb, fuBank_nat h, decide_eq_true (p := (0 : Int) ≤ c) (by omega)]
  simp
theorem fuEx_iff {bs : List (List UInt8)} {b c : Int} : fuEx bs b c = true ↔ ∃ (k j : Nat) (l : List UInt8), b = (k : Int) ∧ c = (j : Int) ∧ bs[k]? = some l ∧ j < l.length := by
  constructor
  · intro h
    unfold fuEx at h
    rw [Bool.and_eq_true, fuIn_iff] at h
    obtain ⟨⟨k, rfl, hk⟩, h2⟩ := h
    have hl : bs[k]? = some bs[k] := List.getElem?_eq_getElem hk
    rw [fuBank_nat hl, Bool.and_eq_true, decide_eq_true_eq, decide_eq_true_eq] at h2
    exact ⟨k, c.toNat, bs[k], rfl, by omega, hl, by omega⟩
  · rintro ⟨k, j, l, rfl, rfl, h1, h2⟩
    rw [fuEx_nat h1]
    exact decide_eq_true (by omega)
theorem fuAt_nat {bs : List (List UInt8)} {b c : Nat} {l : List UInt8} {s : UInt8} (h : bs[b]? = some l) (hs : l[c]? = some s) : fuAt bs (b : Int) (c : Int) = s := by
  unfold fuAt
  rw [fuBank_nat h, Int.toNat_natCast, List.getD, hs]; rfl
theorem fuRead_out {bs : List (List UInt8)} {b c : Int} {noise : Bool} (h : fuEx bs b c = false) : fuRead bs b c noise = 0 := by unfold fuRead; rw [h]; rfl
theorem fuRead_in {bs : List (List UInt8)} {b c : Int} {noise : Bool} (h : fuEx bs b c = true) : fuRead bs b c noise = if fuRd (fuAt bs b c) noise then 1 else 0 := by unfold fuRead; rw [h, Bool.true_and]
theorem fuErr_out {bs : List (List UInt8)} {b c : Int} (h : fuEx bs b c = false) : fuErr bs b c = 1 := by unfold fuErr; rw [h]; rfl
theorem fuErr_in {bs : List (List UInt8)} {b c : Int} (h : fuEx bs b c = true) : fuErr bs b c = 0 := by unfold fuErr; rw [h]; rfl
theorem fuWidth_out {bs : List (List UInt8)} {b : Int} (h : fuIn bs b = false) : fuWidth bs b = -1 := by unfold fuWidth; rw [h]; rfl
theorem fuWidth_nat {bs : List (List UInt8)} {b : Nat} {l : List UInt8} (h : bs[b]? = some l) : fuWidth bs (b : Int) = ((l.length / 3 : Nat) : Int) := by
  unfold fuWidth
  rw [fuIn_nat (List.getElem?_eq_some_iff.1 h).1, fuBank_nat h]; rfl
theorem fuPulse_out {bs : List (List UInt8)} {b c : Int} {cut : Bool} (h : fuEx bs b c = false) : fuPulse bs b c cut = bs := by unfold fuPulse; rw [h]; rfl
theorem fuPulse_nat {bs : List (List UInt8)} {b c : Nat} {l : List UInt8} {s : UInt8} {cut : Bool} (h : bs[b]? = some l) (hs : l[c]? = some s) : fuPulse bs (b : Int) (c : Int) cut = bs.set b (l.set c (fuPl s cut)) := by
  have hc := (List.getElem?_eq_some_iff.1 hs).1
  unfold fuPulse
  rw [fuEx_nat h, if_pos (decide_eq_true (by omega)), fuBank_nat h, fuAt_nat h hs, Int.toNat_natCast, Int.toNat_natCast]

/-! ## The level -/
def fuLev (r : Nat → Int) : Nat → Nat → Nat
  | i, 0 => i
  | i, n + 1 => if r (3 * i) + r (3 * i + 1) + r (3 * i + 2) < 2 then i else fuLev r (i + 1) n
def fuLevel (bs : List (List UInt8)) (b : Int) (noise : Bool) : Int := if fuIn bs b then ((fuLev (fun k => fuRead bs b (k : Int) noise) 0 ((fuBank bs b).length / 3) : Nat) : Int) else -1
theorem fuLevel_out {bs : List (List UInt8)} {b : Int} {noise : Bool} (h : fuIn bs b = false) : fuLevel bs b noise = -1 := by unfold fuLevel; rw [h]; rfl
theorem fuLevel_nat {bs : List (List UInt8)} {b : Nat} {l : List UInt8} {noise : Bool} (h : bs[b]? = some l) : fuLevel bs (b : Int) noise = ((fuLev (fun k => fuRead bs (b : Int) (k : Int) noise) 0 (l.length / 3) : Nat) : Int) := by
  unfold fuLevel
  rw [fuIn_nat (List.getElem?_eq_some_iff.1 h).1, fuBank_nat h]; rfl
theorem fuLev_stop {r : Nat → Int} {i n : Nat} (h : r (3 * i) + r (3 * i + 1) + r (3 * i + 2) < 2) : fuLev r i (n + 1) = i := by rw [fuLev, if_pos h]
theorem fuLev_go {r : Nat → Int} {i n : Nat} (h : ¬ r (3 * i) + r (3 * i + 1) + r (3 * i + 2) < 2) : fuLev r i (n + 1) = fuLev r (i + 1) n := by rw [fuLev, if_neg h]
theorem fuLev_le (r : Nat → Int) : ∀ n i, fuLev r i n ≤ i + n
  | 0, i => by simp [fuLev]
  | n + 1, i => by
    rw [fuLev]
    split
    · omega
    · have := fuLev_le r n (i + 1); omega
theorem fuLev_mono (r q : Nat → Int) : ∀ n i, (∀ k, k < 3 * (i + n) → r k ≤ q k) → fuLev r i n ≤ fuLev q i n
  | 0, i, _ => by simp [fuLev]
  | n + 1, i, h => by
    have ih := fuLev_mono r q n (i + 1) (fun k hk => h k (by omega))
    have h0 := h (3 * i) (by omega)
    have h1 := h (3 * i + 1) (by omega)
    have h2 := h (3 * i + 2) (by omega)
    have hi : i ≤ fuLev q (i + 1) n := by
      have : ∀ n j, j ≤ fuLev q j n := by
        intro n
        induction n with
        | zero => intro j; simp [fuLev]
        | succ n ih => intro j; rw [fuLev]; split; exact Nat.le_refl _; exact Nat.le_trans (Nat.le_succ j) (ih (j + 1))
      exact Nat.le_trans (Nat.le_succ i) (this n (i + 1))
    rw [fuLev, fuLev]
    split <;> split <;> omega
theorem fuLev_same (r q : Nat → Int) (n i : Nat) (h : ∀ k, k < 3 * (i + n) → r k = q k) : fuLev r i n = fuLev q i n :=
  Nat.le_antisymm (fuLev_mono r q n i fun k hk => by rw [h k hk]; exact Int.le_refl _) (fuLev_mono q r n i fun k hk => by rw [h k hk]; exact Int.le_refl _)
/-- If the first m bits read as 1, the level is at least m. -/
theorem fuLev_ge (r : Nat → Int) (m : Nat) (h : ∀ i, i < m → 2 ≤ r (3 * i) + r (3 * i + 1) + r (3 * i + 2)) : ∀ n i, m ≤ i + n → i ≤ m → m ≤ fuLev r i n
  | 0, i, h1, _ => by simp [fuLev]; omega
  | n + 1, i, h1, h2 => by
    rw [fuLev]
    by_cases hi : i < m
    · rw [if_neg (by have := h i hi; omega)]
      exact fuLev_ge r m h n (i + 1) (by omega) (by omega)
    · split
      · omega
      · have := fuLev_ge r (i + 1) (fun j hj => by
          rcases Nat.lt_or_ge j m with hj' | hj'
          · exact h j hj'
          · obtain rfl : j = i := by omega
            omega) n (i + 1) (by omega) (by omega)
        omega

/-- What the first j cells of a bit read as, added up. -/
def fuSum (r : Nat → Int) (i : Nat) : Nat → Int
  | 0 => 0
  | j + 1 => fuSum r i j + r (3 * i + j)
theorem fuSum_three (r : Nat → Int) (i : Nat) : fuSum r i 3 = r (3 * i) + r (3 * i + 1) + r (3 * i + 2) := by simp [fuSum]
theorem fuSum_bd (r : Nat → Int) (h : ∀ k, 0 ≤ r k ∧ r k ≤ 1) (i : Nat) : ∀ j, 0 ≤ fuSum r i j ∧ fuSum r i j ≤ (j : Int)
  | 0 => by simp [fuSum]
  | j + 1 => by
    have := fuSum_bd r h i j
    have := h (3 * i + j)
    simp only [fuSum]
    omega

/-! ## Validity and soundness -/
def fuBad (l : List UInt8) : Bool := l.length % 3 != 0 || (decide (48 < l.length) || l.any fun s => decide (3 < s.toNat))
def fuValid (bs : List (List UInt8)) : Bool := decide (bs.length ≤ 4) && !bs.any fuBad
def fuBit (l : List UInt8) (i : Nat) : List UInt8 := (l.drop (3 * i)).take 3
def fuStk (l : List UInt8) : Nat := l.count 3
def fuUns (l : List UInt8) : Bool := (List.range (l.length / 3)).any fun i => decide (1 < fuStk (fuBit l i))
def fuSound (bs : List (List UInt8)) : Bool := !bs.any fuUns

/-! ## New -/
def fuNewBad (bits : List Int) : Bool := decide (4 < bits.length) || bits.any fun n => decide (n < 0) || decide (16 < n)
def fuNew (bits : List Int) : List (List UInt8) := if fuNewBad bits then [] else bits.map fun n => List.replicate (3 * n.toNat) 0
def fuNewE (bits : List Int) : Int := if fuNewBad bits then 1 else 0

/-! ## Sequences of pulses -/
structure FHit where
  b : Int
  c : Int
  cut : Bool
def fuHits (bs : List (List UInt8)) (l : List FHit) : List (List UInt8) := l.foldl (fun bs h => fuPulse bs h.b h.c h.cut) bs
theorem fuHits_succ (bs : List (List UInt8)) (l : List FHit) (k : Nat) (h : FHit) (hk : l[k]? = some h) : fuHits bs (l.take (k + 1)) = fuPulse (fuHits bs (l.take k)) h.b h.c h.cut := by
  unfold fuHits
  rw [List.take_add_one, hk, List.foldl_append]; rfl
theorem fuHits_app (bs : List (List UInt8)) (l k : List FHit) : fuHits bs (l ++ k) = fuHits (fuHits bs l) k := List.foldl_append ..
end Go.Proofs.Ytkepmhkakkkliaa
