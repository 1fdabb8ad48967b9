/-
  Fuses: the plain functions of layer 7 over lists of banks, and their laws: numbers and lists alone. No condition.
-/

namespace Go.Proofs.Ytfcbcclcmgheeaa

/-! ## One cell -/
def fuRd (s : UInt8) (noise : Bool) : Bool := s == 2 || (s == 1 && noise)
def fuPl (s : UInt8) (cut : Bool) : UInt8 := if s == 0 || s == 1 then (if cut then 1 else 2) else s

/-! ## One cell of the banks -/
def fuBank (bs : List (List UInt8)) (b : Int) : List UInt8 := bs.getD b.toNat []
def fuIn (bs : List (List UInt8)) (b : Int) : Bool := decide (0 ≤ b) && decide (b < (bs.length : Int))
def fuEx (bs : List (List UInt8)) (b c : Int) : Bool := fuIn bs b && (decide (0 ≤ c) && decide (c < ((fuBank bs b).length : Int)))
def fuAt (bs : List (List UInt8)) (b c : Int) : UInt8 := (fuBank bs b).getD c.toNat 0
def fuRead (bs : List (List UInt8)) (b c : Int) (noise : Bool) : Int := if fuEx bs b c && fuRd (fuAt bs b c) noise then 1 else 0
def fuErr (bs : List (List UInt8)) (b c : Int) : Int := if fuEx bs b c then 0 else 1
def fuPulse (bs : List (List UInt8)) (b c : Int) (cut : Bool) : List (List UInt8) :=
  if fuEx bs b c then bs.set b.toNat ((fuBank bs b).set c.toNat (fuPl (fuAt bs b c) cut)) else bs
def fuWidth (bs : List (List UInt8)) (b : Int) : Int := if fuIn bs b then (((fuBank bs b).length / 3 : Nat) : Int) else -1

theorem fuIn_neg {bs : List (List UInt8)} {b : Int} (h : b < 0) : fuIn bs b = false := by unfold fuIn; rw [decide_eq_false (by omega)]; rfl
theorem fuIn_far {bs : List (List UInt8)} {b : Int} (h : (bs.length : Int) ≤ b) : fuIn bs b = false := by unfold fuIn; rw [decide_eq_false (p := b < _) (by omega), Bool.and_false]
theorem fuIn_nat {bs : List (List UInt8)} {b : Nat} (h : b < bs.length) : fuIn bs (b : Int) = true := by unfold fuIn; rw [decide_eq_true (by omega), decide_eq_true (by omega)]; rfl
theorem fuIn_iff {bs : List (List UInt8)} {b : Int} : fuIn bs b = true ↔ ∃ k : Nat, b = (k : Int) ∧ k < bs.length := by
  unfold fuIn
  rw [Bool.and_eq_true, decide_eq_true_eq, decide_eq_true_eq]
  exact ⟨fun h => ⟨b.toNat, by omega, by omega⟩, fun ⟨k, e, h⟩ => by omega⟩
theorem fuBank_nat {bs : List (List UInt8)} {b : Nat} {l : List UInt8} (h : bs[b]? = some l) : fuBank bs (b : Int) = l := by
  unfold fuBank
  rw [Int.toNat_natCast, List.getD, h]; rfl
theorem fuEx_out {bs : List (List UInt8)} {b c : Int} (h : fuIn bs b = false) : fuEx bs b c = false := by unfold fuEx; rw [h]; rfl
theorem fuEx_neg {bs : List (List UInt8)} {b c : Int} (h : c < 0) : fuEx bs b c = false := by unfold fuEx; rw [decide_eq_false (p := 0 ≤ c) (by omega), Bool.false_and, Bool.and_false]
theorem fuEx_nat {bs : List (List UInt8)} {b c : Nat} {l : List UInt8} (h : bs[b]? = some l) : fuEx bs (b : Int) (c : Int) = decide (c < l.length) := by
  have hb := (List.getElem?_eq_some_iff.1 h).1
  unfold fuEx
  rw [fuIn_nat hb, fuBank_nat h, decide_eq_true (p := (0 : Int) ≤ c) (by omega)]
  simp
theorem fuEx_iff {bs : List (List UInt8)} {b c : Int} : fuEx bs b c = true ↔ ∃ (k j : Nat) (l : List UInt8), b = (k : Int) ∧ c = (j : Int) ∧ bs[k]? = some l ∧ j < l.length := by
  constructor
  · intro h
    unfold fuEx at h
    rw [Bool.and_eq_true, fuIn_iff] at h
    obtain ⟨⟨k, rfl, hk⟩, h2⟩ := h
    have hl : bs[k]? = some bs[k] := List.getElem?_eq_getElem hk
    rw [fuBank_nat hl, Bool.and_eq_true, decide_eq_true_eq, decide_eq_true_eq] at h2
    exact ⟨k, c.toNat, bs[k], rfl, by omega, hl, by omega⟩
  · rintro ⟨k, j, l, rfl, rfl, h1, h2⟩
    rw [fuEx_nat h1]
    exact decide_eq_true (by omega)
theorem fuAt_nat {bs : List (List UInt8)} {b c : Nat} {l : List UInt8} {s : UInt8} (h : bs[b]? = some l) (hs : l[c]? = some s) : fuAt bs (b : Int) (c : Int) = s := by
  unfold fuAt
  rw [fuBank_nat h, Int.toNat_natCast, List.getD, hs]; rfl
theorem fuRead_out {bs : List (List UInt8)} {b c : Int} {noise : Bool} (h : fuEx bs b c = false) : fuRead bs b c noise = 0 := by unfold fuRead; rw [h]; rfl
theorem fuRead_in {bs : List (List UInt8)} {b c : Int} {noise : Bool} (h : fuEx bs b c = true) : fuRead bs b c noise = if fuRd (fuAt bs b c) noise then 1 else 0 := by unfold fuRead; rw [h, Bool.true_and]
theorem fuErr_out {bs : List (List UInt8)} {b c : Int} (h : fuEx bs b c = false) : fuErr bs b c = 1 := by unfold fuErr; rw [h]; rfl
theorem fuErr_in {bs : List (List UInt8)} {b c : Int} (h : fuEx bs b c = true) : fuErr bs b c = 0 := by unfold fuErr; rw [h]; rfl
theorem fuWidth_out {bs : List (List UInt8)} {b : Int} (h : fuIn bs b = false) : fuWidth bs b = -1 := by unfold fuWidth; rw [h]; rfl
theorem fuWidth_nat {bs : List (List UInt8)} {b : Nat} {l : List UInt8} (h : bs[b]? = some l) : fuWidth bs (b : Int) = ((l.length / 3 : Nat) : Int) := by
  unfold fuWidth
  rw [fuIn_nat (List.getElem?_eq_some_iff.1 h).1, fuBank_nat h]; rfl
theorem fuPulse_out {bs : List (List UInt8)} {b c : Int} {cut : Bool} (h : fuEx bs b c = false) : fuPulse bs b c cut = bs := by unfold fuPulse; rw [h]; rfl
theorem fuPulse_nat {bs : List (List UInt8)} {b c : Nat} {l : List UInt8} {s : UInt8} {cut : Bool} (h : bs[b]? = some l) (hs : l[c]? = some s) : fuPulse bs (b : Int) (c : Int) cut = bs.set b (l.set c (fuPl s cut)) := by
  have hc := (List.getElem?_eq_some_iff.1 hs).1
  unfold fuPulse
  rw [fuEx_nat h, if_pos (decide_eq_true (by omega)), fuBank_nat h, fuAt_nat h hs, Int.toNat_natCast, Int.toNat_natCast]

/-! ## The level -/
def fuLev (r : Nat → Int) : Nat → Nat → Nat
  | i, 0 => i
  | i, n + 1 => if r (3 * i) + r (3 * i + 1) + r (3 * i + 2) < 2 then i else fuLev r (i + 1) n
def fuLevel (bs : List (List UInt8)) (b : Int) (noise : Bool) : Int := if fuIn bs b then ((fuLev (fun k => fuRead bs b (k : Int) noise) 0 ((fuBank bs b).length / 3) : Nat) : Int) else -1
theorem fuLevel_out {bs : List (List UInt8)} {b : Int} {noise : Bool} (h : fuIn bs b = false) : fuLevel bs b noise = -1 := by unfold fuLevel; rw [h]; rfl
theorem fuLevel_nat {bs : List (List UInt8)} {b : Nat} {l : List UInt8} {noise : Bool} (h : bs[b]? = some l) : fuLevel bs (b : Int) noise = ((fuLev (fun k => fuRead bs (b : Int) (k : Int) noise) 0 (l.length / 3) : Nat) : Int) := by
  unfold fuLevel
  rw [fuIn_nat (List.getElem?_eq_some_iff.1 h).1, fuBank_nat h]; rfl
theorem fuLev_stop {r : Nat → Int} {i n : Nat} (h : r (3 * i) + r (3 * i + 1) + r (3 * i + 2) < 2) : fuLev r i (n + 1) = i := by rw [fuLev, if_pos h]
theorem fuLev_go {r : Nat → Int} {i n : Nat} (h : ¬ r (3 * i) + r (3 * i + 1) + r (3 * i + 2) < 2) : fuLev r i (n + 1) = fuLev r (i + 1) n := by rw [fuLev, if_neg h]
theorem fuLev_le (r : Nat → Int) : ∀ n i, fuLev r i n ≤ i + n
  | 0, i => by simp [fuLev]
  | n + 1, i => by
    rw [fuLev]
    split
    · omega
    · have := fuLev_le r n (i + 1); omega
theorem fuLev_mono (r q : Nat → Int) : ∀ n i, (∀ k, k < 3 * (i + n) → r k ≤ q k) → fuLev r i n ≤ fuLev q i n
  | 0, i, _ => by simp [fuLev]
  | n + 1, i, h => by
    have ih := fuLev_mono r q n (i + 1) (fun k hk => h k (by omega))
    have h0 := h (3 * i) (by omega)
    have h1 := h (3 * i + 1) (by omega)
    have h2 := h (3 * i + 2) (by omega)
    have hi : i ≤ fuLev q (i + 1) n := by
      have : ∀ n j, j ≤ fuLev q j n := by
        intro n
        induction n with
        | zero => intro j; simp [fuLev]
        | succ n ih => intro j; rw [fuLev]; split; exact Nat.le_refl _; exact Nat.le_trans (Nat.le_succ j) (ih (j + 1))
      exact Nat.le_trans (Nat.le_succ i) (this n (i + 1))
    rw [fuLev, fuLev]
    split <;> split <;> omega
theorem fuLev_same (r q : Nat → Int) (n i : Nat) (h : ∀ k, k < 3 * (i + n) → r k = q k) : fuLev r i n = fuLev q i n :=
  Nat.le_antisymm (fuLev_mono r q n i fun k hk => by rw [h k hk]; exact Int.le_refl _) (fuLev_mono q r n i fun k hk => by rw [h k hk]; exact Int.le_refl _)
/-- If the first m bits read as 1, the level is at least m. -/
theorem fuLev_ge (r : Nat → Int) (m : Nat) (h : ∀ i, i < m → 2 ≤ r (3 * i) + r (3 * i + 1) + r (3 * i + 2)) : ∀ n i, m ≤ i + n → i ≤ m → m ≤ fuLev r i n
  | 0, i, h1, _ => by simp [fuLev]; omega
  | n + 1, i, h1, h2 => by
    rw [fuLev]
    by_cases hi : i < m
    · rw [if_neg (by have := h i hi; omega)]
      exact fuLev_ge r m h n (i + 1) (by omega) (by omega)
    · split
      · omega
      · have := fuLev_ge r (i + 1) (fun j hj => by
          rcases Nat.lt_or_ge j m with hj' | hj'
          · exact h j hj'
          · obtain rfl : j = i := by omega
            omega) n (i + 1) (by omega) (by omega)
        omega

/-- What the first j cells of a bit read as, added up. -/
def fuSum (r : Nat → Int) (i : Nat) : Nat → Int
  | 0 => 0
  | j + 1 => fuSum r i j + r (3 * i + j)
theorem fuSum_three (r : Nat → Int) (i : Nat) : fuSum r i 3 = r (3 * i) + r (3 * i + 1) + r (3 * i + 2) := by simp [fuSum]
theorem fuSum_bd (r : Nat → Int) (h : ∀ k, 0 ≤ r k ∧ r k ≤ 1) (i : Nat) : ∀ j, 0 ≤ fuSum r i j ∧ fuSum r i j ≤ (j : Int)
  | 0 => by simp [fuSum]
  | j + 1 => by
    have := fuSum_bd r h i j
    have := h (3 * i + j)
    simp only [fuSum]
    omega

/-! ## Validity and soundness -/
def fuBad (l : List UInt8) : Bool := l.length % 3 != 0 || (decide (48 < l.length) || l.any fun s => decide (3 < s.toNat))
def fuValid (bs : List (List UInt8)) : Bool := decide (bs.length ≤ 4) && !bs.any fuBad
def fuBit (l : List UInt8) (i : Nat) : List UInt8 := (l.drop (3 * i)).take 3
def fuStk (l : List UInt8) : Nat := l.count 3
def fuUns (l : List UInt8) : Bool := (List.range (l.length / 3)).any fun i => decide (1 < fuStk (fuBit l i))
def fuSound (bs : List (List UInt8)) : Bool := !bs.any fuUns

/-! ## New -/
def fuNewBad (bits : List Int) : Bool := decide (4 < bits.length) || bits.any fun n => decide (n < 0) || decide (16 < n)
def fuNew (bits : List Int) : List (List UInt8) := if fuNewBad bits then [] else bits.map fun n => List.replicate (3 * n.toNat) 0
def fuNewE (bits : List Int) : Int := if fuNewBad bits then 1 else 0

/-! ## Sequences of pulses -/
structure FHit where
  b : Int
  c : Int
  cut : Bool
def fuHits (bs : List (List UInt8)) (l : List FHit) : List (List UInt8) := l.foldl (fun bs h => fuPulse bs h.b h.c h.cut) bs
theorem fuHits_succ (bs : List (List UInt8)) (l : List FHit) (k : Nat) (h : FHit) (hk : l[k]? = some h) : fuHits bs (l.take (k + 1)) = fuPulse (fuHits bs (l.take k)) h.b h.c h.cut := by
  unfold fuHits
  rw [List.take_add_one, hk, List.foldl_append]; rfl
theorem fuHits_app (bs : List (List UInt8)) (l k : List FHit) : fuHits bs (l ++ k) = fuHits (fuHits bs l) k := List.foldl_append ..
end Go.Proofs.Ytfcbcclcmgheeaa

/-
  Fuses: what pulses keep, over lists of banks: levels, validity, soundness, single cells. Lists alone. No condition.
-/
namespace Go.Proofs.Ytfcbcclcmgheeaa

/-! ## Banks that are related cell by cell -/
def Rel (P : UInt8 → UInt8 → Prop) (bs cs : List (List UInt8)) : Prop :=
  bs.length = cs.length ∧ ∀ (k : Nat) (l l' : List UInt8), bs[k]? = some l → cs[k]? = some l' → l.length = l'.length ∧ ∀ (j : Nat) (s s' : UInt8), l[j]? = some s → l'[j]? = some s' → P s s'
theorem Rel.refl {P : UInt8 → UInt8 → Prop} (h : ∀ s, P s s) (bs : List (List UInt8)) : Rel P bs bs := ⟨rfl, fun k l l' h1 h2 => by
  rw [h1] at h2
  cases h2
  exact ⟨rfl, fun j s s' h1 h2 => by rw [h1] at h2; cases h2; exact h s⟩⟩
theorem Rel.trans {P : UInt8 → UInt8 → Prop} (ht : ∀ a b c, P a b → P b c → P a c) {as bs cs : List (List UInt8)} (h1 : Rel P as bs) (h2 : Rel P bs cs) : Rel P as cs := by
  refine ⟨h1.1.trans h2.1, fun k l l'' hl hl'' => ?_⟩
  have hk : k < bs.length := by rw [← h1.1]; exact (List.getElem?_eq_some_iff.1 hl).1
  have hm : bs[k]? = some bs[k] := List.getElem?_eq_getElem hk
  obtain ⟨e1, p1⟩ := h1.2 k _ _ hl hm
  obtain ⟨e2, p2⟩ := h2.2 k _ _ hm hl''
  refine ⟨e1.trans e2, fun j s s'' hs hs'' => ?_⟩
  have hj : j < bs[k].length := by rw [← e1]; exact (List.getElem?_eq_some_iff.1 hs).1
  have hmj : bs[k][j]? = some bs[k][j] := List.getElem?_eq_getElem hj
  exact ht _ _ _ (p1 j _ _ hs hmj) (p2 j _ _ hmj hs'')
theorem Rel.pulse {P : UInt8 → UInt8 → Prop} (hr : ∀ s, P s s) (bs : List (List UInt8)) (b c : Int) (cut : Bool) (hp : ∀ s, P s (fuPl s cut)) : Rel P bs (fuPulse bs b c cut) := by
  by_cases hx : fuEx bs b c = true
  · obtain ⟨k, j, l, rfl, rfl, hl, hj⟩ := fuEx_iff.1 hx
    have hs : l[j]? = some l[j] := List.getElem?_eq_getElem hj
    rw [fuPulse_nat hl hs]
    refine ⟨by rw [List.length_set], fun k' l1 l2 h1 h2 => ?_⟩
    rw [List.getElem?_set] at h2
    split at h2
    · rename_i e
      subst e
      rw [hl] at h1
      cases h1
      split at h2
      · cases h2
        refine ⟨by rw [List.length_set], fun j' s s' g1 g2 => ?_⟩
        rw [List.getElem?_set] at g2
        split at g2
        · rename_i e
          subst e
          rw [hs] at g1
          cases g1
          cases g2
          exact hp _
        · rw [g1] at g2; cases g2; exact hr s
      · cases h2
    · rw [h1] at h2
      cases h2
      exact ⟨rfl, fun j' s s' g1 g2 => by rw [g1] at g2; cases g2; exact hr s⟩
  · rw [fuPulse_out (by simpa using hx)]
    exact Rel.refl hr bs
theorem Rel.hits {P : UInt8 → UInt8 → Prop} (hr : ∀ s, P s s) (ht : ∀ a b c, P a b → P b c → P a c) (hp : ∀ s cut, P s (fuPl s cut)) : ∀ (l : List FHit) (bs : List (List UInt8)), Rel P bs (fuHits bs l)
  | [], bs => Rel.refl hr bs
  | h :: l, bs => (Rel.pulse hr bs h.b h.c h.cut (fun s => hp s h.cut)).trans ht (Rel.hits hr ht hp l (fuPulse bs h.b h.c h.cut))
section
variable {P : UInt8 → UInt8 → Prop} {bs cs : List (List UInt8)}
theorem Rel.bank (h : Rel P bs cs) {k : Nat} {l : List UInt8} (hl : bs[k]? = some l) : ∃ l', cs[k]? = some l' ∧ l.length = l'.length ∧ ∀ (j : Nat) (s s' : UInt8), l[j]? = some s → l'[j]? = some s' → P s s' := by
  have hk : k < cs.length := by rw [← h.1]; exact (List.getElem?_eq_some_iff.1 hl).1
  have hm : cs[k]? = some cs[k] := List.getElem?_eq_getElem hk
  exact ⟨_, hm, h.2 k _ _ hl hm⟩
theorem Rel.ex (h : Rel P bs cs) (b c : Int) : fuEx bs b c = fuEx cs b c := by
  rw [Bool.eq_iff_iff, fuEx_iff, fuEx_iff]
  constructor
  · rintro ⟨k, j, l, rfl, rfl, hl, hj⟩
    obtain ⟨l', h1, h2, _⟩ := h.bank hl
    exact ⟨k, j, l', rfl, rfl, h1, by omega⟩
  · rintro ⟨k, j, l', rfl, rfl, hl, hj⟩
    have hk : k < bs.length := by rw [h.1]; exact (List.getElem?_eq_some_iff.1 hl).1
    have hm : bs[k]? = some bs[k] := List.getElem?_eq_getElem hk
    obtain ⟨e, _⟩ := h.2 k _ _ hm hl
    exact ⟨k, j, _, rfl, rfl, hm, by omega⟩
theorem Rel.in_ (h : Rel P bs cs) (b : Int) : fuIn bs b = fuIn cs b := by unfold fuIn; rw [h.1]
theorem Rel.width (h : Rel P bs cs) (b : Int) : fuWidth bs b = fuWidth cs b := by
  by_cases hb : fuIn bs b = true
  · obtain ⟨k, rfl, hk⟩ := fuIn_iff.1 hb
    have hl : bs[k]? = some bs[k] := List.getElem?_eq_getElem hk
    obtain ⟨l', h1, h2, _⟩ := h.bank hl
    rw [fuWidth_nat hl, fuWidth_nat h1, h2]
  · rw [fuWidth_out (by simpa using hb), fuWidth_out (by rw [← h.in_]; simpa using hb)]
theorem Rel.at_ (h : Rel P bs cs) {b c : Int} (hx : fuEx bs b c = true) : P (fuAt bs b c) (fuAt cs b c) := by
  obtain ⟨k, j, l, rfl, rfl, hl, hj⟩ := fuEx_iff.1 hx
  obtain ⟨l', h1, h2, h3⟩ := h.bank hl
  have hs : l[j]? = some l[j] := List.getElem?_eq_getElem hj
  have hs' : l'[j]? = some (l'[j]'(by omega)) := List.getElem?_eq_getElem (by omega)
  rw [fuAt_nat hl hs, fuAt_nat h1 hs']
  exact h3 j _ _ hs hs'
theorem fuRead_le (h : Rel P bs cs) {z z' : Bool} (hp : ∀ s s', P s s' → fuRd s z = true → fuRd s' z' = true) (b c : Int) : fuRead bs b c z ≤ fuRead cs b c z' := by
  unfold fuRead
  by_cases hx : fuEx bs b c = true
  · have hA := h.at_ hx
    rw [← h.ex, hx, Bool.true_and, Bool.true_and]
    by_cases h1 : fuRd (fuAt bs b c) z = true
    · rw [if_pos h1, if_pos (hp _ _ hA h1)]; exact Int.le_refl _
    · rw [if_neg h1]; split <;> omega
  · rw [if_neg (by rw [Bool.and_eq_true]; exact fun e => hx e.1)]
    split <;> omega
theorem fuLevel_le (h : Rel P bs cs) {z z' : Bool} (hp : ∀ s s', P s s' → fuRd s z = true → fuRd s' z' = true) (b : Int) : fuLevel bs b z ≤ fuLevel cs b z' := by
  by_cases hb : fuIn bs b = true
  · obtain ⟨k, rfl, hk⟩ := fuIn_iff.1 hb
    have hl : bs[k]? = some bs[k] := List.getElem?_eq_getElem hk
    obtain ⟨l', h1, h2, _⟩ := h.bank hl
    rw [fuLevel_nat hl, fuLevel_nat h1, h2]
    have := fuLev_mono (fun j => fuRead bs (k : Int) (j : Int) z) (fun j => fuRead cs (k : Int) (j : Int) z') (l'.length / 3) 0 (fun j _ => fuRead_le h hp (k : Int) (j : Int))
    omega
  · rw [fuLevel_out (by simpa using hb), fuLevel_out (by rw [← h.in_]; simpa using hb)]
    exact Int.le_refl _
theorem Rel.bad (h : Rel P bs cs) (hp : ∀ s s', P s s' → (3 < s.toNat ↔ 3 < s'.toNat)) : fuValid bs = fuValid cs := by
  have hb : ∀ k l l', bs[k]? = some l → cs[k]? = some l' → fuBad l = fuBad l' := fun k l l' h1 h2 => by
    obtain ⟨e, p⟩ := h.2 k _ _ h1 h2
    unfold fuBad
    rw [e]
    have ha : (l.any fun s => decide (3 < s.toNat)) = (l'.any fun s => decide (3 < s.toNat)) := by
      rw [Bool.eq_iff_iff, List.any_eq_true, List.any_eq_true]
      constructor
      · rintro ⟨s, hs, hd⟩
        obtain ⟨j, hj, rfl⟩ := List.mem_iff_getElem.1 hs
        refine ⟨l'[j]'(by omega), List.getElem_mem _, decide_eq_true ((hp _ _ (p j _ _ (List.getElem?_eq_getElem hj) (List.getElem?_eq_getElem (by omega)))).1 (of_decide_eq_true hd))⟩
      · rintro ⟨s, hs, hd⟩
        obtain ⟨j, hj, rfl⟩ := List.mem_iff_getElem.1 hs
        refine ⟨l[j]'(by omega), List.getElem_mem _, decide_eq_true ((hp _ _ (p j _ _ (List.getElem?_eq_getElem (by omega)) (List.getElem?_eq_getElem hj))).2 (of_decide_eq_true hd))⟩
    rw [ha]
  unfold fuValid
  rw [h.1]
  congr 2
  rw [Bool.eq_iff_iff, List.any_eq_true, List.any_eq_true]
  constructor
  · rintro ⟨l, hl, hd⟩
    obtain ⟨k, hk, rfl⟩ := List.mem_iff_getElem.1 hl
    have hk' : k < cs.length := by rw [← h.1]; exact hk
    exact ⟨cs[k], List.getElem_mem _, by rw [← hb k _ _ (List.getElem?_eq_getElem hk) (List.getElem?_eq_getElem hk')]; exact hd⟩
  · rintro ⟨l, hl, hd⟩
    obtain ⟨k, hk, rfl⟩ := List.mem_iff_getElem.1 hl
    have hk' : k < bs.length := by rw [h.1]; exact hk
    exact ⟨bs[k], List.getElem_mem _, by rw [hb k _ _ (List.getElem?_eq_getElem hk') (List.getElem?_eq_getElem hk)]; exact hd⟩
theorem count_same {l l' : List UInt8} (e : l.length = l'.length) (hp : ∀ (j : Nat) (s s' : UInt8), l[j]? = some s → l'[j]? = some s' → (s = 3 ↔ s' = 3)) : l.count 3 = l'.count 3 := by
  induction l generalizing l' with
  | nil => cases l' with
    | nil => rfl
    | cons => simp at e
  | cons s l ih => cases l' with
    | nil => simp at e
    | cons s' l' =>
      have h0 := hp 0 s s' rfl rfl
      have h1 := ih (l' := l') (by simpa using e) (fun j a b ha hb => hp (j + 1) a b (by simpa using ha) (by simpa using hb))
      rw [List.count_cons, List.count_cons, h1]
      congr 1
      by_cases h3 : s = 3
      · rw [h3, h0.1 h3]
      · rw [if_neg (by simpa using h3), if_neg (by simpa using fun e => h3 (h0.2 e))]
theorem bit_get (l : List UInt8) (i j : Nat) : (fuBit l i)[j]? = if j < 3 then l[3 * i + j]? else none := by
  unfold fuBit
  rw [List.getElem?_take]
  split
  · rw [List.getElem?_drop]
  · rfl
theorem Rel.sound (h : Rel P bs cs) (hp : ∀ s s', P s s' → (s = 3 ↔ s' = 3)) : fuSound bs = fuSound cs := by
  have hb : ∀ k l l', bs[k]? = some l → cs[k]? = some l' → fuUns l = fuUns l' := fun k l l' h1 h2 => by
    obtain ⟨e, p⟩ := h.2 k _ _ h1 h2
    unfold fuUns fuStk
    rw [e]
    congr 1
    funext i
    rw [count_same (l := fuBit l i) (l' := fuBit l' i) (by unfold fuBit; simp [e]) (fun j s s' hs hs' => by
      rw [bit_get] at hs hs'
      split at hs
      · rename_i hj
        rw [if_pos hj] at hs'
        exact hp _ _ (p _ _ _ hs hs')
      · cases hs)]
  unfold fuSound
  congr 1
  rw [Bool.eq_iff_iff, List.any_eq_true, List.any_eq_true]
  constructor
  · rintro ⟨l, hl, hd⟩
    obtain ⟨k, hk, rfl⟩ := List.mem_iff_getElem.1 hl
    have hk' : k < cs.length := by rw [← h.1]; exact hk
    exact ⟨cs[k], List.getElem_mem _, by rw [← hb k _ _ (List.getElem?_eq_getElem hk) (List.getElem?_eq_getElem hk')]; exact hd⟩
  · rintro ⟨l, hl, hd⟩
    obtain ⟨k, hk, rfl⟩ := List.mem_iff_getElem.1 hl
    have hk' : k < bs.length := by rw [h.1]; exact hk
    exact ⟨bs[k], List.getElem_mem _, by rw [hb k _ _ (List.getElem?_eq_getElem hk') (List.getElem?_eq_getElem hk)]; exact hd⟩
end

/-! ## What pulses keep -/
/-- What a pulse may do to a cell. -/
def Hit1 (s s' : UInt8) : Prop := (∀ z, fuRd s z = true → fuRd s' z = true) ∧ (3 < s.toNat ↔ 3 < s'.toNat) ∧ (s = 3 ↔ s' = 3) ∧ (s = 2 → s' = 2)
theorem Hit1.refl (s : UInt8) : Hit1 s s := ⟨fun _ h => h, Iff.rfl, Iff.rfl, fun h => h⟩
theorem Hit1.trans (a b c : UInt8) (h1 : Hit1 a b) (h2 : Hit1 b c) : Hit1 a c := ⟨fun z h => h2.1 z (h1.1 z h), h1.2.1.trans h2.2.1, h1.2.2.1.trans h2.2.2.1, fun h => h2.2.2.2 (h1.2.2.2 h)⟩
theorem Hit1.pl (s : UInt8) (cut : Bool) : Hit1 s (fuPl s cut) := by
  unfold fuPl
  by_cases h0 : s = 0
  · subst h0
    refine ⟨fun z h => by revert h; cases z <;> cases cut <;> decide, by cases cut <;> decide, by cases cut <;> decide, by cases cut <;> decide⟩
  · by_cases h1 : s = 1
    · subst h1
      refine ⟨fun z h => ?_, by cases cut <;> decide, by cases cut <;> decide, by cases cut <;> decide⟩
      revert h
      cases z <;> cases cut <;> decide
    · rw [beq_eq_false_iff_ne.2 h0, beq_eq_false_iff_ne.2 h1]
      exact Hit1.refl s
theorem hits_rel (bs : List (List UInt8)) (l : List FHit) : Rel Hit1 bs (fuHits bs l) := Rel.hits Hit1.refl Hit1.trans Hit1.pl l bs
theorem hits_level (bs : List (List UInt8)) (l : List FHit) (b : Int) (z : Bool) : fuLevel bs b z ≤ fuLevel (fuHits bs l) b z := fuLevel_le (hits_rel bs l) (fun _ _ h => h.1 z) b
theorem hits_width (bs : List (List UInt8)) (l : List FHit) (b : Int) : fuWidth (fuHits bs l) b = fuWidth bs b := ((hits_rel bs l).width b).symm
theorem hits_valid (bs : List (List UInt8)) (l : List FHit) : fuValid (fuHits bs l) = fuValid bs := ((hits_rel bs l).bad (fun _ _ h => h.2.1)).symm
theorem hits_sound (bs : List (List UInt8)) (l : List FHit) : fuSound (fuHits bs l) = fuSound bs := ((hits_rel bs l).sound (fun _ _ h => h.2.2.1)).symm
/-- A cut pulse does not change the least level. -/
theorem cut_level (bs : List (List UInt8)) (b c x : Int) : fuLevel (fuPulse bs b c true) x false = fuLevel bs x false := by
  have h1 : Rel (fun s s' => fuRd s false = fuRd s' false) bs (fuPulse bs b c true) := Rel.pulse (P := fun s s' => fuRd s false = fuRd s' false) (fun _ => rfl) bs b c true (fun s => by
    unfold fuPl
    by_cases h0 : s = 0
    · subst h0; rfl
    · by_cases h1 : s = 1
      · subst h1; rfl
      · rw [beq_eq_false_iff_ne.2 h0, beq_eq_false_iff_ne.2 h1]; rfl)
  refine Int.le_antisymm ?_ (fuLevel_le h1 (fun s s' h h' => by rw [← h]; exact h') x)
  have h2 : Rel (fun s s' => fuRd s false = fuRd s' false) (fuPulse bs b c true) bs := ⟨h1.1.symm, fun k l l' g1 g2 => by
    obtain ⟨e, p⟩ := h1.2 k _ _ g2 g1
    exact ⟨e.symm, fun j s s' a1 a2 => (p j _ _ a2 a1).symm⟩⟩
  exact fuLevel_le h2 (fun s s' h h' => by rw [← h]; exact h') x
/-- Readings between the least and the greatest. -/
theorem noise_level {bs : List (List UInt8)} {b : Nat} {l : List UInt8} (h : bs[b]? = some l) (zs : Nat → Bool) :
    fuLevel bs (b : Int) false ≤ ((fuLev (fun k => fuRead bs (b : Int) (k : Int) (zs k)) 0 (l.length / 3) : Nat) : Int) ∧ ((fuLev (fun k => fuRead bs (b : Int) (k : Int) (zs k)) 0 (l.length / 3) : Nat) : Int) ≤ fuLevel bs (b : Int) true := by
  have hr := Rel.refl (P := Eq) (fun _ => rfl) bs
  have r1 : ∀ (s : UInt8) (z : Bool), fuRd s false = true → fuRd s z = true := fun s z h => by
    unfold fuRd at *
    cases z
    · exact h
    · simp at h; simp [h]
  have r2 : ∀ (s : UInt8) (z : Bool), fuRd s z = true → fuRd s true = true := fun s z h => by
    unfold fuRd at *
    cases z
    · simp at h; simp [h]
    · exact h
  rw [fuLevel_nat h, fuLevel_nat h]
  have h1 := fuLev_mono (fun k => fuRead bs (b : Int) (k : Int) false) (fun k => fuRead bs (b : Int) (k : Int) (zs k)) (l.length / 3) 0 (fun k _ => fuRead_le hr (z := false) (z' := zs k) (fun s s' e => by subst e; exact r1 s _) (b : Int) (k : Int))
  have h2 := fuLev_mono (fun k => fuRead bs (b : Int) (k : Int) (zs k)) (fun k => fuRead bs (b : Int) (k : Int) true) (l.length / 3) 0 (fun k _ => fuRead_le hr (z := zs k) (z' := true) (fun s s' e => by subst e; exact r2 s _) (b : Int) (k : Int))
  omega
/-- A valid fuses' cell is one of the four. -/
theorem valid_bank {bs : List (List UInt8)} (hv : fuValid bs = true) {k : Nat} {l : List UInt8} (hl : bs[k]? = some l) : l.length % 3 = 0 ∧ l.length ≤ 48 ∧ ∀ s ∈ l, s.toNat ≤ 3 := by
  unfold fuValid at hv
  rw [Bool.and_eq_true, Bool.not_eq_true', List.any_eq_false] at hv
  have hb := hv.2 l (List.mem_of_getElem? hl)
  unfold fuBad at hb
  rw [Bool.not_eq_true, Bool.or_eq_false_iff, Bool.or_eq_false_iff, List.any_eq_false] at hb
  refine ⟨by simpa using hb.1, by have := of_decide_eq_false hb.2.1; omega, fun s hs => ?_⟩
  have := hb.2.2 s hs
  rw [decide_eq_true_eq] at this
  omega
theorem valid_len {bs : List (List UInt8)} (hv : fuValid bs = true) : bs.length ≤ 4 := by
  unfold fuValid at hv
  rw [Bool.and_eq_true, decide_eq_true_eq] at hv
  exact hv.1

/-! ## Single cells -/
def Done (s : UInt8) : Prop := s = 2 ∨ s = 3
theorem Done.hit {s s' : UInt8} (h : Hit1 s s') (hd : Done s) : Done s' := by
  rcases hd with hd | hd
  · exact .inl (h.2.2.2 hd)
  · exact .inr (h.2.2.1.1 hd)
theorem Done.pl {s : UInt8} (h : s.toNat ≤ 3) : Done (fuPl s false) := by
  unfold fuPl Done
  by_cases h0 : s = 0
  · subst h0; exact .inl rfl
  · by_cases h1 : s = 1
    · subst h1; exact .inl rfl
    · rw [beq_eq_false_iff_ne.2 h0, beq_eq_false_iff_ne.2 h1]
      by_cases h2 : s = 2
      · exact .inl h2
      · refine .inr (UInt8.toNat.inj ?_)
        have e0 : s.toNat ≠ 0 := fun e => h0 (UInt8.toNat.inj e)
        have e1 : s.toNat ≠ 1 := fun e => h1 (UInt8.toNat.inj e)
        have e2 : s.toNat ≠ 2 := fun e => h2 (UInt8.toNat.inj e)
        show s.toNat = 3
        omega
theorem pulse_at {bs : List (List UInt8)} {b c : Int} {cut : Bool} (hx : fuEx bs b c = true) : fuAt (fuPulse bs b c cut) b c = fuPl (fuAt bs b c) cut := by
  obtain ⟨k, j, l, rfl, rfl, hl, hj⟩ := fuEx_iff.1 hx
  have hs : l[j]? = some l[j] := List.getElem?_eq_getElem hj
  have hk := (List.getElem?_eq_some_iff.1 hl).1
  rw [fuPulse_nat hl hs, fuAt_nat hl hs]
  refine fuAt_nat (l := l.set j (fuPl l[j] cut)) (by rw [List.getElem?_set, if_pos rfl, if_pos hk]) (by rw [List.getElem?_set, if_pos rfl, if_pos hj])
theorem hits_done : ∀ (l : List FHit) (bs : List (List UInt8)) (b c : Int), fuEx bs b c = true → (fuAt bs b c).toNat ≤ 3 → (⟨b, c, false⟩ : FHit) ∈ l → Done (fuAt (fuHits bs l) b c)
  | h :: l, bs, b, c, hx, h3, hm => by
    have hr := Rel.pulse Hit1.refl bs h.b h.c h.cut (fun s => Hit1.pl s h.cut)
    have hx' : fuEx (fuPulse bs h.b h.c h.cut) b c = true := by rw [← hr.ex]; exact hx
    rcases List.mem_cons.1 hm with e | hm
    · subst e
      have h1 : Done (fuAt (fuPulse bs b c false) b c) := by rw [pulse_at hx]; exact Done.pl h3
      exact Done.hit ((hits_rel (fuPulse bs b c false) l).at_ hx') h1
    · refine hits_done l (fuPulse bs h.b h.c h.cut) b c hx' ?_ hm
      have := (hr.at_ hx).2.1
      omega
theorem hits_done2 (bs : List (List UInt8)) (o l : List FHit) (b c : Int) (hx : fuEx bs b c = true) (h3 : (fuAt bs b c).toNat ≤ 3) (hm : (⟨b, c, false⟩ : FHit) ∈ l) : Done (fuAt (fuHits (fuHits (fuHits bs o) l) o) b c) := by
  have hr := hits_rel bs o
  have hx1 : fuEx (fuHits bs o) b c = true := by rw [← hr.ex]; exact hx
  have hr2 := hits_rel (fuHits bs o) l
  have hx2 : fuEx (fuHits (fuHits bs o) l) b c = true := by rw [← hr2.ex]; exact hx1
  have h4 : (fuAt (fuHits bs o) b c).toNat ≤ 3 := by
    have := (hr.at_ hx).2.1
    omega
  exact Done.hit ((hits_rel _ o).at_ hx2) (hits_done l _ b c hx1 h4 hm)
theorem three_done {x y z : UInt8} (hx : Done x) (hy : Done y) (hz : Done z) (h : ¬ 1 < [x, y, z].count 3) (n : Bool) : 2 ≤ (if fuRd x n then 1 else 0) + (if fuRd y n then 1 else 0) + (if fuRd z n then (1 : Int) else 0) := by
  rcases hx with rfl | rfl <;> rcases hy with rfl | rfl <;> rcases hz with rfl | rfl <;> first | (exact absurd (by decide) h) | (cases n <;> decide)
/-- If all cells of the first m bits of a bank are blown or stuck, and the fuses are sound, the least level is at least m. -/
theorem raise_level {cs : List (List UInt8)} {b : Nat} {l : List UInt8} (hl : cs[b]? = some l) (hs : fuSound cs = true) (m : Nat) (hm : 3 * m ≤ l.length) (hd : ∀ j, j < 3 * m → Done (fuAt cs (b : Int) (j : Int))) : (m : Int) ≤ fuLevel cs (b : Int) false := by
  rw [fuLevel_nat hl]
  have hu : fuUns l = false := by
    unfold fuSound at hs
    rw [Bool.not_eq_true', List.any_eq_false] at hs
    have := hs l (List.mem_of_getElem? hl)
    simpa using this
  have := fuLev_ge (fun k => fuRead cs (b : Int) (k : Int) false) m (fun i hi => by
    have h0 : 3 * i < l.length := by omega
    have h1 : 3 * i + 1 < l.length := by omega
    have h2 : 3 * i + 2 < l.length := by omega
    have g0 : l[3 * i]? = some l[3 * i] := List.getElem?_eq_getElem h0
    have g1 : l[3 * i + 1]? = some l[3 * i + 1] := List.getElem?_eq_getElem h1
    have g2 : l[3 * i + 2]? = some l[3 * i + 2] := List.getElem?_eq_getElem h2
    have d0 := hd (3 * i) (by omega)
    have d1 := hd (3 * i + 1) (by omega)
    have d2 := hd (3 * i + 2) (by omega)
    rw [fuAt_nat hl g0] at d0
    rw [fuAt_nat hl g1] at d1
    rw [fuAt_nat hl g2] at d2
    have hbit : fuBit l i = [l[3 * i], l[3 * i + 1], l[3 * i + 2]] := by
      unfold fuBit
      rw [List.drop_eq_getElem_cons h0, List.drop_eq_getElem_cons h1, List.drop_eq_getElem_cons h2]
      rfl
    have hc : ¬ 1 < [l[3 * i], l[3 * i + 1], l[3 * i + 2]].count 3 := by
      unfold fuUns at hu
      rw [List.any_eq_false] at hu
      have := hu i (List.mem_range.2 (by omega))
      rw [decide_eq_true_eq] at this
      unfold fuStk at this
      rw [hbit] at this
      exact this
    have e0 : fuEx cs (b : Int) ((3 * i : Nat) : Int) = true := by rw [fuEx_nat hl]; exact decide_eq_true h0
    have e1 : fuEx cs (b : Int) ((3 * i + 1 : Nat) : Int) = true := by rw [fuEx_nat hl]; exact decide_eq_true h1
    have e2 : fuEx cs (b : Int) ((3 * i + 2 : Nat) : Int) = true := by rw [fuEx_nat hl]; exact decide_eq_true h2
    show 2 ≤ fuRead cs (b : Int) ((3 * i : Nat) : Int) false + fuRead cs (b : Int) ((3 * i + 1 : Nat) : Int) false + fuRead cs (b : Int) ((3 * i + 2 : Nat) : Int) false
    rw [fuRead_in e0, fuRead_in e1, fuRead_in e2, fuAt_nat hl g0, fuAt_nat hl g1, fuAt_nat hl g2]
    exact three_done d0 d1 d2 hc false) (l.length / 3) 0 (by omega) (by omega)
  omega
/-- A blown cell reads as 1 and a stuck one as 0, whatever is pulsed. -/
theorem hits_blown {bs : List (List UInt8)} {b c : Int} (hx : fuEx bs b c = true) (h : fuAt bs b c = 2) (l : List FHit) (z : Bool) : fuRead (fuHits bs l) b c z = 1 := by
  have hr := hits_rel bs l
  have hx' : fuEx (fuHits bs l) b c = true := by rw [← hr.ex]; exact hx
  rw [fuRead_in hx', (hr.at_ hx).2.2.2 h]
  rfl
theorem hits_stuck {bs : List (List UInt8)} {b c : Int} (hx : fuEx bs b c = true) (h : fuAt bs b c = 3) (l : List FHit) (z : Bool) : fuRead (fuHits bs l) b c z = 0 := by
  have hr := hits_rel bs l
  have hx' : fuEx (fuHits bs l) b c = true := by rw [← hr.ex]; exact hx
  rw [fuRead_in hx', (hr.at_ hx).2.2.1.1 h]
  cases z <;> rfl
theorem hits_err {bs : List (List UInt8)} {b c : Int} (hx : fuEx bs b c = true) (l : List FHit) : fuErr (fuHits bs l) b c = 0 := fuErr_in (by rw [← (hits_rel bs l).ex]; exact hx)
theorem fuNew_valid (bits : List Int) : fuValid (fuNew bits) = true := by
  unfold fuNew
  by_cases h : fuNewBad bits = true
  · rw [if_pos h]; rfl
  · rw [if_neg h]
    unfold fuNewBad at h
    rw [Bool.not_eq_true, Bool.or_eq_false_iff, decide_eq_false_iff_not, List.any_eq_false] at h
    unfold fuValid
    rw [List.length_map, decide_eq_true (by omega), Bool.true_and, Bool.not_eq_true', List.any_eq_false]
    intro l hl
    obtain ⟨n, hn, rfl⟩ := List.mem_map.1 hl
    have hb := h.2 n hn
    rw [Bool.not_eq_true, Bool.or_eq_false_iff, decide_eq_false_iff_not, decide_eq_false_iff_not] at hb
    unfold fuBad
    rw [List.length_replicate, Bool.not_eq_true, Bool.or_eq_false_iff, Bool.or_eq_false_iff]
    refine ⟨by simp, decide_eq_false (by omega), ?_⟩
    rw [List.any_eq_false]
    intro s hs
    obtain ⟨_, rfl⟩ := List.mem_replicate.1 hs
    decide
end Go.Proofs.Ytfcbcclcmgheeaa
