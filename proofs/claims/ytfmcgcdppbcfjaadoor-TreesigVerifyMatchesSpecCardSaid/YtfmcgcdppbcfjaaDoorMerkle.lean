/-
  Merkle trees over lists of digests, without a program: the digest of a tree, proofs, what a proof yields, and the collisions that a wrong proof or two lists of one root exhibit. No condition.
-/
import Derived.Test.YtfmcgcdppbcfjaaDoorHashM
namespace Go.Proofs.YtfmcgcdppbcfjaaDoor

/-- The digest of a tag and of some byte strings. -/
def hB (t : Int) (ls : List (List UInt8)) : List UInt8 := (sha (tagB t :: encParts ls)).take 16
theorem dig_hB (t : Int) (ps : List Part) : dig t ps = hB t (ps.map Part.l) := rfl
theorem hB_len (t : Int) (ls : List (List UInt8)) : (hB t ls).length = 16 := by unfold hB; rw [List.length_take, sha_len]; rfl
def mNone : List UInt8 := hB 1 []
def mLeaf (d : List UInt8) : List UInt8 := hB 1 [d]
def mNode (l r : List UInt8) : List UInt8 := hB 2 [l, r]
theorem mNone_len : mNone.length = 16 := hB_len _ _
theorem mLeaf_len (d : List UInt8) : (mLeaf d).length = 16 := hB_len _ _
theorem mNode_len (l r : List UInt8) : (mNode l r).length = 16 := hB_len _ _

/-- The largest power of two that is less than n. -/
def split (n : Nat) : Nat := 2 ^ Nat.log2 (n - 1)
theorem split_pos (n : Nat) : 0 < split n := Nat.two_pow_pos _
theorem split_lt {n : Nat} (h : 2 ≤ n) : split n < n := by
  have := Nat.log2_self_le (n := n - 1) (by omega)
  unfold split
  omega
theorem split_half {n : Nat} (h : 2 ≤ n) : n ≤ 2 * split n := by
  have := Nat.lt_log2_self (n := n - 1)
  unfold split
  rw [Nat.pow_succ] at this
  omega
theorem split_eq {n e : Nat} (h1 : 2 ^ e < n) (h2 : n ≤ 2 * 2 ^ e) : 2 ^ e = split n := by
  unfold split
  congr 1
  have h3 : n - 1 ≠ 0 := by have := Nat.two_pow_pos e; omega
  exact ((Nat.log2_eq_iff h3).2 ⟨by omega, by rw [Nat.pow_succ]; omega⟩).symm

/-- The digest of the tree over the leaves. -/
def root (l : List (List UInt8)) : List UInt8 :=
  if _h : 2 ≤ l.length then mNode (root (l.take (split l.length))) (root (l.drop (split l.length)))
  else match l with
    | [] => mNone
    | d :: _ => mLeaf d
termination_by l.length
decreasing_by
  · rw [List.length_take]; have := split_lt ‹_›; omega
  · rw [List.length_drop]; have := split_pos l.length; omega
theorem root_nil : root [] = mNone := by rw [root]; simp
theorem root_one (d : List UInt8) : root [d] = mLeaf d := by rw [root]; simp
theorem root_more {l : List (List UInt8)} (h : 2 ≤ l.length) : root l = mNode (root (l.take (split l.length))) (root (l.drop (split l.length))) := by rw [root, dif_pos h]
theorem root_len (l : List (List UInt8)) : (root l).length = 16 := by
  by_cases h : 2 ≤ l.length
  · rw [root_more h]; exact mNode_len _ _
  · match l with
    | [] => rw [root_nil]; exact mNone_len
    | [d] => rw [root_one]; exact mLeaf_len d
    | _ :: _ :: _ => simp at h
theorem take_len {α : Type} {l : List α} (h : 2 ≤ l.length) : (l.take (split l.length)).length = split l.length := by
  rw [List.length_take]; have := split_lt h; omega
theorem one_of {α : Type} {l : List α} (h1 : ¬ 2 ≤ l.length) (h2 : 0 < l.length) : ∃ d, l = [d] := by
  match l with
  | [] => simp at h2
  | [d] => exact ⟨d, rfl⟩
  | _ :: _ :: _ => simp at h1

/-- The inclusion proof, from the root down. -/
def proveR (l : List (List UInt8)) (i : Nat) : List (List UInt8) :=
  if _h : 2 ≤ l.length then
    if i < split l.length then root (l.drop (split l.length)) :: proveR (l.take (split l.length)) i
    else root (l.take (split l.length)) :: proveR (l.drop (split l.length)) (i - split l.length)
  else []
termination_by l.length
decreasing_by
  · rw [List.length_take]; have := split_lt ‹_›; omega
  · rw [List.length_drop]; have := split_pos l.length; omega
theorem proveR_less {l : List (List UInt8)} (h : ¬ 2 ≤ l.length) (i : Nat) : proveR l i = [] := by rw [proveR, dif_neg h]
theorem proveR_left {l : List (List UInt8)} (h : 2 ≤ l.length) {i : Nat} (hi : i < split l.length) : proveR l i = root (l.drop (split l.length)) :: proveR (l.take (split l.length)) i := by rw [proveR, dif_pos h, if_pos hi]
theorem proveR_right {l : List (List UInt8)} (h : 2 ≤ l.length) {i : Nat} (hi : ¬ i < split l.length) : proveR l i = root (l.take (split l.length)) :: proveR (l.drop (split l.length)) (i - split l.length) := by rw [proveR, dif_pos h, if_neg hi]

/-- What a proof (from the root down) yields, and whether it has the right length. -/
def zero16B : List UInt8 := List.replicate 16 0
def comb (leaf : List UInt8) : List (List UInt8) → Nat → Nat → List UInt8 × Bool
  | [], n, _ => if n = 1 then (mLeaf leaf, true) else (zero16B, false)
  | s :: r, n, i =>
    if n = 1 then (mLeaf leaf, false)
    else if i < split n then (mNode (comb leaf r (split n) i).1 s, (comb leaf r (split n) i).2)
    else (mNode s (comb leaf r (n - split n) (i - split n)).1, (comb leaf r (n - split n) (i - split n)).2)
theorem comb_len (leaf : List UInt8) (r : List (List UInt8)) (n i : Nat) : (comb leaf r n i).1.length = 16 := by
  cases r with
  | nil => unfold comb; split <;> first | exact mLeaf_len _ | rfl
  | cons s r =>
    unfold comb
    split
    · exact mLeaf_len _
    · split <;> exact mNode_len _ _
/-- The length of a path. -/
def plen (n i : Nat) : Nat :=
  if _h : 2 ≤ n then (if i < split n then plen (split n) i else plen (n - split n) (i - split n)) + 1 else 0
termination_by n
decreasing_by
  · exact split_lt ‹_›
  · have := split_pos n; omega
theorem comb_ok (leaf : List UInt8) (r : List (List UInt8)) : ∀ n i, 1 ≤ n → (comb leaf r n i).2 = decide (r.length = plen n i) := by
  induction r with
  | nil =>
    intro n i hn
    rw [comb, plen]
    by_cases h : n = 1
    · simp [h]
    · rw [if_neg h, dif_pos (by omega)]; simp
  | cons s r ih =>
    intro n i hn
    rw [comb, plen]
    by_cases h : n = 1
    · simp [h]
    · rw [if_neg h, dif_pos (by omega)]
      have h1 := split_pos n
      have h2 := split_lt (n := n) (by omega)
      by_cases hi : i < split n
      · rw [if_pos hi, if_pos hi, ih _ _ (by omega)]; simp
      · rw [if_neg hi, if_neg hi, ih _ _ (by omega)]; simp
theorem proveR_len (m : Nat) : ∀ (l : List (List UInt8)) (i : Nat), l.length ≤ m → (proveR l i).length = plen l.length i := by
  induction m with
  | zero => intro l i h; rw [proveR_less (by omega), plen, dif_neg (by omega)]; rfl
  | succ m ih =>
    intro l i hm
    by_cases h : 2 ≤ l.length
    · have h1 := split_pos l.length
      have h2 := split_lt h
      rw [plen, dif_pos h]
      by_cases hi : i < split l.length
      · rw [proveR_left h hi, if_pos hi, List.length_cons, ih _ _ (by rw [take_len h]; omega), take_len h]
      · rw [proveR_right h hi, if_neg hi, List.length_cons, ih _ _ (by rw [List.length_drop]; omega), List.length_drop]
    · rw [proveR_less h, plen, dif_neg h]; rfl
theorem plen_le (d : Nat) : ∀ n i, n ≤ 2 ^ d → plen n i ≤ d := by
  induction d with
  | zero => intro n i h; rw [plen, dif_neg (by omega)]; omega
  | succ d ih =>
    intro n i hn
    rw [plen]
    by_cases h : 2 ≤ n
    · have h1 : split n ≤ 2 ^ d := by
        unfold split
        refine Nat.pow_le_pow_right (by omega) ?_
        have := (Nat.log2_lt (n := n - 1) (by omega) (k := d + 1)).2 (by omega)
        omega
      have h2 := split_half h
      rw [dif_pos h]
      split
      · have := ih (split n) i h1; omega
      · have := ih (n - split n) (i - split n) (by omega); omega
    · rw [dif_neg h]; omega

/-- The proof that Prove returns yields the root. -/
theorem comb_prove (m : Nat) : ∀ (l : List (List UInt8)) (i : Nat) (d : List UInt8), l.length ≤ m → l[i]? = some d → comb d (proveR l i) l.length i = (root l, true) := by
  induction m with
  | zero => intro l i d h hd; rw [List.eq_nil_of_length_eq_zero (l := l) (by omega)] at hd; simp at hd
  | succ m ih =>
    intro l i d hm hd
    by_cases h : 2 ≤ l.length
    · have h1 := split_pos l.length
      have h2 := split_lt h
      by_cases hi : i < split l.length
      · have e := ih (l.take (split l.length)) i d (by rw [take_len h]; omega) (by rw [List.getElem?_take_of_lt hi]; exact hd)
        rw [take_len h] at e
        rw [proveR_left h hi, comb, if_neg (by omega), if_pos hi, e, root_more h]
      · have e := ih (l.drop (split l.length)) (i - split l.length) d (by rw [List.length_drop]; omega) (by rw [List.getElem?_drop, show split l.length + (i - split l.length) = i from by omega]; exact hd)
        rw [List.length_drop] at e
        rw [proveR_right h hi, comb, if_neg (by omega), if_neg hi, e, root_more h]
    · have hl : 0 < l.length := by
        rcases Nat.eq_zero_or_pos l.length with h0 | h0
        · rw [List.eq_nil_of_length_eq_zero h0] at hd; simp at hd
        · exact h0
      obtain ⟨x, rfl⟩ := one_of h hl
      have hi : i = 0 := by
        cases i with
        | zero => rfl
        | succ i => simp at hd
      subst hi
      simp at hd
      subst hd
      rw [proveR_less h, comb, root_one]
      rfl

/-- The collision that a proof (from the root down) of another leaf exhibits. -/
def collR (leaf : List UInt8) : List (List UInt8) → List (List UInt8) → Nat → Bool
  | [], l, _ => decide (l.length = 1) && (l.headD [] != leaf && mLeaf (l.headD []) == mLeaf leaf)
  | s :: r, l, i =>
    if 2 ≤ l.length then
      if i < split l.length then
        (((comb leaf r (split l.length) i).1 != root (l.take (split l.length)) || s != root (l.drop (split l.length))) && mNode (comb leaf r (split l.length) i).1 s == mNode (root (l.take (split l.length))) (root (l.drop (split l.length)))) || collR leaf r (l.take (split l.length)) i
      else
        ((s != root (l.take (split l.length)) || (comb leaf r (l.length - split l.length) (i - split l.length)).1 != root (l.drop (split l.length))) && mNode s (comb leaf r (l.length - split l.length) (i - split l.length)).1 == mNode (root (l.take (split l.length))) (root (l.drop (split l.length)))) || collR leaf r (l.drop (split l.length)) (i - split l.length)
    else decide (l.length = 1) && (l.headD [] != leaf && mLeaf (l.headD []) == mLeaf leaf)
theorem collR_one (leaf : List UInt8) (r : List (List UInt8)) (d : List UInt8) (i : Nat) : collR leaf r [d] i = (d != leaf && mLeaf d == mLeaf leaf) := by
  cases r <;> simp [collR]
theorem sound (leaf : List UInt8) (r : List (List UInt8)) : ∀ (l : List (List UInt8)) (i : Nat) (d : List UInt8), l[i]? = some d → comb leaf r l.length i = (root l, true) → d ≠ leaf → collR leaf r l i = true := by
  induction r with
  | nil =>
    intro l i d hd hc hne
    unfold comb at hc
    split at hc
    · rename_i h1
      obtain ⟨x, rfl⟩ := one_of (l := l) (by omega) (by omega)
      have hi : i = 0 := by
        cases i with
        | zero => rfl
        | succ i => simp at hd
      subst hi
      simp at hd
      subst hd
      rw [root_one] at hc
      rw [collR_one]
      injection hc with hc _
      simp [hne, hc]
    · injection hc with _ hc
      cases hc
  | cons s r ih =>
    intro l i d hd hc hne
    unfold comb at hc
    have hl : 0 < l.length := by
      rcases Nat.eq_zero_or_pos l.length with h0 | h0
      · rw [List.eq_nil_of_length_eq_zero h0] at hd; simp at hd
      · exact h0
    split at hc
    · injection hc with _ hc
      cases hc
    · rename_i h1
      have h : 2 ≤ l.length := by omega
      have h1 := split_pos l.length
      have h2 := split_lt h
      rw [root_more h] at hc
      rw [collR, if_pos h]
      by_cases hi : i < split l.length
      · rw [if_pos hi] at hc ⊢
        injection hc with hc1 hc2
        by_cases hq : (comb leaf r (split l.length) i).1 = root (l.take (split l.length)) ∧ s = root (l.drop (split l.length))
        · have e := ih (l.take (split l.length)) i d (by rw [List.getElem?_take_of_lt hi]; exact hd) (by rw [take_len h]; exact Prod.ext hq.1 hc2) hne
          rw [e, Bool.or_true]
        · have e : ((comb leaf r (split l.length) i).1 != root (l.take (split l.length)) || s != root (l.drop (split l.length))) = true := by
            simp only [Bool.or_eq_true, bne_iff_ne, ne_eq]
            by_cases ha : (comb leaf r (split l.length) i).1 = root (l.take (split l.length))
            · exact .inr fun hb => hq ⟨ha, hb⟩
            · exact .inl ha
          rw [e, hc1]
          simp
      · rw [if_neg hi] at hc ⊢
        injection hc with hc1 hc2
        by_cases hq : s = root (l.take (split l.length)) ∧ (comb leaf r (l.length - split l.length) (i - split l.length)).1 = root (l.drop (split l.length))
        · have e := ih (l.drop (split l.length)) (i - split l.length) d (by rw [List.getElem?_drop, show split l.length + (i - split l.length) = i from by omega]; exact hd) (by rw [List.length_drop]; exact Prod.ext hq.2 hc2) hne
          rw [e, Bool.or_true]
        · have e : (s != root (l.take (split l.length)) || (comb leaf r (l.length - split l.length) (i - split l.length)).1 != root (l.drop (split l.length))) = true := by
            simp only [Bool.or_eq_true, bne_iff_ne, ne_eq]
            by_cases ha : s = root (l.take (split l.length))
            · exact .inr fun hb => hq ⟨ha, hb⟩
            · exact .inl ha
          rw [e, hc1]
          simp

/-- The collision that two lists of one root exhibit. -/
def differs (a b : List (List UInt8)) : Bool :=
  if _h : 2 ≤ a.length then
    ((root (a.take (split a.length)) != root (b.take (split a.length)) || root (a.drop (split a.length)) != root (b.drop (split a.length))) && mNode (root (a.take (split a.length))) (root (a.drop (split a.length))) == mNode (root (b.take (split a.length))) (root (b.drop (split a.length))))
      || (differs (a.take (split a.length)) (b.take (split a.length)) || differs (a.drop (split a.length)) (b.drop (split a.length)))
  else match a, b with
    | x :: _, y :: _ => x != y && mLeaf x == mLeaf y
    | _, _ => false
termination_by a.length
decreasing_by
  · rw [List.length_take]; have := split_lt ‹_›; omega
  · rw [List.length_drop]; have := split_pos a.length; omega
theorem differs_nil (b : List (List UInt8)) : differs [] b = false := by rw [differs]; simp
theorem differs_one (x y : List UInt8) : differs [x] [y] = (x != y && mLeaf x == mLeaf y) := by rw [differs]; simp
theorem differs_more {a b : List (List UInt8)} (h : 2 ≤ a.length) : differs a b =
    (((root (a.take (split a.length)) != root (b.take (split a.length)) || root (a.drop (split a.length)) != root (b.drop (split a.length))) && mNode (root (a.take (split a.length))) (root (a.drop (split a.length))) == mNode (root (b.take (split a.length))) (root (b.drop (split a.length))))
      || (differs (a.take (split a.length)) (b.take (split a.length)) || differs (a.drop (split a.length)) (b.drop (split a.length)))) := by rw [differs, dif_pos h]
theorem binding (m : Nat) : ∀ a b : List (List UInt8), a.length ≤ m → a.length = b.length → root a = root b → a ≠ b → differs a b = true := by
  induction m with
  | zero =>
    intro a b hm hl _ hne
    rw [List.eq_nil_of_length_eq_zero (l := a) (by omega), List.eq_nil_of_length_eq_zero (l := b) (by omega)] at hne
    exact absurd rfl hne
  | succ m ih =>
    intro a b hm hl hr hne
    by_cases h : 2 ≤ a.length
    · have h1 := split_pos a.length
      have h2 := split_lt h
      rw [root_more h, root_more (l := b) (by omega), ← hl] at hr
      rw [differs_more h]
      by_cases hq : root (a.take (split a.length)) = root (b.take (split a.length)) ∧ root (a.drop (split a.length)) = root (b.drop (split a.length))
      · by_cases ht : a.take (split a.length) = b.take (split a.length)
        · have hd : a.drop (split a.length) ≠ b.drop (split a.length) := fun hd => hne (by rw [← List.take_append_drop (split a.length) a, ht, hd, List.take_append_drop])
          rw [ih (a.drop (split a.length)) (b.drop (split a.length)) (by rw [List.length_drop]; omega) (by simp [hl]) hq.2 hd]
          simp
        · rw [ih (a.take (split a.length)) (b.take (split a.length)) (by rw [take_len h]; omega) (by simp [hl]) hq.1 ht]
          simp
      · have e : (root (a.take (split a.length)) != root (b.take (split a.length)) || root (a.drop (split a.length)) != root (b.drop (split a.length))) = true := by
          simp only [Bool.or_eq_true, bne_iff_ne, ne_eq]
          by_cases ha : root (a.take (split a.length)) = root (b.take (split a.length))
          · exact .inr fun hb => hq ⟨ha, hb⟩
          · exact .inl ha
        rw [e, hr]
        simp
    · rcases Nat.eq_zero_or_pos a.length with h0 | h0
      · rw [List.eq_nil_of_length_eq_zero h0, List.eq_nil_of_length_eq_zero (l := b) (by omega)] at hne
        exact absurd rfl hne
      · obtain ⟨x, rfl⟩ := one_of h h0
        obtain ⟨y, rfl⟩ := one_of (l := b) (by omega) (by omega)
        rw [root_one, root_one] at hr
        have hxy : x ≠ y := fun e => hne (by rw [e])
        rw [differs_one, hr]
        simp [hxy]
end Go.Proofs.YtfmcgcdppbcfjaaDoor
