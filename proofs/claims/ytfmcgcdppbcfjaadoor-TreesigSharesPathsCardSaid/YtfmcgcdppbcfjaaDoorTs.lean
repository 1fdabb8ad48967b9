/-
  What package treesig comes to, without a program. No condition.
-/
import Derived.Test.YtfmcgcdppbcfjaaDoorWots
import Derived.Test.YtfmcgcdppbcfjaaDoorR3M
namespace Go.Proofs.YtfmcgcdppbcfjaaDoor
open Go.RowKit

/-- The number of one-time keys; none if the height is not valid. -/
def tMany (h : Int) : Nat := if 0 ≤ h ∧ h ≤ 4 then 2 ^ h.toNat else 0
theorem tMany_nat (h : Nat) (h4 : h ≤ 4) : tMany (h : Int) = 2 ^ h := by
  unfold tMany
  rw [if_pos (by omega), Int.toNat_natCast]
theorem tMany_bad {h : Int} (hb : ¬ (0 ≤ h ∧ h ≤ 4)) : tMany h = 0 := if_neg hb
theorem tMany_cases (h : Int) : tMany h = 0 ∨ ∃ k : Nat, k ≤ 4 ∧ h = (k : Int) ∧ tMany h = 2 ^ k := by
  by_cases hv : 0 ≤ h ∧ h ≤ 4
  · refine Or.inr ⟨h.toNat, by omega, by omega, ?_⟩
    unfold tMany
    rw [if_pos hv]
  · exact Or.inl (tMany_bad hv)
theorem two_le16 {k : Nat} (h : k ≤ 4) : 2 ^ k ≤ 16 := Nat.pow_le_pow_right (by omega) h
theorem tMany_le (h : Int) : tMany h ≤ 16 := by
  rcases tMany_cases h with e | ⟨k, hk, _, e⟩
  · omega
  · rw [e]; exact two_le16 hk
theorem tMany_valid {h : Int} (hp : tMany h ≠ 0) : 0 ≤ h ∧ h ≤ 4 := by
  rcases tMany_cases h with e | ⟨k, hk, rfl, _⟩
  · exact absurd e hp
  · omega
/-- The one-time public keys. -/
def tKeys (seed : List UInt8) (n : Nat) : List (List UInt8) := (List.range n).map fun i : Nat => wPub seed (i : Int)
theorem tKeys_len (seed : List UInt8) (n : Nat) : (tKeys seed n).length = n := by simp [tKeys]
theorem wPub_len (seed : List UInt8) (index : Int) : (wPub seed index).length = 16 := by unfold wPub digestB; rw [List.length_take, sha_len]; rfl
theorem wKey_len (msg : List UInt8) (c : List (List UInt8)) : (wKey msg c).length = 16 := by unfold wKey digestB; rw [List.length_take, sha_len]; rfl
theorem tKeys_16 (seed : List UInt8) (n : Nat) : Len16 (tKeys seed n) := by
  intro d hd
  obtain ⟨i, _, rfl⟩ := List.mem_map.1 hd
  exact wPub_len _ _
theorem tKeys_at (seed : List UInt8) {n i : Nat} (h : i < n) : (tKeys seed n)[i]? = some (wPub seed (i : Int)) := by simp [tKeys, h]
theorem tKeys_succ (seed : List UInt8) (n : Nat) : tKeys seed (n + 1) = tKeys seed n ++ [wPub seed (n : Int)] := by
  unfold tKeys
  rw [List.range_succ, List.map_append]
  rfl
theorem wSign_16 (seed : List UInt8) (index : Int) (msg : List UInt8) : Len16 (wSign seed index msg) := by
  intro d hd
  obtain ⟨i, _, rfl⟩ := List.mem_map.1 hd
  exact wAdv_len _ (wStart_len _ _ _) _
def zero16T : List UInt8 := List.replicate 16 0
/-- What Root returns. -/
def tRoot (seed : List UInt8) (h : Int) : List UInt8 := if tMany h = 0 then zero16T else root (tKeys seed (tMany h))
def tRootE (h : Int) : Int := if tMany h = 0 then 1 else 0
theorem tRoot_len (seed : List UInt8) (h : Int) : (tRoot seed h).length = 16 := by
  unfold tRoot
  split
  · rfl
  · exact root_len _
/-- What Sign returns: the error, the index, the chain, the path. -/
def tErr (h idx : Int) : Int := if tMany h = 0 ∨ idx < 0 then 1 else if (tMany h : Int) ≤ idx then 17 else 0
def tIdx (h idx : Int) : Int := if tErr h idx = 0 then idx else 0
def tChain (seed : List UInt8) (h idx : Int) (msg : List UInt8) : List (List UInt8) := if tErr h idx = 0 then wSign seed idx msg else []
def tPath (seed : List UInt8) (h idx : Int) : List (List UInt8) := if tErr h idx = 0 then mProof (tKeys seed (tMany h)) idx.toNat else []
theorem tErr_ok {h idx : Int} (h0 : 0 ≤ idx) (h1 : idx < tMany h) : tErr h idx = 0 := by
  unfold tErr
  rw [if_neg (by omega), if_neg (by omega)]
theorem tErr_arg {h idx : Int} (hb : tMany h = 0 ∨ idx < 0) : tErr h idx = 1 := if_pos hb
theorem tErr_out {h idx : Int} (hm : tMany h ≠ 0) (h0 : 0 ≤ idx) (h1 : (tMany h : Int) ≤ idx) : tErr h idx = 17 := by
  unfold tErr
  rw [if_neg (by omega), if_pos h1]
theorem tErr_cases (h idx : Int) : tErr h idx = 1 ∧ (tMany h = 0 ∨ idx < 0) ∨ tErr h idx = 17 ∧ tMany h ≠ 0 ∧ 0 ≤ idx ∧ (tMany h : Int) ≤ idx ∨ tErr h idx = 0 ∧ 0 ≤ idx ∧ idx < tMany h := by
  by_cases h1 : tMany h = 0 ∨ idx < 0
  · exact Or.inl ⟨tErr_arg h1, h1⟩
  · by_cases h2 : (tMany h : Int) ≤ idx
    · exact Or.inr (Or.inl ⟨tErr_out (by omega) (by omega) h2, by omega, by omega, h2⟩)
    · exact Or.inr (Or.inr ⟨tErr_ok (by omega) (by omega), by omega, by omega⟩)
theorem tChain_16 (seed : List UInt8) (h idx : Int) (msg : List UInt8) : Len16 (tChain seed h idx msg) := by
  unfold tChain
  split
  · exact wSign_16 _ _ _
  · intro d hd; simp at hd
theorem tPath_16 (seed : List UInt8) (h idx : Int) : Len16 (tPath seed h idx) := by
  unfold tPath
  split
  · exact mProof_16 _ _
  · intro d hd; simp at hd
theorem tChain_le (seed : List UInt8) (h idx : Int) (msg : List UInt8) : (tChain seed h idx msg).length ≤ 68 := by
  unfold tChain
  split
  · rw [wSign_len]; exact Nat.le_refl _
  · exact Nat.zero_le _
theorem tPath_le (seed : List UInt8) (h idx : Int) : (tPath seed h idx).length ≤ 10 := by
  unfold tPath
  split
  · exact mProof_len (tKeys_len _ _) (by have := tMany_le h; omega)
  · exact Nat.zero_le _
/-- What Verify reports. -/
def tVerify (rt : List UInt8) (h : Int) (msg : List UInt8) (idx : Int) (c p : List (List UInt8)) : Bool :=
  decide (0 ≤ idx ∧ idx < (tMany h : Int)) && ((c.length == 68) && mVerify rt (wKey msg c) p (tMany h) idx.toNat)
theorem tVerify_out {rt : List UInt8} {h : Int} {msg : List UInt8} {idx : Int} {c p : List (List UInt8)} (ho : ¬ (0 ≤ idx ∧ idx < (tMany h : Int))) : tVerify rt h msg idx c p = false := by
  unfold tVerify
  rw [decide_eq_false ho, Bool.false_and]
theorem tVerify_in {rt : List UInt8} {h : Int} {msg : List UInt8} {idx : Int} {c p : List (List UInt8)} (ho : 0 ≤ idx ∧ idx < (tMany h : Int)) : tVerify rt h msg idx c p = ((c.length == 68) && mVerify rt (wKey msg c) p (tMany h) idx.toNat) := by
  unfold tVerify
  rw [decide_eq_true ho, Bool.true_and]
theorem tVerify_len {rt : List UInt8} {h : Int} {msg : List UInt8} {idx : Int} {c p : List (List UInt8)} (hc : c.length ≠ 68) : tVerify rt h msg idx c p = false := by
  unfold tVerify
  rw [show (c.length == 68) = false by simpa using hc, Bool.false_and, Bool.and_false]
/-- What Same reports. -/
def tSame (i : Int) (c p : List (List UInt8)) (j : Int) (d q : List (List UInt8)) : Bool := (i == j) && ((c == d) && (p == q))

/-! ## A tree of 2^h leaves -/
theorem split_two (e : Nat) : split (2 ^ (e + 1)) = 2 ^ e := by
  have h := Nat.two_pow_pos e
  exact (split_eq (n := 2 ^ (e + 1)) (e := e) (by rw [Nat.pow_succ]; omega) (by rw [Nat.pow_succ]; omega)).symm
theorem two_le (e : Nat) : 2 ≤ 2 ^ (e + 1) := by
  have h := Nat.two_pow_pos e
  rw [Nat.pow_succ]; omega
theorem bit_low {e j i : Nat} (hj : j < e) (hi : 2 ^ e ≤ i) : (i - 2 ^ e) / 2 ^ j % 2 = i / 2 ^ j % 2 := by
  obtain ⟨r, rfl⟩ : ∃ r, i = 2 ^ e + r := ⟨i - 2 ^ e, by omega⟩
  obtain ⟨s, rfl⟩ : ∃ s, e = j + (s + 1) := ⟨e - j - 1, by omega⟩
  have hp := Nat.two_pow_pos j
  rw [Nat.add_sub_cancel_left, Nat.pow_add, Nat.mul_comm (2 ^ j), Nat.add_comm, Nat.add_mul_div_right _ _ hp, Nat.pow_succ]
  omega
theorem turnsR_two : ∀ (e i : Nat), i < 2 ^ e → (turnsR (2 ^ e) i).reverse = (List.range e).map fun j => decide (i / 2 ^ j % 2 = 1)
  | 0, i, hi => by rw [turnsR_less (by simp)]; rfl
  | e + 1, i, hi => by
    have hp := Nat.two_pow_pos e
    have hs := split_two e
    rw [List.range_succ, List.map_append]
    by_cases hl : i < 2 ^ e
    · rw [turnsR_left (two_le e) (by rw [hs]; exact hl), hs, List.reverse_cons, turnsR_two e i hl]
      congr 1
      simp only [List.map_cons, List.map_nil]
      rw [Nat.div_eq_of_lt hl]
      rfl
    · rw [turnsR_right (two_le e) (by rw [hs]; exact hl), hs, List.reverse_cons, show 2 ^ (e + 1) - 2 ^ e = 2 ^ e by rw [Nat.pow_succ]; omega, turnsR_two e (i - 2 ^ e) (by rw [Nat.pow_succ] at hi; omega)]
      congr 1
      · apply List.map_congr_left
        intro j hj
        rw [bit_low (List.mem_range.1 hj) (by omega)]
      · simp only [List.map_cons, List.map_nil]
        have h1 : i / 2 ^ e = 1 := by
          rw [Nat.pow_succ] at hi
          exact Nat.div_eq_of_lt_le (by omega) (by omega)
        rw [h1]
        rfl
theorem turns_two {e i : Nat} (hi : i < 2 ^ e) : turns (2 ^ e) i = (List.range e).map fun j => decide (i / 2 ^ j % 2 = 1) := turnsR_two e i hi
theorem plen_two {e i : Nat} (hi : i < 2 ^ e) : plen (2 ^ e) i = e := by
  rw [← turns_len, turns_two hi, List.length_map, List.length_range]
theorem turns_bit {e i j : Nat} (hi : i < 2 ^ e) (hj : j < e) : (turns (2 ^ e) i).getD j false = decide (i / 2 ^ j % 2 = 1) := by
  rw [turns_two hi, List.getD_eq_getElem?_getD, List.getElem?_map, List.getElem?_range hj]
  rfl
theorem mProof_two (seed : List UInt8) {e i : Nat} (hi : i < 2 ^ e) : (mProof (tKeys seed (2 ^ e)) i).length = e := by
  unfold mProof
  rw [List.length_reverse, proveR_len _ _ i (Nat.le_refl _), tKeys_len, plen_two hi]
theorem mProof_own {ds : List (List UInt8)} {i : Nat} {d : List UInt8} (hd : ds[i]? = some d) : mVerify (root ds) d (mProof ds i) ds.length i = true := by
  unfold mVerify combL mProof
  rw [List.reverse_reverse, comb_prove ds.length ds i d (Nat.le_refl _) hd]
  simp
/-- What Sign returns verifies. -/
theorem tVerify_own (seed msg : List UInt8) (h : Int) (i : Nat) (hi : i < tMany h) : tVerify (root (tKeys seed (tMany h))) h msg (i : Int) (wSign seed (i : Int) msg) (mProof (tKeys seed (tMany h)) i) = true := by
  rw [tVerify_in (by omega), wSign_len, wKey_sign, Int.toNat_natCast]
  have e := mProof_own (tKeys_at seed hi)
  rw [tKeys_len] at e
  rw [e]
  rfl
/-- A path that is not as long as the tree is high does not verify. -/
theorem tVerify_path {rt : List UInt8} {h : Nat} {msg : List UInt8} {idx : Int} {c p : List (List UInt8)} (h4 : h ≤ 4) (hp : p.length ≠ h) : tVerify rt (h : Int) msg idx c p = false := by
  by_cases ho : 0 ≤ idx ∧ idx < (tMany (h : Int) : Int)
  · rw [tVerify_in ho]
    rw [tMany_nat h h4] at ho ⊢
    rw [mVerify_no (Nat.two_pow_pos h) (by rw [plen_two (by omega)]; exact hp), Bool.and_false]
  · exact tVerify_out ho
/-- What verifies folds to the root, on the sides of the index's bits. -/
theorem tVerify_fold {rt : List UInt8} {h : Int} {msg : List UInt8} {idx : Int} {c p : List (List UInt8)} (hv : tVerify rt h msg idx c p = true) :
    ∃ e i : Nat, e ≤ 4 ∧ h = (e : Int) ∧ idx = (i : Int) ∧ i < 2 ^ e ∧ c.length = 68 ∧ p.length = e ∧ upK (wKey msg c) (turns (2 ^ e) i) p e = rt := by
  by_cases ho : 0 ≤ idx ∧ idx < (tMany h : Int)
  · rcases tMany_cases h with e0 | ⟨e, he, rfl, hm⟩
    · rw [e0] at ho; omega
    · obtain ⟨i, rfl⟩ : ∃ i : Nat, idx = (i : Int) := ⟨idx.toNat, by omega⟩
      have hc : c.length = 68 := by
        by_cases hc : c.length = 68
        · exact hc
        · rw [tVerify_len hc] at hv; cases hv
      have hp : p.length = e := by
        by_cases hp : p.length = e
        · exact hp
        · rw [tVerify_path he hp] at hv; cases hv
      have hi : i < 2 ^ e := by rw [← hm]; omega
      rw [tVerify_in ho, hm, Int.toNat_natCast, mVerify_up (Nat.two_pow_pos e) (by rw [plen_two hi, hp]), hp, Bool.and_eq_true] at hv
      exact ⟨e, i, he, rfl, rfl, hi, hc, hp, by simpa using hv.2⟩
  · rw [tVerify_out ho] at hv; cases hv
end Go.Proofs.YtfmcgcdppbcfjaaDoor
