/-
  What layer 1's decoded values satisfy. Numbers and lists alone.
-/
import Derived.Test.YtooiedomcdmefaaLens
namespace Go.Proofs.Ytooiedomcdmefaa
theorem getInts_bd (L : List UInt8) : (getInts L).1.length ≤ L.length ∧ ∀ x ∈ (getInts L).1, I64 x := by
  obtain ⟨l, u, e, h⟩ : ∃ l u e, getInts L = (l, u, e) := ⟨_, _, _, rfl⟩
  by_cases he : e = 0
  · subst he
    have := getInts_canon L l u h
    rw [h]
    exact ⟨this.2.2.2, this.2.2.1⟩
  · have hn : (getInts L).1 = [] := by
      have h2 : (getInts L).2.2 ≠ 0 := by rw [h]; exact he
      unfold getInts at h2 ⊢
      split
      · rfl
      · rename_i h3
        rw [if_neg h3] at h2
        exact (getIntsGo_err L _ _ _ h2).1
    rw [hn]
    simp
theorem getDigsGo_ok (L : List UInt8) : ∀ (k at0 : Nat) (acc : List (List UInt8)), (getDigsGo k at0 L acc).2.2 = 0
  | 0, _, _ => rfl
  | k + 1, at0, acc => by rw [getDigsGo]; exact getDigsGo_ok L k _ _
theorem getDigs_bd (L : List UInt8) : (getDigs L).1.length ≤ L.length ∧ Len16 (getDigs L).1 := by
  obtain ⟨l, u, e, h⟩ : ∃ l u e, getDigs L = (l, u, e) := ⟨_, _, _, rfl⟩
  by_cases he : e = 0
  · subst he
    have := getDigs_canon L l u h
    rw [h]
    exact ⟨this.2.2.2, this.2.2.1⟩
  · have hn : (getDigs L).1 = [] := by
      have h2 : (getDigs L).2.2 ≠ 0 := by rw [h]; exact he
      unfold getDigs at h2 ⊢
      split
      · rfl
      · rename_i h3
        rw [if_neg h3] at h2
        exact absurd (getDigsGo_ok L _ _ _) h2
    rw [hn]
    exact ⟨by simp, fun d hd => by simp at hd⟩


theorem getInt_bd (L : List UInt8) : I64 (getInt L).1 := by
  rcases getInt_ok L with h | h | h
  · exact h.2.1
  · rw [h]; exact ⟨by decide, by decide⟩
  · rw [h]; exact ⟨by decide, by decide⟩
theorem getBytes_bd (L : List UInt8) : (getBytes L).1.length ≤ L.length := by
  unfold getBytes
  split
  · simp
  · rw [List.length_take, List.length_drop]; omega
/-- No error: the consumed bytes, at least one, are the encoding; and never more is consumed than there is. -/
def Cons (e : Int) (u : Nat) (k L : List UInt8) : Prop := (e ≠ 0 ∨ (e = 0 ∧ 0 < u ∧ u ≤ L.length ∧ k = L.take u)) ∧ u ≤ L.length
theorem cons_of {e : Int} {u : Nat} {k L : List UInt8} (hpos : 0 < k.length) (h1 : e = 0 → k = L.take u ∧ u ≤ L.length) (h2 : e ≠ 0 → u = 0) : Cons e u k L := by
  by_cases he : e = 0
  · obtain ⟨g1, g2⟩ := h1 he
    refine ⟨.inr ⟨he, ?_, g2, g1⟩, g2⟩
    rw [g1, List.length_take] at hpos
    omega
  · exact ⟨.inl he, by rw [h2 he]; omega⟩
theorem encInt_pos (n : Int) : 0 < (encInt n).length := leb_pos _
theorem encBytes_pos (s : List UInt8) : 0 < (encBytes s).length := by unfold encBytes; rw [List.length_append]; have := encInt_pos (s.length : Int); omega
theorem encInts_pos (s : List Int) : 0 < (encInts s).length := by unfold encInts; rw [List.length_append]; have := encInt_pos (s.length : Int); omega
theorem encDigs_pos (s : List (List UInt8)) : 0 < (encDigs s).length := by unfold encDigs; rw [List.length_append]; have := encInt_pos (s.length : Int); omega
theorem getInt_cons (L : List UInt8) : Cons (getInt L).2.2 (getInt L).2.1 (encInt (getInt L).1) L := by
  obtain ⟨m, u, e, h⟩ : ∃ m u e, getInt L = (m, u, e) := ⟨_, _, _, rfl⟩
  have hok := getInt_ok L
  rw [h] at hok ⊢
  refine cons_of (encInt_pos m) (fun he => ?_) (fun he => ?_)
  · simp only at he
    subst he
    rcases hok with g | g | g
    · exact ⟨getInt_canon L m u h, g.2.2.2.1⟩
    · injection g with _ g; injection g with _ g; cases g
    · injection g with _ g; injection g with _ g; cases g
  · simp only at he
    rcases hok with g | g | g
    · exact absurd g.1 he
    · injection g with _ g; injection g with g _
    · injection g with _ g; injection g with g _
theorem getBytes_cons (L : List UInt8) : Cons (getBytes L).2.2 (getBytes L).2.1 (encBytes (getBytes L).1) L := by
  obtain ⟨s, u, e, h⟩ : ∃ s u e, getBytes L = (s, u, e) := ⟨_, _, _, rfl⟩
  rw [h]
  refine cons_of (encBytes_pos s) (fun he => ?_) (fun he => ?_)
  · simp only at he; subst he; exact getBytes_canon L s u h
  · simp only at he
    unfold getBytes at h
    split at h
    · injection h with _ g; injection g with g _; exact g.symm
    · injection h with _ g; injection g with _ g; exact absurd g.symm he
theorem getInts_cons (L : List UInt8) : Cons (getInts L).2.2 (getInts L).2.1 (encInts (getInts L).1) L := by
  obtain ⟨s, u, e, h⟩ : ∃ s u e, getInts L = (s, u, e) := ⟨_, _, _, rfl⟩
  rw [h]
  refine cons_of (encInts_pos s) (fun he => ?_) (fun he => ?_)
  · simp only at he; subst he
    have := getInts_canon L s u h
    exact ⟨this.1, this.2.1⟩
  · simp only at he
    unfold getInts at h
    split at h
    · injection h with _ g; injection g with g _; exact g.symm
    · rename_i h3
      have g := getIntsGo_err L _ _ _ (by rw [h]; exact he)
      rw [h] at g
      exact g.2
theorem getDigs_cons (L : List UInt8) : Cons (getDigs L).2.2 (getDigs L).2.1 (encDigs (getDigs L).1) L := by
  obtain ⟨s, u, e, h⟩ : ∃ s u e, getDigs L = (s, u, e) := ⟨_, _, _, rfl⟩
  rw [h]
  refine cons_of (encDigs_pos s) (fun he => ?_) (fun he => ?_)
  · simp only at he; subst he
    have := getDigs_canon L s u h
    exact ⟨this.1, this.2.1⟩
  · simp only at he
    unfold getDigs at h
    split at h
    · injection h with _ g; injection g with g _; exact g.symm
    · have g := getDigsGo_ok L (getLen L 16).1.toNat (getLen L 16).2.1 []
      rw [h] at g
      exact absurd g he
end Go.Proofs.Ytooiedomcdmefaa
