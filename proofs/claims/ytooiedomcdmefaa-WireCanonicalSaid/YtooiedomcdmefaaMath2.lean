/-
  Layer 1's integers: what GetInt finds in a list of bytes, against the groups of seven bits. Numbers and lists alone.
-/
import Derived.Test.YtooiedomcdmefaaGets
namespace Go.Proofs.Ytooiedomcdmefaa

/-- The number of a list of groups. -/
def val : List UInt8 → Nat
  | [] => 0
  | c :: t => c.toNat % 128 + 128 * val t
theorem val_leb : ∀ u : Nat, val (leb u) = u := by
  intro u
  induction u using Nat.strongRecOn with
  | _ u ih =>
    by_cases h : u < 128
    · rw [leb_small h]; simp [val]; omega
    · rw [leb_more h, val, ih (u / 128) (by omega)]
      simp
      omega
/-- All bytes but the last announce another one. -/
def Groups (q : List UInt8) (p : List UInt8) (c : UInt8) : Prop := q = p ++ [c] ∧ (∀ x ∈ p, 128 ≤ x.toNat) ∧ c.toNat < 128
theorem leb_groups : ∀ u : Nat, ∃ p c, Groups (leb u) p c ∧ (c.toNat ≠ 0 ∨ p = []) := by
  intro u
  induction u using Nat.strongRecOn with
  | _ u ih =>
    by_cases h : u < 128
    · exact ⟨[], UInt8.ofNat u, ⟨by rw [leb_small h]; rfl, by simp, by simp; omega⟩, .inr rfl⟩
    · obtain ⟨p, c, ⟨h1, h2, h3⟩, h4⟩ := ih (u / 128) (by omega)
      refine ⟨UInt8.ofNat (u % 128 + 128) :: p, c, ⟨by rw [leb_more h, h1]; rfl, ?_, h3⟩, .inl ?_⟩
      · intro x hx
        rcases List.mem_cons.1 hx with rfl | hx
        · simp; omega
        · exact h2 x hx
      · rcases h4 with h4 | rfl
        · exact h4
        · have hv := val_leb (u / 128)
          rw [h1] at hv
          simp [val] at hv
          omega
theorem val_pos (c : UInt8) (h0 : c.toNat ≠ 0) (hc : c.toNat < 128) : ∀ p : List UInt8, 0 < val (p ++ [c])
  | [] => by simp [val]; omega
  | y :: p => by have := val_pos c h0 hc p; rw [List.cons_append, val]; omega
theorem leb_val (p : List UInt8) (c : UInt8) (hp : ∀ x ∈ p, 128 ≤ x.toNat) (hc : c.toNat < 128) (h0 : c.toNat ≠ 0 ∨ p = []) : leb (val (p ++ [c])) = p ++ [c] := by
  induction p with
  | nil =>
    have : val ([] ++ [c]) = c.toNat := by simp [val]; omega
    rw [this, leb_small hc]
    simp
  | cons x p ih =>
    have hc0 : c.toNat ≠ 0 := by rcases h0 with h | h <;> first | exact h | cases h
    have ih := ih (fun y hy => hp y (by simp [hy])) (.inl hc0)
    have hx := hp x (by simp)
    have hx2 := UInt8.toNat_lt x
    have hpos : 0 < val (p ++ [c]) := val_pos c hc0 hc p
    have e : val (x :: p ++ [c]) = x.toNat % 128 + 128 * val (p ++ [c]) := rfl
    rw [e, leb_more (by omega), show (x.toNat % 128 + 128 * val (p ++ [c])) / 128 = val (p ++ [c]) from by omega, ih]
    congr 1
    apply UInt8.toNat_inj.1
    simp
    omega
theorem val_app (p q : List UInt8) : val (p ++ q) = val p + 128 ^ p.length * val q := by
  induction p with
  | nil => simp [val]
  | cons x p ih =>
    rw [List.cons_append, val, val, ih, List.length_cons, Nat.pow_succ, Nat.mul_add, Nat.mul_comm (128 ^ p.length) 128, Nat.mul_assoc]
    omega
theorem val_lt (p : List UInt8) : val p < 128 ^ p.length := by
  induction p with
  | nil => simp [val]
  | cons x p ih => rw [val, List.length_cons, Nat.pow_succ]; omega

theorem getIntGo_groups (c : UInt8) (rest : List UInt8) (hc : c.toNat < 128) : ∀ (p : List UInt8) (i x : Nat), (∀ y ∈ p, 128 ≤ y.toNat) → i + p.length ≤ 9 →
    getIntGo i x (p ++ c :: rest) = if i + p.length = 9 ∧ 1 < c.toNat then (0, 0, 7) else if c.toNat = 0 ∧ 0 < i + p.length then (0, 0, 7) else (unzz (x + 2 ^ (7 * i) * val (p ++ [c])), i + p.length + 1, 0) := by
  intro p
  induction p with
  | nil =>
    intro i x _ _
    rw [List.nil_append, getIntGo, List.length_nil, Nat.add_zero]
    rw [if_neg (show ¬ 128 ≤ c.toNat by omega)]
    have : val ([] ++ [c]) = c.toNat % 128 := by simp [val]
    rw [this, Nat.mul_comm (2 ^ (7 * i))]
    simp only [Nat.add_zero]
  | cons y p ih =>
    intro i x hp hi
    have hy := hp y (by simp)
    rw [List.length_cons] at hi
    rw [List.cons_append, getIntGo, if_neg (by omega), if_pos hy, ih (i + 1) _ (fun z hz => hp z (by simp [hz])) (by omega), List.length_cons]
    have e1 : i + 1 + p.length = i + (p.length + 1) := by omega
    have e2 : x + y.toNat % 128 * 2 ^ (7 * i) + 2 ^ (7 * (i + 1)) * val (p ++ [c]) = x + 2 ^ (7 * i) * val (y :: p ++ [c]) := by
      have e3 : val (y :: p ++ [c]) = y.toNat % 128 + 128 * val (p ++ [c]) := rfl
      rw [e3, show 7 * (i + 1) = 7 * i + 7 from by omega, Nat.pow_add, Nat.mul_add, Nat.mul_comm (y.toNat % 128), Nat.mul_assoc, show (2 : Nat) ^ 7 = 128 from rfl]
      omega
    rw [e1, e2]
theorem getIntGo_more : ∀ (p : List UInt8) (i x : Nat), (∀ y ∈ p, 128 ≤ y.toNat) → i + p.length ≤ 9 → getIntGo i x p = (0, 0, 6) := by
  intro p
  induction p with
  | nil => intro i x _ _; rfl
  | cons y p ih =>
    intro i x hp hi
    rw [List.length_cons] at hi
    rw [getIntGo, if_neg (by omega), if_pos (hp y (by simp)), ih _ _ (fun z hz => hp z (by simp [hz])) (by omega)]
theorem getIntGo_ten : ∀ (p : List UInt8) (i x : Nat) (rest : List UInt8), (∀ y ∈ p, 128 ≤ y.toNat) → i + p.length = 10 → i ≤ 9 → getIntGo i x (p ++ rest) = (0, 0, 7) := by
  intro p
  induction p with
  | nil => intro i x _ _ h1 h2; simp at h1; omega
  | cons y p ih =>
    intro i x rest hp hi h9
    have hy := hp y (by simp)
    rw [List.length_cons] at hi
    rw [List.cons_append, getIntGo]
    by_cases h : i = 9
    · rw [if_pos ⟨h, by omega⟩]
    · rw [if_neg (by omega), if_pos hy, ih _ _ _ (fun z hz => hp z (by simp [hz])) (by omega) (by omega)]

/-- THE ROUND TRIP: whatever follows. -/
theorem getInt_encInt (n : Int) (h : I64 n) (tail : List UInt8) : getInt (encInt n ++ tail) = (n, (encInt n).length, 0) := by
  obtain ⟨p, c, ⟨h1, h2, h3⟩, h4⟩ := leb_groups (zz n)
  have hz := zz_lt n h.1 h.2
  have hl := leb_le10 (zz n) hz
  have hv := val_leb (zz n)
  rw [h1] at hv hl
  have hlen : p.length ≤ 9 := by simp at hl; omega
  have hg := getIntGo_groups c tail h3 p 0 0 h2 (by omega)
  unfold getInt encInt
  rw [h1, List.append_assoc, List.singleton_append, hg, hv]
  have c1 : ¬ (0 + p.length = 9 ∧ 1 < c.toNat) := by
    rintro ⟨e, hc⟩
    rw [val_app, show p.length = 9 from by omega] at hv
    simp [val] at hv
    omega
  have c2 : ¬ (c.toNat = 0 ∧ 0 < 0 + p.length) := by
    rintro ⟨e, hp⟩
    rcases h4 with h4 | h4
    · exact h4 e
    · rw [h4] at hp; simp at hp
  rw [if_neg c1, if_neg c2]
  simp [unzz_zz]
/-- A PROPER PREFIX. -/
theorem getInt_prefix (n : Int) (h : I64 n) (k : Nat) (hk : k < (encInt n).length) : getInt ((encInt n).take k) = (0, 0, 6) := by
  obtain ⟨p, c, ⟨h1, h2, h3⟩, h4⟩ := leb_groups (zz n)
  have hl := leb_le10 (zz n) (zz_lt n h.1 h.2)
  unfold encInt at hk ⊢
  rw [h1] at hk hl ⊢
  simp at hk hl
  rw [List.take_append_of_le_length (by omega)]
  exact getIntGo_more _ 0 0 (fun y hy => h2 y (List.mem_of_mem_take hy)) (by have := List.length_take_le k p; omega)

/-- The bytes up to the first one below 128, if it is among the first ten. -/
theorem split_first : ∀ (l : List UInt8) (k : Nat), (∃ p c rest, l = p ++ c :: rest ∧ (∀ y ∈ p, 128 ≤ y.toNat) ∧ c.toNat < 128 ∧ p.length < k) ∨ (∀ y ∈ l.take k, 128 ≤ y.toNat) := by
  intro l
  induction l with
  | nil => intro k; right; simp
  | cons x l ih =>
    intro k
    cases k with
    | zero => right; simp
    | succ k =>
      by_cases hx : 128 ≤ x.toNat
      · rcases ih k with ⟨p, c, rest, h1, h2, h3, h4⟩ | h
        · left
          refine ⟨x :: p, c, rest, by rw [h1]; rfl, ?_, h3, by simp; omega⟩
          intro y hy
          rcases List.mem_cons.1 hy with rfl | hy
          · exact hx
          · exact h2 y hy
        · right
          intro y hy
          rw [List.take_succ_cons] at hy
          rcases List.mem_cons.1 hy with rfl | hy
          · exact hx
          · exact h y hy
      · left
        exact ⟨[], x, l, rfl, by simp, by omega, by simp⟩

/-- WHAT GetInt FINDS, in three cases. -/
theorem getInt_cases (l : List UInt8) :
    (∃ p c rest, l = p ++ c :: rest ∧ (∀ y ∈ p, 128 ≤ y.toNat) ∧ c.toNat < 128 ∧ p.length ≤ 9 ∧
      getInt l = if leb (val (p ++ [c]) % 18446744073709551616) = p ++ [c] then (unzz (val (p ++ [c]) % 18446744073709551616), p.length + 1, 0) else (0, 0, 7)) ∨
    ((∀ y ∈ l, 128 ≤ y.toNat) ∧ l.length < 10 ∧ getInt l = (0, 0, 6)) ∨
    ((∀ y ∈ l.take 10, 128 ≤ y.toNat) ∧ 10 ≤ l.length ∧ getInt l = (0, 0, 7)) := by
  rcases split_first l 10 with ⟨p, c, rest, h1, h2, h3, h4⟩ | h
  · left
    refine ⟨p, c, rest, h1, h2, h3, by omega, ?_⟩
    have hg := getIntGo_groups c rest h3 p 0 0 h2 (by omega)
    unfold getInt
    rw [h1, hg]
    have hva : val (p ++ [c]) = val p + 128 ^ p.length * (c.toNat % 128) := by rw [val_app]; simp [val]
    have hvl := val_lt p
    have hp9 : 128 ^ p.length ≤ 128 ^ 9 := Nat.pow_le_pow_right (by decide) (by omega)
    by_cases c1 : 0 + p.length = 9 ∧ 1 < c.toNat
    · rw [if_pos c1]
      rw [if_neg]
      intro he
      have hv := val_leb (val (p ++ [c]) % 18446744073709551616)
      rw [he] at hv
      rw [show p.length = 9 from by omega] at hva
      omega
    · rw [if_neg c1]
      by_cases c2 : c.toNat = 0 ∧ 0 < 0 + p.length
      · rw [if_pos c2, if_neg]
        intro he
        obtain ⟨p2, c3, ⟨g1, g2, g3⟩, g4⟩ := leb_groups (val (p ++ [c]) % 18446744073709551616)
        rw [he] at g1
        have hcc := List.append_inj' g1 rfl
        obtain ⟨e1, e2⟩ := hcc
        injection e2 with e2
        subst e1 e2
        rcases g4 with g4 | g4
        · exact g4 c2.1
        · rw [g4] at c2; simp at c2
      · rw [if_neg c2]
        have hsmall : val (p ++ [c]) < 18446744073709551616 := by
          rw [hva]
          by_cases hp : p.length = 9
          · rw [hp] at hvl ⊢
            have : c.toNat % 128 ≤ 1 := by omega
            omega
          · have hp8 : 128 ^ p.length ≤ 128 ^ 8 := Nat.pow_le_pow_right (by decide) (by omega)
            have h5 : 128 ^ p.length * (c.toNat % 128) ≤ 128 ^ 8 * 127 := Nat.mul_le_mul hp8 (by omega)
            omega
        rw [Nat.mod_eq_of_lt hsmall, leb_val p c h2 h3 (by
          by_cases hc0 : c.toNat = 0
          · right
            have : ¬ 0 < 0 + p.length := fun h => c2 ⟨hc0, h⟩
            exact List.eq_nil_of_length_eq_zero (by omega)
          · exact .inl hc0), if_pos rfl]
        simp
  · right
    rcases Nat.lt_or_ge l.length 10 with hl | hl
    · left
      rw [List.take_of_length_le (by omega)] at h
      exact ⟨h, hl, getIntGo_more l 0 0 h (by omega)⟩
    · right
      refine ⟨h, hl, ?_⟩
      have := getIntGo_ten (l.take 10) 0 0 (l.drop 10) h (by rw [List.length_take]; omega) (by omega)
      rw [List.take_append_drop] at this
      exact this
/-- CANONICAL: what was consumed is the encoding. -/
theorem getInt_canon (l : List UInt8) (m : Int) (u : Nat) (h : getInt l = (m, u, 0)) : encInt m = l.take u := by
  rcases getInt_cases l with ⟨p, c, rest, h1, h2, h3, h4, h5⟩ | ⟨_, _, h5⟩ | ⟨_, _, h5⟩
  · rw [h5] at h
    split at h
    · rename_i he
      injection h with e1 e2
      injection e2 with e2 e3
      subst e1 e2
      unfold encInt
      rw [zz_unzz, he, h1, show p ++ c :: rest = (p ++ [c]) ++ rest from by simp]
      exact (List.take_left' (by simp)).symm
    · injection h with e1 e2
      injection e2 with e2 e3
      cases e3
  · rw [h5] at h
    injection h with e1 e2
    injection e2 with e2 e3
    cases e3
  · rw [h5] at h
    injection h with e1 e2
    injection e2 with e2 e3
    cases e3
end Go.Proofs.Ytooiedomcdmefaa
