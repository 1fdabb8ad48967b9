/-
  Tokens: the plain functions of layer 12 over lists of bytes, and their laws. No condition.
-/
import Derived.Test.YtgliealofieenaaDoorTl
set_option linter.unusedSimpArgs false
set_option linter.unusedVariables false
namespace Go.Proofs.YtgliealofieenaaDoor

/-! ## Characters -/
def bz (c : UInt8) : Int := (c.toNat : Int)
def lxLet (r : Int) : Bool := (decide (97 ≤ r) && decide (r ≤ 122)) || (decide (65 ≤ r) && decide (r ≤ 90))
def lxDig (r : Int) : Bool := decide (48 ≤ r) && decide (r ≤ 57)
def lxWh (r : Int) : Bool := (r == 9) || (r == 10) || (r == 32)
def lxWd (r : Int) : Bool := lxLet r || lxDig r || (r == 95)
theorem lxLet_iff {r : Int} : lxLet r = true ↔ (97 ≤ r ∧ r ≤ 122) ∨ (65 ≤ r ∧ r ≤ 90) := by unfold lxLet; simp
theorem lxDig_iff {r : Int} : lxDig r = true ↔ 48 ≤ r ∧ r ≤ 57 := by unfold lxDig; simp
theorem lxWh_iff {r : Int} : lxWh r = true ↔ r = 9 ∨ r = 10 ∨ r = 32 := by unfold lxWh; simp [or_assoc]
theorem lxWd_iff {r : Int} : lxWd r = true ↔ ((97 ≤ r ∧ r ≤ 122) ∨ (65 ≤ r ∧ r ≤ 90)) ∨ (48 ≤ r ∧ r ≤ 57) ∨ r = 95 := by unfold lxWd; simp [lxLet_iff, lxDig_iff, or_assoc]
theorem not_of {b : Bool} (h : ¬ b = true) : b = false := by cases b <;> simp_all
theorem lxLet_no {r : Int} (h : ¬ ((97 ≤ r ∧ r ≤ 122) ∨ (65 ≤ r ∧ r ≤ 90))) : lxLet r = false := not_of (mt lxLet_iff.1 h)
theorem lxDig_no {r : Int} (h : ¬ (48 ≤ r ∧ r ≤ 57)) : lxDig r = false := not_of (mt lxDig_iff.1 h)
theorem lxWh_no {r : Int} (h : ¬ (r = 9 ∨ r = 10 ∨ r = 32)) : lxWh r = false := not_of (mt lxWh_iff.1 h)
theorem lxWd_no {r : Int} (h : ¬ (((97 ≤ r ∧ r ≤ 122) ∨ (65 ≤ r ∧ r ≤ 90)) ∨ (48 ≤ r ∧ r ≤ 57) ∨ r = 95)) : lxWd r = false := not_of (mt lxWd_iff.1 h)
theorem wd_of_let {r : Int} (h : lxLet r = true) : lxWd r = true := lxWd_iff.2 (.inl (lxLet_iff.1 h))
theorem wd_of_dig {r : Int} (h : lxDig r = true) : lxWd r = true := lxWd_iff.2 (.inr (.inl (lxDig_iff.1 h)))
theorem wd_of_wh {r : Int} (h : lxWh r = true) : lxWd r = false := lxWd_no (by have := lxWh_iff.1 h; omega)
theorem wh_of_wd {r : Int} (h : lxWd r = true) : lxWh r = false := lxWh_no (by have := lxWd_iff.1 h; omega)
theorem wh_of_let {r : Int} (h : lxLet r = true) : lxWh r = false := wh_of_wd (wd_of_let h)
theorem wh_of_dig {r : Int} (h : lxDig r = true) : lxWh r = false := wh_of_wd (wd_of_dig h)
/-- A byte's class, as the reference says it. -/
def lxCls (c : UInt8) : Int := if lxLet (bz c) = true then 1 else if lxDig (bz c) = true then 2 else if bz c = 95 then 3 else if lxWh (bz c) = true then 4 else 0
theorem cls_let {c : UInt8} : lxCls c = 1 ↔ lxLet (bz c) = true := by
  unfold lxCls; split
  · simp_all
  · split
    · simp_all
    · split
      · simp_all
      · split <;> simp_all
theorem cls_dig {c : UInt8} : lxCls c = 2 ↔ lxDig (bz c) = true := by
  unfold lxCls; split
  · rename_i h
    have := lxLet_iff.1 h
    rw [lxDig_no (by omega)]; simp
  · split
    · simp_all
    · split
      · simp_all
      · split <;> simp_all
theorem cls_us {c : UInt8} : lxCls c = 3 ↔ bz c = 95 := by
  unfold lxCls; split
  · rename_i h
    have := lxLet_iff.1 h
    constructor <;> omega
  · split
    · rename_i h
      have := lxDig_iff.1 h
      constructor <;> omega
    · split
      · simp_all
      · split <;> simp_all
theorem cls_wh {c : UInt8} : lxCls c = 4 ↔ lxWh (bz c) = true := by
  unfold lxCls; split
  · rename_i h
    rw [wh_of_let h]; simp
  · split
    · rename_i h
      rw [wh_of_dig h]; simp
    · split
      · rename_i h
        rw [lxWh_no (by omega)]; simp
      · split <;> simp_all
theorem cls_range (c : UInt8) : lxCls c = 0 ∨ lxCls c = 1 ∨ lxCls c = 2 ∨ lxCls c = 3 ∨ lxCls c = 4 := by unfold lxCls; split <;> (try split) <;> (try split) <;> (try split) <;> simp
theorem cls_wd {c : UInt8} : lxWd (bz c) = true ↔ lxCls c = 1 ∨ lxCls c = 2 ∨ lxCls c = 3 := by
  rw [cls_let, cls_dig, cls_us]; unfold lxWd; simp [or_assoc]

/-! ## Words -/
def wLen : List UInt8 → Nat
  | [] => 0
  | c :: r => if lxWd (bz c) = true then wLen r + 1 else 0
theorem wLen_le : ∀ l, wLen l ≤ l.length
  | [] => Nat.le_refl _
  | c :: r => by unfold wLen; split; exact Nat.succ_le_succ (wLen_le r); exact Nat.zero_le _
theorem wLen_pos {c : UInt8} {r : List UInt8} (h : lxWd (bz c) = true) : 0 < wLen (c :: r) := by unfold wLen; rw [if_pos h]; omega
theorem wLen_all : ∀ l : List UInt8, ∀ c ∈ l.take (wLen l), lxWd (bz c) = true
  | [], c, h => by simp at h
  | x :: r, c, h => by
    unfold wLen at h
    split at h
    · rw [List.take_succ_cons] at h
      rcases List.mem_cons.1 h with rfl | h
      · assumption
      · exact wLen_all r c h
    · simp at h
theorem wLen_app {b : UInt8} (hb : lxWd (bz b) = false) (r : List UInt8) : ∀ l, wLen (l ++ b :: r) = wLen l
  | [] => by rw [List.nil_append]; unfold wLen; rw [hb]; simp
  | c :: l => by rw [List.cons_append]; unfold wLen; rw [wLen_app hb r l]
theorem wLen_full : ∀ {l : List UInt8}, (∀ c ∈ l, lxWd (bz c) = true) → wLen l = l.length
  | [], _ => rfl
  | c :: l, h => by unfold wLen; rw [if_pos (h c (by simp)), wLen_full fun x hx => h x (by simp [hx])]; rfl
theorem wLen_take : ∀ (l : List UInt8), wLen (l.take (wLen l)) = wLen l := fun l => by
  rw [wLen_full (wLen_all l), List.length_take, Nat.min_eq_left (wLen_le l)]
/-- The loop's step and its end. -/
theorem wLen_step {l : List UInt8} {k : Nat} {c : UInt8} (h : wLen l = k + wLen (l.drop k)) (hc : l[k]? = some c) (hw : lxWd (bz c) = true) : wLen l = (k + 1) + wLen (l.drop (k + 1)) := by
  have hk := (List.getElem?_eq_some_iff.1 hc)
  obtain ⟨hlt, he⟩ := hk
  rw [h, List.drop_eq_getElem_cons hlt, he, wLen, if_pos hw]
  omega
theorem wLen_stop {l : List UInt8} {k : Nat} {c : UInt8} (h : wLen l = k + wLen (l.drop k)) (hc : l[k]? = some c) (hw : lxWd (bz c) = false) : wLen l = k := by
  obtain ⟨hlt, he⟩ := List.getElem?_eq_some_iff.1 hc
  rw [h, List.drop_eq_getElem_cons hlt, he, wLen, hw]
  simp
theorem wLen_end {l : List UInt8} {k : Nat} (h : wLen l = k + wLen (l.drop k)) (hk : l.length ≤ k) : wLen l = l.length := by
  have h1 := wLen_le l
  rw [List.drop_of_length_le hk] at h
  simp only [wLen] at h
  omega

/-! ## Numbers -/
def numV (w : List UInt8) : Int := w.foldl (fun n c => 10 * n + (bz c - 48)) 0
theorem numV_snoc (w : List UInt8) (c : UInt8) : numV (w ++ [c]) = 10 * numV w + (bz c - 48) := by unfold numV; rw [List.foldl_append]; rfl
def numLong (w : List UInt8) : Bool := decide (5 < w.length) || (decide (1 < w.length) && (w.head? == some 48))
def numOK (w : List UInt8) : Bool := !numLong w && (w.all fun c => lxDig (bz c)) && decide (numV w < 65536)
theorem numOK_long {w : List UInt8} (h : numLong w = true) : numOK w = false := by unfold numOK; rw [h]; rfl
theorem numOK_bad {w : List UInt8} {c : UInt8} (hc : c ∈ w) (h : lxDig (bz c) = false) : numOK w = false := by
  unfold numOK
  rw [show (w.all fun c => lxDig (bz c)) = false from List.all_eq_false.2 ⟨c, hc, by simp [h]⟩]
  simp
theorem numOK_end {w : List UInt8} (h : numLong w = false) (hd : (w.all fun c => lxDig (bz c)) = true) : numOK w = decide (numV w < 65536) := by unfold numOK; rw [h, hd]; simp
theorem snoc_ind {α : Type} {P : List α → Prop} (h0 : P []) (h1 : ∀ l x, P l → P (l ++ [x])) : ∀ l, P l := by
  intro l
  suffices h : ∀ n, ∀ l : List α, l.length = n → P l from h _ l rfl
  intro n
  induction n with
  | zero => intro l hl; rw [List.eq_nil_of_length_eq_zero hl]; exact h0
  | succ n ih =>
    intro l hl
    have hne : l ≠ [] := by intro e; rw [e] at hl; simp at hl
    rw [← List.dropLast_concat_getLast hne]
    exact h1 _ _ (ih _ (by rw [List.length_dropLast]; omega))
theorem numV_bound : ∀ (w : List UInt8), (∀ c ∈ w, lxDig (bz c) = true) → 0 ≤ numV w ∧ numV w < 10 ^ w.length := by
  refine snoc_ind (fun _ => ⟨Int.le_refl _, by decide⟩) ?_
  intro w c ih h
  obtain ⟨h1, h2⟩ := ih fun x hx => h x (by simp [hx])
  have hc := lxDig_iff.1 (h c (by simp))
  rw [numV_snoc, List.length_append, List.length_singleton, Int.pow_succ]
  omega
theorem numV_small {w : List UInt8} (h : ∀ c ∈ w, lxDig (bz c) = true) (hl : w.length ≤ 5) : 0 ≤ numV w ∧ numV w < 100000 := by
  obtain ⟨h1, h2⟩ := numV_bound w h
  refine ⟨h1, Int.lt_of_lt_of_le h2 ?_⟩
  generalize w.length = n at hl
  match n, hl with
  | 0, _ => decide
  | 1, _ => decide
  | 2, _ => decide
  | 3, _ => decide
  | 4, _ => decide
  | 5, _ => decide

/-! ## Operators and delimiters -/
def two (a b : UInt8) : Bool := (a == 61 && b == 61) || (a == 38 && b == 38) || (a == 124 && b == 124) || (a == 62 && b == 61)
def one (a : UInt8) : Bool := a == 123 || a == 125 || a == 40 || a == 41 || a == 59 || a == 61 || a == 43 || a == 45 || a == 42 || a == 60 || a == 33
def sgn : List UInt8 → Nat
  | [] => 0
  | [a] => if one a = true then 1 else 0
  | a :: b :: _ => if two a b = true then 2 else if one a = true then 1 else 0
def sgs : List (List UInt8) := [[61, 61], [38, 38], [124, 124], [62, 61], [123], [125], [40], [41], [59], [61], [43], [45], [42], [60], [33]]
theorem sgn_one (a : UInt8) : sgn [a] = if one a = true then 1 else 0 := rfl
theorem sgn_two (a b : UInt8) (r : List UInt8) : sgn (a :: b :: r) = if two a b = true then 2 else if one a = true then 1 else 0 := rfl
theorem sgn_le : ∀ l, sgn l ≤ l.length
  | [] => Nat.le_refl _
  | [a] => by rw [sgn_one]; split <;> simp
  | a :: b :: r => by rw [sgn_two]; split; · simp
                      · split <;> simp
theorem two_iff {a b : UInt8} : two a b = true ↔ (a = 61 ∧ b = 61) ∨ (a = 38 ∧ b = 38) ∨ (a = 124 ∧ b = 124) ∨ (a = 62 ∧ b = 61) := by unfold two; simp [or_assoc]
theorem one_iff {a : UInt8} : one a = true ↔ a = 123 ∨ a = 125 ∨ a = 40 ∨ a = 41 ∨ a = 59 ∨ a = 61 ∨ a = 43 ∨ a = 45 ∨ a = 42 ∨ a = 60 ∨ a = 33 := by unfold one; simp [or_assoc]
theorem find_two {a b : UInt8} (r : List UInt8) (h : two a b = true) : sgs.find? (fun g => g.isPrefixOf (a :: b :: r)) = some [a, b] := by
  rcases two_iff.1 h with ⟨rfl, rfl⟩ | ⟨rfl, rfl⟩ | ⟨rfl, rfl⟩ | ⟨rfl, rfl⟩ <;> rfl
theorem find_one {a : UInt8} {r : List UInt8} (h2 : ∀ b, r.head? = some b → two a b = false) (h : one a = true) : sgs.find? (fun g => g.isPrefixOf (a :: r)) = some [a] := by
  rcases one_iff.1 h with rfl | rfl | rfl | rfl | rfl | rfl | rfl | rfl | rfl | rfl | rfl
  all_goals first
    | rfl
    | skip
  cases r with
  | nil => rfl
  | cons b r =>
    have hb : ((61 : UInt8) == b) = false := by
      refine beq_eq_false_iff_ne.2 fun e => ?_
      subst e
      exact absurd (h2 61 rfl) (by decide)
    simp [sgs, List.find?, List.isPrefixOf, hb]
theorem find_none {a : UInt8} {r : List UInt8} (h2 : ∀ b, r.head? = some b → two a b = false) (h : one a = false) : sgs.find? (fun g => g.isPrefixOf (a :: r)) = none := by
  have h1 : ¬ one a = true := by rw [h]; decide
  rw [one_iff] at h1
  have g : ∀ k : UInt8, a ≠ k → ∀ m, List.isPrefixOf (k :: m) (a :: r) = false := fun k hk m => by
    show ((k == a) && List.isPrefixOf m r) = false
    rw [beq_eq_false_iff_ne.2 (Ne.symm hk)]; rfl
  have q : ∀ k j : UInt8, two k j = true → List.isPrefixOf [k, j] (a :: r) = false := fun k j hkj => by
    show ((k == a) && List.isPrefixOf [j] r) = false
    cases r with
    | nil => show ((k == a) && false) = false; simp
    | cons b r =>
      show ((k == a) && ((j == b) && List.isPrefixOf [] r)) = false
      have := h2 b rfl
      by_cases e1 : k = a
      · by_cases e2 : j = b
        · subst e1 e2; rw [hkj] at this; cases this
        · rw [beq_eq_false_iff_ne.2 e2]; simp
      · rw [beq_eq_false_iff_ne.2 e1]; simp
  rw [List.find?_eq_none]
  intro x hx
  simp only [sgs, List.mem_cons, List.not_mem_nil, or_false] at hx
  rcases hx with rfl | rfl | rfl | rfl | rfl | rfl | rfl | rfl | rfl | rfl | rfl | rfl | rfl | rfl | rfl
  · rw [q _ _ (by decide)]; decide
  · rw [q _ _ (by decide)]; decide
  · rw [q _ _ (by decide)]; decide
  · rw [q _ _ (by decide)]; decide
  all_goals (rw [g _ (by rintro rfl; simp at h1)]; decide)
theorem sgn_find (l : List UInt8) : sgs.find? (fun g => g.isPrefixOf l) = if sgn l = 0 then none else some (l.take (sgn l)) := by
  match l with
  | [] => rfl
  | [a] =>
    rw [sgn_one]
    by_cases h : one a = true
    · rw [if_pos h, find_one (by intro b hb; cases hb) h]; rfl
    · rw [if_neg h, find_none (by intro b hb; cases hb) (not_of h)]; rfl
  | a :: b :: r =>
    rw [sgn_two]
    by_cases h2 : two a b = true
    · rw [if_pos h2, find_two r h2]; rfl
    · rw [if_neg h2]
      have h2' : ∀ x, (b :: r).head? = some x → two a x = false := by intro x hx; cases hx; exact not_of h2
      by_cases h : one a = true
      · rw [if_pos h, find_one h2' h]; rfl
      · rw [if_neg h, find_none h2' (not_of h)]; rfl
/-- Where the search stops. -/
theorem sgn_at {l g : List UInt8} {i : Nat} (h : (sgs.drop i).find? (fun g => g.isPrefixOf l) = sgs.find? fun g => g.isPrefixOf l) (hg : sgs[i]? = some g) (hp : g.isPrefixOf l = true) : 0 < sgn l ∧ l.take (sgn l) = g := by
  obtain ⟨hi, he⟩ := List.getElem?_eq_some_iff.1 hg
  rw [List.drop_eq_getElem_cons hi, he, List.find?_cons, hp, sgn_find] at h
  simp only at h
  split at h
  · cases h
  · rename_i hn
    exact ⟨by omega, (Option.some.inj h).symm⟩
theorem sgn_pass {l g : List UInt8} {i : Nat} (h : (sgs.drop i).find? (fun g => g.isPrefixOf l) = sgs.find? fun g => g.isPrefixOf l) (hg : sgs[i]? = some g) (hp : g.isPrefixOf l = false) : (sgs.drop (i + 1)).find? (fun g => g.isPrefixOf l) = sgs.find? fun g => g.isPrefixOf l := by
  obtain ⟨hi, he⟩ := List.getElem?_eq_some_iff.1 hg
  rw [List.drop_eq_getElem_cons hi, he, List.find?_cons, hp] at h
  exact h
theorem sgn_none {l : List UInt8} (h : (sgs.drop 15).find? (fun g => g.isPrefixOf l) = sgs.find? fun g => g.isPrefixOf l) : sgn l = 0 := by
  rw [sgn_find] at h
  split at h
  · assumption
  · cases h
/-- A sign before white space. -/
theorem two_wh {a b : UInt8} (hb : lxWh (bz b) = true) : two a b = false := by
  refine not_of fun h => ?_
  have h1 := lxWh_iff.1 hb
  rcases two_iff.1 h with ⟨_, rfl⟩ | ⟨_, rfl⟩ | ⟨_, rfl⟩ | ⟨_, rfl⟩ <;> exact absurd h1 (by decide)
theorem sgn_app {b : UInt8} (hb : lxWh (bz b) = true) (r : List UInt8) : ∀ l, l ≠ [] → sgn (l ++ b :: r) = sgn l
  | [], h => absurd rfl h
  | [a], _ => by rw [List.singleton_append, sgn_two, two_wh hb, sgn_one]; rfl
  | a :: x :: l, _ => rfl
theorem sgn_take : ∀ l, sgn (l.take (sgn l)) = sgn l
  | [] => rfl
  | [a] => by
    rw [sgn_one]; split
    · rename_i h; rw [show [a].take 1 = [a] from rfl, sgn_one, if_pos h]
    · rfl
  | a :: b :: r => by
    rw [sgn_two]; split
    · rename_i h; rw [show (a :: b :: r).take 2 = [a, b] from rfl, sgn_two, if_pos h]
    · split
      · rename_i h; rw [show (a :: b :: r).take 1 = [a] from rfl, sgn_one, if_pos h]
      · rfl

/-! ## One token -/
def lxFirst : List UInt8 → Option (Int × Nat × Int)
  | [] => none
  | c :: r =>
    if lxLet (bz c) = true then (if wLen (c :: r) ≤ 12 then some (1, wLen (c :: r), 0) else none)
    else if lxDig (bz c) = true then (if numOK ((c :: r).take (wLen (c :: r))) = true then some (2, wLen (c :: r), numV ((c :: r).take (wLen (c :: r)))) else none)
    else if sgn (c :: r) = 0 then none else some (3, sgn (c :: r), 0)
theorem first_let {c : UInt8} {r : List UInt8} (h : lxLet (bz c) = true) : lxFirst (c :: r) = if wLen (c :: r) ≤ 12 then some (1, wLen (c :: r), 0) else none := by
  show (if lxLet (bz c) = true then _ else _) = _
  rw [if_pos h]
theorem first_dig {c : UInt8} {r : List UInt8} (h : lxDig (bz c) = true) : lxFirst (c :: r) = if numOK ((c :: r).take (wLen (c :: r))) = true then some (2, wLen (c :: r), numV ((c :: r).take (wLen (c :: r)))) else none := by
  show (if lxLet (bz c) = true then _ else if lxDig (bz c) = true then _ else _) = _
  rw [if_neg (by have := lxDig_iff.1 h; rw [lxLet_no (by omega)]; decide), if_pos h]
theorem first_sgn {c : UInt8} {r : List UInt8} (h1 : lxLet (bz c) = false) (h2 : lxDig (bz c) = false) : lxFirst (c :: r) = if sgn (c :: r) = 0 then none else some (3, sgn (c :: r), 0) := by
  show (if lxLet (bz c) = true then _ else if lxDig (bz c) = true then _ else _) = _
  rw [h1, h2]; rfl
theorem first_len {l : List UInt8} {k n : Int} {m : Nat} (h : lxFirst l = some (k, m, n)) : 0 < m ∧ m ≤ l.length := by
  cases l with
  | nil => cases h
  | cons c r =>
    by_cases h1 : lxLet (bz c) = true
    · rw [first_let h1] at h
      split at h
      · cases h; exact ⟨wLen_pos (wd_of_let h1), wLen_le _⟩
      · cases h
    · by_cases h2 : lxDig (bz c) = true
      · rw [first_dig h2] at h
        split at h
        · cases h; exact ⟨wLen_pos (wd_of_dig h2), wLen_le _⟩
        · cases h
      · rw [first_sgn (not_of h1) (not_of h2)] at h
        split at h
        · cases h
        · cases h; exact ⟨by omega, sgn_le _⟩
/-- What a token begins with is no white space. -/
theorem one_wh {a : UInt8} (h : one a = true) : lxWh (bz a) = false := by
  rcases one_iff.1 h with rfl | rfl | rfl | rfl | rfl | rfl | rfl | rfl | rfl | rfl | rfl <;> decide
theorem two_wh1 {a b : UInt8} (h : two a b = true) : lxWh (bz a) = false := by
  rcases two_iff.1 h with ⟨rfl, _⟩ | ⟨rfl, _⟩ | ⟨rfl, _⟩ | ⟨rfl, _⟩ <;> decide
theorem sgn_wh {c : UInt8} {r : List UInt8} (h : sgn (c :: r) ≠ 0) : lxWh (bz c) = false := by
  cases r with
  | nil => rw [sgn_one] at h; split at h; exact one_wh ‹_›; exact absurd rfl h
  | cons b r =>
    rw [sgn_two] at h
    split at h
    · exact two_wh1 ‹_›
    · split at h
      · exact one_wh ‹_›
      · exact absurd rfl h
theorem first_wh {c : UInt8} {r : List UInt8} {x : Int × Nat × Int} (h : lxFirst (c :: r) = some x) : lxWh (bz c) = false := by
  by_cases h1 : lxLet (bz c) = true
  · exact wh_of_let h1
  · by_cases h2 : lxDig (bz c) = true
    · exact wh_of_dig h2
    · rw [first_sgn (not_of h1) (not_of h2)] at h
      split at h
      · cases h
      · exact sgn_wh ‹_›
/-- White space behind a text doesn't change its first token. -/
theorem first_app {b : UInt8} (hb : lxWh (bz b) = true) (r : List UInt8) : ∀ {l : List UInt8}, l ≠ [] → lxFirst (l ++ b :: r) = lxFirst l
  | [], h => absurd rfl h
  | c :: l, _ => by
    have hw := wLen_app (wd_of_wh hb) r (c :: l)
    have ht : (c :: l ++ b :: r).take (wLen (c :: l ++ b :: r)) = (c :: l).take (wLen (c :: l)) := by
      rw [hw, List.take_append_of_le_length (wLen_le _)]
    have hs := sgn_app hb r (c :: l) (by simp)
    rw [List.cons_append] at hw ht hs ⊢
    by_cases h1 : lxLet (bz c) = true
    · rw [first_let h1, first_let h1, hw]
    · by_cases h2 : lxDig (bz c) = true
      · rw [first_dig h2, first_dig h2, ht, hw]
      · rw [first_sgn (not_of h1) (not_of h2), first_sgn (not_of h1) (not_of h2), hs]
/-- A token alone. -/
theorem first_take {l : List UInt8} {k n : Int} {m : Nat} (h : lxFirst l = some (k, m, n)) : lxFirst (l.take m) = some (k, m, n) := by
  cases l with
  | nil => cases h
  | cons c r =>
    have hm := first_len h
    obtain ⟨j, rfl⟩ : ∃ j, m = j + 1 := ⟨m - 1, by omega⟩
    have hw : ∀ q, wLen (c :: r) = q → wLen ((c :: r).take q) = q := fun q hq => by rw [← hq]; exact wLen_take _
    have hs : ∀ q, sgn (c :: r) = q → sgn ((c :: r).take q) = q := fun q hq => by rw [← hq]; exact sgn_take _
    by_cases h1 : lxLet (bz c) = true
    · rw [first_let h1] at h
      split at h
      · rename_i h12
        simp only [Option.some.injEq, Prod.mk.injEq] at h
        obtain ⟨rfl, e, rfl⟩ := h
        have e2 := hw _ e
        rw [e] at h12
        rw [List.take_succ_cons] at e2 ⊢
        rw [first_let h1, e2, if_pos h12]
      · cases h
    · by_cases h2 : lxDig (bz c) = true
      · rw [first_dig h2] at h
        split at h
        · rename_i hok
          simp only [Option.some.injEq, Prod.mk.injEq] at h
          obtain ⟨rfl, e, e3⟩ := h
          have e2 := hw _ e
          rw [e] at hok e3
          rw [List.take_succ_cons] at e2 e3 hok ⊢
          have e4 : (c :: List.take j r).take (j + 1) = c :: List.take j r := by rw [List.take_of_length_le]; simp; omega
          rw [first_dig h2, e2, e4, if_pos hok, e3]
        · cases h
      · rw [first_sgn (not_of h1) (not_of h2)] at h
        split at h
        · cases h
        · simp only [Option.some.injEq, Prod.mk.injEq] at h
          obtain ⟨rfl, e, rfl⟩ := h
          have e2 := hs _ e
          rw [List.take_succ_cons] at e2 ⊢
          rw [first_sgn (not_of h1) (not_of h2), e2, if_neg (by omega)]

/-! ## All tokens -/
structure Tk where
  k : Int
  t : ByteArray
  n : Int
  a : Int
def lx : Nat → Nat → List UInt8 → Option (List Tk)
  | _, _, [] => some []
  | s + 1, p, _ :: r => lx s (p + 1) r
  | 0, p, c :: r => if lxWh (bz c) = true then lx 0 (p + 1) r else match lxFirst (c :: r) with
    | none => none
    | some (k, m, n) => (lx (m - 1) (p + 1) r).map (⟨k, mk ((c :: r).take m), n, (p : Int)⟩ :: ·)
def lxAll (s : ByteArray) : Option (List Tk) := lx 0 0 (tl s)
theorem lx_nil (s p : Nat) : lx s p [] = some [] := by cases s <;> rfl
theorem lx_skip : ∀ (m p : Nat) (l : List UInt8), m ≤ l.length → lx m p l = lx 0 (p + m) (l.drop m)
  | 0, p, l, _ => by simp
  | m + 1, p, [], h => by simp at h
  | m + 1, p, c :: r, h => by
    show lx m (p + 1) r = _
    rw [lx_skip m (p + 1) r (by simpa using h), List.drop_succ_cons, show p + 1 + m = p + (m + 1) by omega]
theorem lx_wh {c : UInt8} {r : List UInt8} {p : Nat} (h : lxWh (bz c) = true) : lx 0 p (c :: r) = lx 0 (p + 1) r := by
  show (if lxWh (bz c) = true then _ else _) = _
  rw [if_pos h]
theorem lx_bad {c : UInt8} {r : List UInt8} {p : Nat} (h : lxWh (bz c) = false) (hf : lxFirst (c :: r) = none) : lx 0 p (c :: r) = none := by
  show (if lxWh (bz c) = true then _ else _) = _
  rw [h, hf]; rfl
theorem lx_good {c : UInt8} {r : List UInt8} {p m : Nat} {k n : Int} (hf : lxFirst (c :: r) = some (k, m, n)) : lx 0 p (c :: r) = (lx (m - 1) (p + 1) r).map (⟨k, mk ((c :: r).take m), n, (p : Int)⟩ :: ·) := by
  show (if lxWh (bz c) = true then _ else _) = _
  rw [first_wh hf, hf]; rfl
theorem lx_tok {l : List UInt8} {p m : Nat} {k n : Int} (hf : lxFirst l = some (k, m, n)) : lx 0 p l = (lx 0 (p + m) (l.drop m)).map (⟨k, mk (l.take m), n, (p : Int)⟩ :: ·) := by
  have hm := first_len hf
  cases l with
  | nil => cases hf
  | cons c r =>
    obtain ⟨j, rfl⟩ : ∃ j, m = j + 1 := ⟨m - 1, by omega⟩
    rw [lx_good hf, Nat.add_sub_cancel, lx_skip j (p + 1) r (by have := hm.2; simp at this; omega), List.drop_succ_cons, show p + 1 + j = p + (j + 1) by omega]

/-! ## Where tokens lie -/
/-- From place p on, the rest of the text is white space and these tokens. -/
def Cov (l : List UInt8) : Nat → List Tk → Prop
  | p, [] => ∀ k c, p ≤ k → l[k]? = some c → lxWh (bz c) = true
  | p, t :: ts => ∃ u : Nat, t.a = (u : Int) ∧ p ≤ u ∧ 0 < t.t.size ∧ u + t.t.size ≤ l.length ∧ (∀ k c, p ≤ k → k < u → l[k]? = some c → lxWh (bz c) = true) ∧ tl t.t = (l.drop u).take t.t.size ∧ Cov l (u + t.t.size) ts
theorem Cov.white {l : List UInt8} {p : Nat} {c : UInt8} (hc : l[p]? = some c) (hw : lxWh (bz c) = true) {ts : List Tk} (h : Cov l (p + 1) ts) : Cov l p ts := by
  cases ts with
  | nil =>
    intro k x hk hx
    rcases Nat.eq_or_lt_of_le hk with rfl | hk
    · rw [hc] at hx; cases hx; exact hw
    · exact h k x hk hx
  | cons t ts =>
    obtain ⟨u, h1, h2, h3, h4, h5, h6⟩ := h
    refine ⟨u, h1, by omega, h3, h4, fun k x hk hku hx => ?_, h6⟩
    rcases Nat.eq_or_lt_of_le hk with rfl | hk
    · rw [hc] at hx; cases hx; exact hw
    · exact h5 k x hk hku hx
theorem lx_cov (l : List UInt8) : ∀ (f p : Nat) (ts : List Tk), l.length < p + f → p ≤ l.length → lx 0 p (l.drop p) = some ts → Cov l p ts
  | 0, p, _, hf, hp, _ => absurd hf (by omega)
  | f + 1, p, ts, hf, hp, h => by
    rcases Nat.eq_or_lt_of_le hp with rfl | hlt
    · rw [List.drop_length, lx_nil] at h
      cases h
      intro k c hk hx
      rw [List.getElem?_eq_none hk] at hx; cases hx
    · have hd := List.drop_eq_getElem_cons hlt
      have hc : l[p]? = some l[p] := List.getElem?_eq_getElem hlt
      by_cases hw : lxWh (bz l[p]) = true
      · rw [hd, lx_wh hw] at h
        exact Cov.white hc hw (lx_cov l f (p + 1) ts (by omega) hlt h)
      · cases hfx : lxFirst (l.drop p) with
        | none =>
          rw [hd] at hfx h
          rw [lx_bad (not_of hw) hfx] at h
          cases h
        | some x =>
          obtain ⟨k, m, n⟩ := x
          have hm := first_len hfx
          rw [lx_tok hfx, List.drop_drop] at h
          rw [List.length_drop] at hm
          cases hr : lx 0 (p + m) (l.drop (p + m)) with
          | none => rw [hr] at h; cases h
          | some us =>
            rw [hr] at h
            cases h
            have hsz : (mk ((l.drop p).take m)).size = m := by rw [mk_size, List.length_take, List.length_drop]; omega
            refine ⟨p, rfl, Nat.le_refl _, by rw [hsz]; exact hm.1, by rw [hsz]; omega, fun k x h1 h2 => by omega, by rw [hsz, tl_mk], ?_⟩
            rw [hsz]
            exact lx_cov l f (p + m) us (by omega) (by omega) hr
/-! ## Text behind text -/
def shiftT (d : Nat) (t : Tk) : Tk := ⟨t.k, t.t, t.n, t.a + d⟩
theorem lx_shift (d : Nat) : ∀ (l : List UInt8) (s p : Nat), lx s (p + d) l = (lx s p l).map (·.map (shiftT d))
  | [], s, p => by rw [lx_nil, lx_nil]; rfl
  | c :: r, s + 1, p => by
    show lx s (p + d + 1) r = (lx s (p + 1) r).map _
    rw [show p + d + 1 = p + 1 + d by omega, lx_shift d r s (p + 1)]
  | c :: r, 0, p => by
    by_cases hw : lxWh (bz c) = true
    · rw [lx_wh hw, lx_wh hw, show p + d + 1 = p + 1 + d by omega, lx_shift d r 0 (p + 1)]
    · cases hf : lxFirst (c :: r) with
      | none => rw [lx_bad (not_of hw) hf, lx_bad (not_of hw) hf]; rfl
      | some x =>
        obtain ⟨k, m, n⟩ := x
        rw [lx_good hf, lx_good hf, show p + d + 1 = p + 1 + d by omega, lx_shift d r (m - 1) (p + 1)]
        cases lx (m - 1) (p + 1) r with
        | none => rfl
        | some ts => simp [shiftT]
theorem lx_concat {b : UInt8} (hb : lxWh (bz b) = true) (r : List UInt8) : ∀ (l : List UInt8) (s p : Nat), s ≤ l.length →
    lx s p (l ++ b :: r) = (lx s p l).bind fun ts => (lx 0 (p + l.length + 1) r).map (ts ++ ·)
  | [], s, p, hs => by
    obtain rfl : s = 0 := by simpa using hs
    rw [List.nil_append, lx_wh hb, lx_nil]
    simp
  | c :: l, s + 1, p, hs => by
    show lx s (p + 1) (l ++ b :: r) = (lx s (p + 1) l).bind _
    rw [lx_concat hb r l s (p + 1) (by simpa using hs), List.length_cons, show p + 1 + l.length = p + (l.length + 1) by omega]
  | c :: l, 0, p, _ => by
    have hf := first_app hb r (l := c :: l) (by simp)
    have he : p + (c :: l).length + 1 = (p + 1) + l.length + 1 := by rw [List.length_cons]; omega
    rw [he]
    by_cases hw : lxWh (bz c) = true
    · rw [List.cons_append, lx_wh hw, lx_wh hw, lx_concat hb r l 0 (p + 1) (Nat.zero_le _)]
    · cases hx : lxFirst (c :: l) with
      | none =>
        rw [hx] at hf
        rw [lx_bad (not_of hw) hx]
        rw [List.cons_append] at hf ⊢
        rw [lx_bad (not_of hw) hf]
        rfl
      | some x =>
        obtain ⟨k, m, n⟩ := x
        have hm := first_len hx
        rw [hx] at hf
        rw [lx_good hx]
        have ht : (c :: l ++ b :: r).take m = (c :: l).take m := List.take_append_of_le_length hm.2
        rw [List.cons_append] at hf ht ⊢
        rw [lx_good hf, ht, lx_concat hb r l (m - 1) (p + 1) (by have := hm.2; simp at this; omega)]
        cases lx (m - 1) (p + 1) l with
        | none => rfl
        | some ts => cases lx 0 (p + 1 + l.length + 1) r <;> rfl
/-! ## Tokens shown -/
def Tk.al (a b : Tk) : Prop := a.k = b.k ∧ a.t = b.t ∧ a.n = b.n
def Als : List Tk → List Tk → Prop
  | [], [] => True
  | a :: l, b :: m => Tk.al a b ∧ Als l m
  | _, _ => False
theorem Als.len : ∀ {l m : List Tk}, Als l m → l.length = m.length
  | [], [], _ => rfl
  | _ :: _, _ :: _, h => by rw [List.length_cons, List.length_cons, h.2.len]
theorem Als.at_ : ∀ {l m : List Tk}, Als l m → ∀ {i : Nat} {a b : Tk}, l[i]? = some a → m[i]? = some b → Tk.al a b
  | [], [], _, i, a, b, ha, hb => by simp at ha
  | _ :: _, _ :: _, h, 0, a, b, ha, hb => by cases ha; cases hb; exact h.1
  | _ :: _, _ :: _, h, i + 1, a, b, ha, hb => h.2.at_ (by simpa using ha) (by simpa using hb)
/-- A token's spelling is read as this token. -/
def TkOK (t : Tk) : Prop := lxFirst (tl t.t) = some (t.k, t.t.size, t.n)
theorem lx_ok : ∀ (l : List UInt8) (s p : Nat) (ts : List Tk), lx s p l = some ts → ∀ t ∈ ts, TkOK t
  | [], s, p, ts, h, t, ht => by rw [lx_nil] at h; cases h; cases ht
  | c :: r, s + 1, p, ts, h, t, ht => lx_ok r s (p + 1) ts h t ht
  | c :: r, 0, p, ts, h, t, ht => by
    by_cases hw : lxWh (bz c) = true
    · rw [lx_wh hw] at h
      exact lx_ok r 0 (p + 1) ts h t ht
    · cases hf : lxFirst (c :: r) with
      | none => rw [lx_bad (not_of hw) hf] at h; cases h
      | some x =>
        obtain ⟨k, m, n⟩ := x
        rw [lx_good hf] at h
        cases hr : lx (m - 1) (p + 1) r with
        | none => rw [hr] at h; cases h
        | some us =>
          rw [hr] at h
          cases h
          rcases List.mem_cons.1 ht with rfl | ht
          · have hm := first_len hf
            show lxFirst (tl (mk ((c :: r).take m))) = some (k, (mk ((c :: r).take m)).size, n)
            rw [tl_mk, mk_size, List.length_take, Nat.min_eq_left hm.2]
            exact first_take hf
          · exact lx_ok r (m - 1) (p + 1) us hr t ht
/-- The spellings from the second token on, each behind a space. -/
def shwR : List Tk → List UInt8
  | [] => []
  | t :: ts => 32 :: (tl t.t ++ shwR ts)
def shw : List Tk → List UInt8
  | [] => []
  | t :: ts => tl t.t ++ shwR ts
theorem shw_snoc : ∀ (ts : List Tk) (t : Tk), shw (ts ++ [t]) = if ts = [] then tl t.t else shw ts ++ (32 :: tl t.t)
  | [], t => by simp [shw, shwR]
  | u :: ts, t => by
    have h : ∀ us : List Tk, shwR (us ++ [t]) = shwR us ++ (32 :: tl t.t) := fun us => by
      induction us with
      | nil => simp [shwR]
      | cons x us ih => rw [List.cons_append, shwR, shwR, ih]; simp
    rw [List.cons_append, shw, h, if_neg (by simp), shw, List.append_assoc]
theorem shw_len : ∀ (ts : List Tk), (shw ts).length ≤ (ts.map fun t => t.t.size + 1).sum
  | [] => by simp [shw]
  | t :: ts => by
    have h : ∀ us : List Tk, (shwR us).length = (us.map fun t => t.t.size + 1).sum := fun us => by
      induction us with
      | nil => rfl
      | cons x us ih => rw [shwR, List.length_cons, List.length_append, ih, tl_len, List.map_cons, List.sum_cons]; omega
    rw [shw, List.length_append, h, tl_len, List.map_cons, List.sum_cons]; omega
theorem lx_shwR : ∀ (ts : List Tk) (p : Nat), (∀ t ∈ ts, TkOK t) → ∃ us, lx 0 p (shwR ts) = some us ∧ Als ts us
  | [], p, _ => ⟨[], rfl, trivial⟩
  | t :: ts, p, h => by
    have hw : lxWh (bz 32) = true := by decide
    have hok : TkOK t := h t (by simp)
    have hm := first_len hok
    have hne : tl t.t ≠ [] := by intro e; rw [TkOK, e] at hok; cases hok
    rw [shwR, lx_wh hw]
    have hf : lxFirst (tl t.t ++ shwR ts) = some (t.k, t.t.size, t.n) := by
      cases ts with
      | nil => rw [shwR, List.append_nil]; exact hok
      | cons u ts => rw [shwR, first_app hw _ hne]; exact hok
    have hlen : (tl t.t).length = t.t.size := tl_len _
    rw [lx_tok hf, List.drop_left' hlen, List.take_left' hlen]
    obtain ⟨us, h1, h2⟩ := lx_shwR ts (p + 1 + t.t.size) fun x hx => h x (by simp [hx])
    rw [h1]
    exact ⟨_, rfl, ⟨rfl, (mk_tl _).symm, rfl⟩, h2⟩
theorem lx_shw (ts : List Tk) (h : ∀ t ∈ ts, TkOK t) : ∃ us, lx 0 0 (shw ts) = some us ∧ Als ts us := by
  cases ts with
  | nil => exact ⟨[], rfl, trivial⟩
  | cons t ts =>
    have hw : lxWh (bz 32) = true := by decide
    have hok : TkOK t := h t (by simp)
    have hm := first_len hok
    have hne : tl t.t ≠ [] := by intro e; rw [TkOK, e] at hok; cases hok
    have hf : lxFirst (tl t.t ++ shwR ts) = some (t.k, t.t.size, t.n) := by
      cases ts with
      | nil => rw [shwR, List.append_nil]; exact hok
      | cons u ts => rw [shwR, first_app hw _ hne]; exact hok
    have hlen : (tl t.t).length = t.t.size := tl_len _
    rw [shw, lx_tok hf, List.drop_left' hlen, List.take_left' hlen]
    obtain ⟨us, h1, h2⟩ := lx_shwR ts (0 + t.t.size) fun x hx => h x (by simp [hx])
    rw [h1]
    exact ⟨_, rfl, ⟨rfl, (mk_tl _).symm, rfl⟩, h2⟩
theorem shwR_al : ∀ {ts us : List Tk}, Als ts us → shwR ts = shwR us
  | [], [], _ => rfl
  | _ :: _, _ :: _, h => by rw [shwR, shwR, h.1.2.1, shwR_al h.2]
theorem shw_al : ∀ {ts us : List Tk}, Als ts us → shw ts = shw us
  | [], [], _ => rfl
  | _ :: _, _ :: _, h => by rw [shw, shw, h.1.2.1, shwR_al h.2]

/-! ## Decimals -/
def dg (n : Nat) : UInt8 := UInt8.ofNat (48 + n % 10)
theorem dg_nat (n : Nat) : (dg n).toNat = 48 + n % 10 := by
  unfold dg
  rw [UInt8.toNat_ofNat']
  omega
theorem dg_bz (n : Nat) : bz (dg n) = 48 + (n % 10 : Nat) := by unfold bz; rw [dg_nat]; omega
theorem dg_dig (n : Nat) : lxDig (bz (dg n)) = true := lxDig_iff.2 (by rw [dg_bz]; omega)
def dec : Nat → Nat → List UInt8
  | 0, n => [dg n]
  | f + 1, n => if n ≤ 9 then [dg n] else dec f (n / 10) ++ [dg n]
theorem dec_small {f n : Nat} (h : n ≤ 9) : dec f n = [dg n] := by cases f with
  | zero => rfl
  | succ f => unfold dec; rw [if_pos h]
theorem dec_big {f n : Nat} (h : ¬ n ≤ 9) : dec (f + 1) n = dec f (n / 10) ++ [dg n] := by rw [dec, if_neg h]
theorem dec_all : ∀ (f n : Nat), ∀ c ∈ dec f n, lxDig (bz c) = true
  | 0, n, c, hc => by rw [dec, List.mem_singleton] at hc; subst hc; exact dg_dig n
  | f + 1, n, c, hc => by
    by_cases h : n ≤ 9
    · rw [dec_small h, List.mem_singleton] at hc; subst hc; exact dg_dig n
    · rw [dec_big h] at hc
      rcases List.mem_append.1 hc with hc | hc
      · exact dec_all f _ c hc
      · rw [List.mem_singleton] at hc; subst hc; exact dg_dig n
theorem dec_val : ∀ (f n : Nat), n < 10 ^ (f + 1) → numV (dec f n) = n
  | 0, n, h => by
    rw [dec]
    show 10 * 0 + (bz (dg n) - 48) = (n : Int)
    rw [dg_bz]; omega
  | f + 1, n, h => by
    by_cases h9 : n ≤ 9
    · rw [dec_small h9]
      show 10 * 0 + (bz (dg n) - 48) = (n : Int)
      rw [dg_bz]; omega
    · rw [dec_big h9, numV_snoc, dec_val f (n / 10) (by rw [Nat.pow_succ] at h; omega), dg_bz]
      omega
theorem dec_pos (f n : Nat) : 0 < (dec f n).length := by
  cases f with
  | zero => simp [dec]
  | succ f =>
    by_cases h9 : n ≤ 9
    · rw [dec_small h9]; simp
    · rw [dec_big h9]; simp
theorem dec_len : ∀ (f n k : Nat), n < 10 ^ (k + 1) → (dec f n).length ≤ k + 1
  | 0, n, k, h => by simp [dec]
  | f + 1, n, k, h => by
    by_cases h9 : n ≤ 9
    · rw [dec_small h9]; simp
    · rw [dec_big h9, List.length_append, List.length_singleton]
      cases k with
      | zero => simp at h; omega
      | succ k =>
        have := dec_len f (n / 10) k (by rw [Nat.pow_succ] at h; omega)
        omega
theorem dec_head : ∀ (f n : Nat), 0 < n → n < 10 ^ (f + 1) → (dec f n).head? ≠ some 48
  | 0, n, h0, h => by
    rw [dec]
    intro e
    have e1 : dg n = 48 := Option.some.inj e
    have := dg_nat n
    rw [e1, show (48 : UInt8).toNat = 48 from rfl] at this
    omega
  | f + 1, n, h0, h => by
    by_cases h9 : n ≤ 9
    · rw [dec_small h9]
      intro e
      have e1 : dg n = 48 := Option.some.inj e
      have := dg_nat n
      rw [e1, show (48 : UInt8).toNat = 48 from rfl] at this
      omega
    · rw [dec_big h9]
      have := dec_head f (n / 10) (by omega) (by rw [Nat.pow_succ] at h; omega)
      cases hd : dec f (n / 10) with
      | nil => have := dec_pos f (n / 10); rw [hd] at this; simp at this
      | cons c r => rw [hd] at this; exact this
/-- A text of digits alone. -/
theorem lx_digits {w : List UInt8} (h : ∀ c ∈ w, lxDig (bz c) = true) (hn : w ≠ []) : lx 0 0 w = if numOK w = true then some [⟨2, mk w, numV w, 0⟩] else none := by
  have hw : wLen w = w.length := wLen_full fun c hc => wd_of_dig (h c hc)
  have ht : w.take w.length = w := List.take_length
  cases w with
  | nil => exact absurd rfl hn
  | cons c r =>
    have hc := h c (by simp)
    have hf := first_dig (r := r) hc
    rw [hw, ht] at hf
    by_cases hok : numOK (c :: r) = true
    · rw [if_pos hok] at hf
      rw [lx_tok hf, if_pos hok, ht, List.drop_length, lx_nil]
      rfl
    · rw [if_neg hok] at hf
      rw [lx_bad (wh_of_dig hc) hf, if_neg hok]
theorem lx_dec {n : Nat} (h : n < 65536) : lx 0 0 (dec 20 n) = some [⟨2, mk (dec 20 n), n, 0⟩] := by
  have hv := dec_val 20 n (Nat.lt_of_lt_of_le h (by decide))
  have hl := dec_len 20 n 4 (Nat.lt_of_lt_of_le h (by decide))
  have hlong : numLong (dec 20 n) = false := by
    unfold numLong
    rw [decide_eq_false (by omega)]
    by_cases h9 : n ≤ 9
    · rw [dec_small h9]; rfl
    · rw [beq_eq_false_iff_ne.2 (dec_head 20 n (by omega) (Nat.lt_of_lt_of_le h (by decide)))]; simp
  rw [lx_digits (dec_all 20 n) (by intro e; have := dec_pos 20 n; rw [e] at this; simp at this), numOK_end hlong (List.all_eq_true.2 (dec_all 20 n)), hv, if_pos (decide_eq_true (by omega))]
theorem lx_dec_big {n : Nat} (h : 65536 ≤ n) (h2 : n < 200000) : lx 0 0 (dec 20 n) = none := by
  have hv := dec_val 20 n (Nat.lt_of_lt_of_le h2 (by decide))
  rw [lx_digits (dec_all 20 n) (by intro e; have := dec_pos 20 n; rw [e] at this; simp at this), if_neg]
  unfold numOK
  rw [hv, decide_eq_false (by omega)]
  simp
theorem lx_zero_dec (n : Nat) : lx 0 0 (48 :: dec 20 n) = none := by
  rw [lx_digits (by intro c hc; rcases List.mem_cons.1 hc with rfl | hc; decide; exact dec_all 20 n c hc) (by simp), numOK_long, if_neg (by decide)]
  unfold numLong
  have := dec_pos 20 n
  rw [decide_eq_true (show 1 < (48 :: dec 20 n).length by rw [List.length_cons]; omega)]
  simp
/-! ## Lengths -/
theorem sgn_ascii {l : List UInt8} {j : Nat} {c : UInt8} (hj : j < sgn l) (hc : l[j]? = some c) : c.toNat < 128 := by
  match l with
  | [] => simp at hc
  | [a] =>
    rw [sgn_one] at hj
    split at hj
    · rename_i h
      obtain rfl : j = 0 := by omega
      cases hc
      rcases one_iff.1 h with rfl | rfl | rfl | rfl | rfl | rfl | rfl | rfl | rfl | rfl | rfl <;> decide
    · omega
  | a :: b :: r =>
    rw [sgn_two] at hj
    split at hj
    · rename_i h
      rcases j with _ | _ | j
      · cases hc; rcases two_iff.1 h with ⟨rfl, _⟩ | ⟨rfl, _⟩ | ⟨rfl, _⟩ | ⟨rfl, _⟩ <;> decide
      · cases hc; rcases two_iff.1 h with ⟨_, rfl⟩ | ⟨_, rfl⟩ | ⟨_, rfl⟩ | ⟨_, rfl⟩ <;> decide
      · omega
    · split at hj
      · rename_i h
        obtain rfl : j = 0 := by omega
        cases hc
        rcases one_iff.1 h with rfl | rfl | rfl | rfl | rfl | rfl | rfl | rfl | rfl | rfl | rfl <;> decide
      · omega
theorem wd_ascii {l : List UInt8} {j : Nat} {c : UInt8} (hj : j < wLen l) (hc : l[j]? = some c) : c.toNat < 128 := by
  have h := lxWd_iff.1 (wLen_all l c (List.mem_of_getElem? (by rw [List.getElem?_take, if_pos hj]; exact hc)))
  unfold bz at h
  omega
theorem first_ascii {l : List UInt8} {k n : Int} {m : Nat} (h : lxFirst l = some (k, m, n)) {j : Nat} {c : UInt8} (hj : j < m) (hc : l[j]? = some c) : c.toNat < 128 := by
  cases l with
  | nil => cases h
  | cons x r =>
    by_cases h1 : lxLet (bz x) = true
    · rw [first_let h1] at h
      split at h
      · simp only [Option.some.injEq, Prod.mk.injEq] at h
        obtain ⟨_, rfl, _⟩ := h
        exact wd_ascii hj hc
      · cases h
    · by_cases h2 : lxDig (bz x) = true
      · rw [first_dig h2] at h
        split at h
        · simp only [Option.some.injEq, Prod.mk.injEq] at h
          obtain ⟨_, rfl, _⟩ := h
          exact wd_ascii hj hc
        · cases h
      · rw [first_sgn (not_of h1) (not_of h2)] at h
        split at h
        · cases h
        · simp only [Option.some.injEq, Prod.mk.injEq] at h
          obtain ⟨_, rfl, _⟩ := h
          exact sgn_ascii hj hc
theorem lx_sum : ∀ (l : List UInt8) (s p : Nat) (ts : List Tk), s ≤ l.length → lx s p l = some ts → (ts.map fun t => t.t.size).sum + s ≤ l.length
  | [], s, p, ts, hs, h => by rw [lx_nil] at h; cases h; simpa using hs
  | c :: r, s + 1, p, ts, hs, h => by
    have := lx_sum r s (p + 1) ts (by simpa using hs) h
    rw [List.length_cons]; omega
  | c :: r, 0, p, ts, hs, h => by
    by_cases hw : lxWh (bz c) = true
    · rw [lx_wh hw] at h
      have := lx_sum r 0 (p + 1) ts (Nat.zero_le _) h
      rw [List.length_cons]; omega
    · cases hf : lxFirst (c :: r) with
      | none => rw [lx_bad (not_of hw) hf] at h; cases h
      | some x =>
        obtain ⟨k, m, n⟩ := x
        have hm := first_len hf
        rw [List.length_cons] at hm
        rw [lx_good hf] at h
        cases hr : lx (m - 1) (p + 1) r with
        | none => rw [hr] at h; cases h
        | some us =>
          rw [hr] at h
          cases h
          have := lx_sum r (m - 1) (p + 1) us (by omega) hr
          have hsz : (mk ((c :: r).take m)).size = m := by rw [mk_size, List.length_take, List.length_cons]; omega
          rw [List.map_cons, List.sum_cons, hsz, List.length_cons]
          omega
theorem sum_len : ∀ (ts : List Tk), (∀ t ∈ ts, 0 < t.t.size) → ts.length ≤ (ts.map fun t => t.t.size).sum
  | [], _ => Nat.zero_le _
  | t :: ts, h => by
    have := sum_len ts fun x hx => h x (by simp [hx])
    have := h t (by simp)
    rw [List.map_cons, List.sum_cons, List.length_cons]
    omega
theorem sum_add : ∀ (ts : List Tk), (ts.map fun t => t.t.size + 1).sum = (ts.map fun t => t.t.size).sum + ts.length
  | [] => rfl
  | t :: ts => by rw [List.map_cons, List.sum_cons, sum_add ts, List.map_cons, List.sum_cons, List.length_cons]; omega
theorem size_le_sum : ∀ (ts : List Tk), ∀ t ∈ ts, t.t.size ≤ (ts.map fun t => t.t.size).sum
  | u :: ts, t, h => by
    rw [List.map_cons, List.sum_cons]
    rcases List.mem_cons.1 h with rfl | h
    · omega
    · have := size_le_sum ts t h; omega
theorem TkOK.pos {t : Tk} (h : TkOK t) : 0 < t.t.size := (first_len h).1
/-- What is known of the tokens of a text. -/
theorem lx_small {l : List UInt8} {p : Nat} {ts : List Tk} (h : lx 0 p l = some ts) : ts.length ≤ l.length ∧ (∀ t ∈ ts, 0 < t.t.size ∧ t.t.size ≤ l.length) ∧ (shw ts).length ≤ 2 * l.length := by
  have hok := lx_ok l 0 p ts h
  have hs := lx_sum l 0 p ts (Nat.zero_le _) h
  have hl := sum_len ts fun t ht => (hok t ht).pos
  have hw := shw_len ts
  rw [sum_add] at hw
  exact ⟨by omega, fun t ht => ⟨(hok t ht).pos, by have := size_le_sum ts t ht; omega⟩, by omega⟩
theorem lx_skip1 {s p : Nat} {c : UInt8} {r : List UInt8} : lx (s + 1) p (c :: r) = lx s (p + 1) r := rfl
def tkL (s : ByteArray) : List Tk := (lxAll s).getD []
def tkE (s : ByteArray) : Int := if (lxAll s).isSome then 0 else 3
theorem tk_some {s : ByteArray} {ts : List Tk} (h : lxAll s = some ts) : tkL s = ts ∧ tkE s = 0 := by unfold tkL tkE; rw [h]; exact ⟨rfl, rfl⟩
theorem tk_none {s : ByteArray} (h : lxAll s = none) : tkL s = [] ∧ tkE s = 3 := by unfold tkL tkE; rw [h]; exact ⟨rfl, rfl⟩
/-! ## The loops' relation -/
/-- Behind acc, at place p, with what is skipped up to e. -/
def LxAt (s : ByteArray) (p e : Nat) (acc : List Tk) : Prop :=
  p ≤ s.size ∧ e ≤ s.size ∧ acc.length ≤ e ∧ (∀ k c, p ≤ k → k < e → (tl s)[k]? = some c → c.toNat < 128) ∧ lxAll s = (lx (e - p) p ((tl s).drop p)).map (acc ++ ·)
theorem LxAt.start (s : ByteArray) : LxAt s 0 0 [] := ⟨Nat.zero_le _, Nat.zero_le _, Nat.le_refl _, fun k c _ h => by omega, by
  show _ = (lx 0 0 (tl s)).map _
  unfold lxAll
  cases lx 0 0 (tl s) <;> rfl⟩
section
variable {s : ByteArray} {p e : Nat} {acc : List Tk} {c : UInt8}
theorem LxAt.cons (h : LxAt s p e acc) (hc : (tl s)[p]? = some c) : (tl s).drop p = c :: (tl s).drop (p + 1) := by
  obtain ⟨hl, he⟩ := List.getElem?_eq_some_iff.1 hc
  rw [List.drop_eq_getElem_cons hl, he]
theorem LxAt.skip (h : LxAt s p e acc) (hc : (tl s)[p]? = some c) (hpe : p < e) : LxAt s (p + 1) e acc := by
  have hd := h.cons hc
  obtain ⟨h1, h2, h3, h4, h5⟩ := h
  refine ⟨by omega, h2, h3, fun k c hk => h4 k c (by omega), ?_⟩
  rw [h5, hd, show e - p = (e - (p + 1)) + 1 by omega, lx_skip1]
theorem LxAt.white (h : LxAt s p e acc) (hc : (tl s)[p]? = some c) (hpe : e ≤ p) (hw : lxWh (bz c) = true) : LxAt s (p + 1) e acc := by
  have hd := h.cons hc
  have hp : p < s.size := by rw [← tl_len]; exact (List.getElem?_eq_some_iff.1 hc).1
  obtain ⟨h1, h2, h3, h4, h5⟩ := h
  refine ⟨by omega, h2, h3, fun k c hk => h4 k c (by omega), ?_⟩
  rw [h5, hd, show e - p = 0 by omega, show e - (p + 1) = 0 by omega, lx_wh hw]
theorem LxAt.bad (h : LxAt s p e acc) (hc : (tl s)[p]? = some c) (hpe : e ≤ p) (hw : lxWh (bz c) = false) (hf : lxFirst ((tl s).drop p) = none) : lxAll s = none := by
  have hd := h.cons hc
  obtain ⟨h1, h2, h3, h4, h5⟩ := h
  rw [hd] at hf
  rw [h5, hd, show e - p = 0 by omega, lx_bad hw hf]
  rfl
theorem LxAt.tok (h : LxAt s p e acc) (hc : (tl s)[p]? = some c) (hpe : e ≤ p) {k n : Int} {m : Nat} (hf : lxFirst ((tl s).drop p) = some (k, m, n)) :
    LxAt s (p + 1) (p + m) (acc ++ [⟨k, mk (((tl s).drop p).take m), n, (p : Int)⟩]) ∧ 0 < m ∧ p + m ≤ s.size := by
  have hd := h.cons hc
  have hp : p < s.size := by rw [← tl_len]; exact (List.getElem?_eq_some_iff.1 hc).1
  obtain ⟨h1, h2, h3, h4, h5⟩ := h
  have hm := first_len hf
  rw [List.length_drop, tl_len] at hm
  refine ⟨⟨by omega, by omega, by rw [List.length_append, List.length_singleton]; omega, fun j x hj hjm hx => ?_, ?_⟩, hm.1, by omega⟩
  · refine first_ascii hf (j := j - p) (by omega) ?_
    rw [List.getElem?_drop, show p + (j - p) = j by omega]
    exact hx
  · have hf2 := hf
    rw [hd] at hf2
    rw [h5, show e - p = 0 by omega, hd, lx_good hf2, ← hd, show p + m - (p + 1) = m - 1 by omega]
    cases lx (m - 1) (p + 1) ((tl s).drop (p + 1)) with
    | none => rfl
    | some us => simp
theorem LxAt.done (h : LxAt s s.size e acc) : lxAll s = some acc := by
  obtain ⟨h1, h2, h3, h4, h5⟩ := h
  rw [h5, List.drop_of_length_le (by rw [tl_len]; exact Nat.le_refl _), lx_nil]
  simp
/-- The reference's step over a whole token. -/
theorem LxAt.jump (h : LxAt s p p acc) (hp : p < s.size) {k n : Int} {m : Nat} (hf : lxFirst ((tl s).drop p) = some (k, m, n)) :
    LxAt s (p + m) (p + m) (acc ++ [⟨k, mk (((tl s).drop p).take m), n, (p : Int)⟩]) ∧ 0 < m ∧ p + m ≤ s.size := by
  obtain ⟨c, hc⟩ : ∃ c, (tl s)[p]? = some c := ⟨_, List.getElem?_eq_getElem (by rw [tl_len]; exact hp)⟩
  obtain ⟨⟨g1, g2, g3, g4, g5⟩, h0, hl⟩ := h.tok hc (Nat.le_refl _) hf
  refine ⟨⟨hl, hl, g3, fun k c h1 h2 => by omega, ?_⟩, h0, hl⟩
  rw [g5, lx_skip _ _ _ (by rw [List.length_drop, tl_len]; omega), List.drop_drop, show p + 1 + (p + m - (p + 1)) = p + m by omega, show p + m - (p + m) = 0 by omega]
end
/-! ## Showing token by token -/
theorem shw_step {ts : List Tk} {i : Nat} {t : Tk} (h : ts[i]? = some t) : shw (ts.take (i + 1)) = if i = 0 then tl t.t else shw (ts.take i) ++ (32 :: tl t.t) := by
  have hl := (List.getElem?_eq_some_iff.1 h).1
  rw [List.take_add_one, h, Option.toList_some, shw_snoc]
  by_cases h0 : i = 0
  · subst h0; rfl
  · rw [if_neg h0, if_neg]
    intro e
    have h1 := congrArg List.length e
    rw [List.length_take, List.length_nil] at h1
    omega
theorem sum_bound (M : Nat) : ∀ (ts : List Tk), (∀ t ∈ ts, t.t.size ≤ M) → (ts.map fun t => t.t.size + 1).sum ≤ ts.length * (M + 1)
  | [], _ => by simp
  | t :: ts, h => by
    have h1 := sum_bound M ts fun x hx => h x (by simp [hx])
    have h2 := h t (by simp)
    rw [List.map_cons, List.sum_cons, List.length_cons, Nat.add_mul]
    omega
theorem shw_bound {ts : List Tk} {N M : Nat} (hn : ts.length ≤ N) (h : ∀ t ∈ ts, t.t.size ≤ M) (i : Nat) : (shw (ts.take i)).length ≤ N * (M + 1) := by
  have h1 := shw_len (ts.take i)
  have h2 := sum_bound M (ts.take i) fun t ht => h t (List.mem_of_mem_take ht)
  have h3 : (ts.take i).length * (M + 1) ≤ N * (M + 1) := Nat.mul_le_mul_right _ (by rw [List.length_take]; omega)
  omega
/-! ## The reference's runs -/
def dLen : List UInt8 → Nat
  | [] => 0
  | c :: r => if lxDig (bz c) = true then dLen r + 1 else 0
theorem dLen_le : ∀ l, dLen l ≤ l.length
  | [] => Nat.le_refl _
  | c :: r => by unfold dLen; split; exact Nat.succ_le_succ (dLen_le r); exact Nat.zero_le _
theorem dLen_all : ∀ l : List UInt8, ∀ c ∈ l.take (dLen l), lxDig (bz c) = true
  | [], c, h => by simp at h
  | x :: r, c, h => by
    unfold dLen at h
    split at h
    · rw [List.take_succ_cons] at h
      rcases List.mem_cons.1 h with rfl | h
      · assumption
      · exact dLen_all r c h
    · simp at h
theorem dLen_step {l : List UInt8} {k : Nat} {c : UInt8} (h : dLen l = k + dLen (l.drop k)) (hc : l[k]? = some c) (hw : lxDig (bz c) = true) : dLen l = (k + 1) + dLen (l.drop (k + 1)) := by
  obtain ⟨hlt, he⟩ := List.getElem?_eq_some_iff.1 hc
  rw [h, List.drop_eq_getElem_cons hlt, he, dLen, if_pos hw]
  omega
theorem dLen_stop {l : List UInt8} {k : Nat} {c : UInt8} (h : dLen l = k + dLen (l.drop k)) (hc : l[k]? = some c) (hw : lxDig (bz c) = false) : dLen l = k := by
  obtain ⟨hlt, he⟩ := List.getElem?_eq_some_iff.1 hc
  rw [h, List.drop_eq_getElem_cons hlt, he, dLen, hw]
  simp
theorem dLen_end {l : List UInt8} {k : Nat} (h : dLen l = k + dLen (l.drop k)) (hk : l.length ≤ k) : dLen l = l.length := by
  have h1 := dLen_le l
  rw [List.drop_of_length_le hk] at h
  simp only [dLen] at h
  omega
theorem wLen_dLen : ∀ {l : List UInt8}, (∀ c, l[dLen l]? = some c → lxWd (bz c) = false) → wLen l = dLen l
  | [], _ => rfl
  | c :: r, h => by
    by_cases hd : lxDig (bz c) = true
    · have e : dLen (c :: r) = dLen r + 1 := by rw [dLen, if_pos hd]
      rw [e] at h ⊢
      rw [wLen, if_pos (wd_of_dig hd), wLen_dLen fun x hx => h x (by simpa using hx)]
    · have e : dLen (c :: r) = 0 := by rw [dLen, if_neg hd]
      rw [e] at h ⊢
      rw [wLen, h c rfl]
      simp
theorem dLen_mem : ∀ {l : List UInt8} {x : UInt8}, l[dLen l]? = some x → lxWd (bz x) = true → x ∈ l.take (wLen l) ∧ lxDig (bz x) = false
  | [], x, h, _ => by simp at h
  | c :: r, x, h, hw => by
    by_cases hd : lxDig (bz c) = true
    · have e : dLen (c :: r) = dLen r + 1 := by rw [dLen, if_pos hd]
      rw [e] at h
      obtain ⟨h1, h2⟩ := dLen_mem (l := r) (x := x) (by simpa using h) hw
      refine ⟨?_, h2⟩
      rw [wLen, if_pos (wd_of_dig hd), List.take_succ_cons]
      exact List.mem_cons_of_mem _ h1
    · have e : dLen (c :: r) = 0 := by rw [dLen, if_neg hd]
      rw [e] at h
      cases h
      refine ⟨?_, not_of hd⟩
      rw [wLen, if_pos hw, List.take_succ_cons]
      exact List.mem_cons_self
theorem dig_bad {l : List UInt8} {x : UInt8} (h : l[dLen l]? = some x) (hw : lxWd (bz x) = true) : numOK (l.take (wLen l)) = false := by
  obtain ⟨h1, h2⟩ := dLen_mem h hw
  exact numOK_bad h1 h2
/-- What the reference makes of the first token. -/
theorem first_us {c : UInt8} {r : List UInt8} (h : bz c = 95) : lxFirst (c :: r) = none := by
  have hc : c = 95 := UInt8.toNat_inj.1 (by unfold bz at h; rw [show (95 : UInt8).toNat = 95 from rfl]; omega)
  subst hc
  rw [first_sgn (by decide) (by decide), if_pos]
  cases r with
  | nil => rfl
  | cons b r =>
    rw [sgn_two, if_neg (by intro h; rcases two_iff.1 h with ⟨h, _⟩ | ⟨h, _⟩ | ⟨h, _⟩ | ⟨h, _⟩ <;> exact absurd h (by decide)), if_neg (by decide)]
section
variable {s : ByteArray} {p e : Nat} {acc : List Tk} {c : UInt8}
theorem LxAt.up (h : LxAt s p e acc) (he : e ≤ p) : LxAt s p p acc := by
  obtain ⟨h1, h2, h3, h4, h5⟩ := h
  exact ⟨h1, h1, by omega, fun k c hk hk2 => by omega, by rw [h5, show e - p = 0 by omega, Nat.sub_self]⟩
theorem lx_head (hc : (tl s)[p]? = some c) : (tl s).drop p = c :: (tl s).drop (p + 1) := by
  obtain ⟨hl, he⟩ := List.getElem?_eq_some_iff.1 hc
  rw [List.drop_eq_getElem_cons hl, he]
theorem ex_tok (s : ByteArray) (p m : Nat) : s.extract p (p + m) = mk (((tl s).drop p).take m) := by
  refine ba_ext ?_
  rw [tl_extract, tl_mk, Nat.add_sub_cancel_left]
end
end Go.Proofs.YtgliealofieenaaDoor
