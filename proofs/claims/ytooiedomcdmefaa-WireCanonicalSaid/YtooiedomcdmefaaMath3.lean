/-
  Layer 1's strings and lists: round trips, proper prefixes, canonical forms. Numbers and lists alone.
-/
import Derived.Test.YtooiedomcdmefaaMath2
import Derived.Test.YtooiedomcdmefaaGDigs
namespace Go.Proofs.Ytooiedomcdmefaa

theorem getLen_enc (n z : Nat) (hn : (n : Int) ≤ 9223372036854775807) (hz : 0 < z) (t : List UInt8) (h : n * z ≤ t.length) : getLen (encInt (n : Int) ++ t) z = ((n : Int), (encInt (n : Int)).length, 0) := by
  unfold getLen
  rw [getInt_encInt (n : Int) ⟨by omega, hn⟩]
  rw [if_neg (by simp), if_neg (by omega), if_neg]
  rw [List.length_append, Nat.add_sub_cancel_left]
  have := (Nat.le_div_iff_mul_le hz).2 h
  show ¬ ((t.length / z : Nat) : Int) < (n : Int)
  omega
/-- A list that ends too early, behind its length. -/
theorem getLen_short (n z : Nat) (hn : (n : Int) ≤ 9223372036854775807) (hz : 0 < z) (t : List UInt8) (h : t.length < n * z) : getLen (encInt (n : Int) ++ t) z = (0, 0, 6) := by
  unfold getLen
  rw [getInt_encInt (n : Int) ⟨by omega, hn⟩]
  rw [if_neg (by simp), if_neg (by omega), if_pos]
  rw [List.length_append, Nat.add_sub_cancel_left]
  have := (Nat.div_lt_iff_lt_mul hz).2 h
  show ((t.length / z : Nat) : Int) < (n : Int)
  omega
theorem getLen_prefix (n z k : Nat) (hn : (n : Int) ≤ 9223372036854775807) (hk : k < (encInt (n : Int)).length) : getLen ((encInt (n : Int)).take k) z = (0, 0, 6) := by
  unfold getLen
  rw [getInt_prefix (n : Int) ⟨by omega, hn⟩ k hk]
  rfl
theorem getLen_canon (l : List UInt8) (z : Nat) (m : Int) (u : Nat) (h : getLen l z = (m, u, 0)) : getInt l = (m, u, 0) := by
  unfold getLen at h
  split at h
  · rename_i h1; injection h with e1 e2; injection e2 with e2 e3; exact absurd e3 h1
  · split at h
    · injection h with e1 e2; injection e2 with e2 e3; cases e3
    · split at h
      · injection h with e1 e2; injection e2 with e2 e3; cases e3
      · exact h

/-! ## Strings -/
theorem getBytes_enc (s tail : List UInt8) (h : s.length ≤ 4611686018427387903) : getBytes (encBytes s ++ tail) = (s, (encBytes s).length, 0) := by
  have hl := getLen_enc s.length 1 (by omega) (by omega) (s ++ tail) (by simp)
  unfold getBytes encBytes
  rw [List.append_assoc, hl]
  simp
theorem take_app {α : Type} (a b : List α) (k : Nat) (h : a.length ≤ k) : (a ++ b).take k = a ++ b.take (k - a.length) := by
  rw [List.take_append, List.take_of_length_le h]
theorem getBytes_prefix (s : List UInt8) (h : s.length ≤ 4611686018427387903) (k : Nat) (hk : k < (encBytes s).length) : (getBytes ((encBytes s).take k)).2.2 = 6 := by
  unfold encBytes at hk ⊢
  rcases Nat.lt_or_ge k (encInt (s.length : Int)).length with h1 | h1
  · rw [List.take_append_of_le_length (by omega)]
    unfold getBytes
    rw [getLen_prefix s.length 1 k (by omega) h1]
    rfl
  · rw [take_app _ _ _ h1]
    unfold getBytes
    rw [getLen_short s.length 1 (by omega) (by omega) _ (by rw [List.length_append] at hk; rw [List.length_take]; omega)]
    rfl
theorem take_split {α : Type} (l : List α) (u k : Nat) : l.take u ++ (l.drop u).take k = l.take (u + k) := by
  rw [List.take_add]
theorem getBytes_canon (l : List UInt8) (s : List UInt8) (u : Nat) (h : getBytes l = (s, u, 0)) : encBytes s = l.take u ∧ u ≤ l.length := by
  have hok := getLen_ok l 1 (by omega)
  unfold getBytes at h
  rcases hok with ⟨he, hm, hu0, hu10, hum⟩ | he | he
  · rw [if_neg (by simp [he])] at h
    injection h with e1 e2
    injection e2 with e2 e3
    obtain ⟨m, v, er, hr⟩ : ∃ m v er, getLen l 1 = (m, v, er) := ⟨_, _, _, rfl⟩
    rw [hr] at he hm hum e1 e2
    simp only at he hm hum e1 e2
    subst he
    have hc := getInt_canon l m v (getLen_canon l 1 m v hr)
    subst e1 e2
    have hlen : ((l.drop v).take m.toNat).length = m.toNat := by rw [List.length_take, List.length_drop]; omega
    unfold encBytes
    rw [hlen, Int.toNat_of_nonneg hm, hc, take_split]
    exact ⟨rfl, by omega⟩
  · rw [he] at h
    injection h with e1 e2; injection e2 with e2 e3; cases e3
  · rw [he] at h
    injection h with e1 e2; injection e2 with e2 e3; cases e3

/-! ## Integers -/
theorem encAll_cons (x : Int) (l : List Int) : encAll (x :: l) = encInt x ++ encAll l := by unfold encAll; rw [List.flatMap_cons]
theorem encAll_ge (l : List Int) : l.length ≤ (encAll l).length := by
  induction l with
  | nil => simp
  | cons x l ih =>
    rw [encAll_cons, List.length_append, List.length_cons]
    have := leb_pos (zz x)
    unfold encInt
    omega
theorem drop_more {α : Type} {L a b : List α} {i : Nat} (h : L.drop i = a ++ b) : L.drop (i + a.length) = b := by
  rw [← List.drop_drop, h]
  exact List.drop_left
theorem getIntsGo_enc (L tail : List UInt8) : ∀ (l : List Int) (at0 : Nat) (acc : List Int), (∀ x ∈ l, I64 x) → L.drop at0 = encAll l ++ tail → getIntsGo l.length at0 L acc = (acc ++ l, at0 + (encAll l).length, 0)
  | [], at0, acc, _, _ => by simp [getIntsGo, encAll]
  | x :: l, at0, acc, h, hd => by
    rw [encAll_cons, List.append_assoc] at hd
    have hx := getInt_encInt x (h x (by simp)) (encAll l ++ tail)
    rw [List.length_cons, getIntsGo, hd, hx]
    rw [if_neg (by simp), getIntsGo_enc L tail l _ _ (fun y hy => h y (by simp [hy])) (drop_more hd), encAll_cons, List.length_append]
    simp
    omega
theorem getInts_enc (l : List Int) (tail : List UInt8) (hl : ∀ x ∈ l, I64 x) (h : l.length ≤ 4611686018427387903) : getInts (encInts l ++ tail) = (l, (encInts l).length, 0) := by
  have hg := encAll_ge l
  have hlen := getLen_enc l.length 1 (by omega) (by omega) (encAll l ++ tail) (by simp; omega)
  unfold getInts encInts
  rw [List.append_assoc, hlen]
  rw [if_neg (by simp)]
  simp only [Int.toNat_natCast]
  rw [getIntsGo_enc _ tail l _ [] hl (by rw [List.drop_left])]
  simp
theorem getIntsGo_short (L : List UInt8) : ∀ (l : List Int) (at0 : Nat) (acc : List Int) (k : Nat), (∀ x ∈ l, I64 x) → L.drop at0 = (encAll l).take k → k < (encAll l).length → (getIntsGo l.length at0 L acc).2.2 = 6
  | [], _, _, k, _, _, hk => by simp [encAll] at hk
  | x :: l, at0, acc, k, h, hd, hk => by
    rw [encAll_cons] at hd hk
    rw [List.length_append] at hk
    rw [List.length_cons, getIntsGo]
    rcases Nat.lt_or_ge k (encInt x).length with h1 | h1
    · rw [List.take_append_of_le_length (by omega)] at hd
      rw [hd, getInt_prefix x (h x (by simp)) k h1]
      rfl
    · rw [take_app _ _ _ h1] at hd
      rw [hd, getInt_encInt x (h x (by simp))]
      rw [if_neg (by simp)]
      exact getIntsGo_short L l _ _ (k - (encInt x).length) (fun y hy => h y (by simp [hy])) (drop_more hd) (by omega)
theorem getInts_prefix (l : List Int) (hl : ∀ x ∈ l, I64 x) (h : l.length ≤ 4611686018427387903) (k : Nat) (hk : k < (encInts l).length) : (getInts ((encInts l).take k)).2.2 = 6 := by
  unfold encInts at hk ⊢
  rcases Nat.lt_or_ge k (encInt (l.length : Int)).length with h1 | h1
  · rw [List.take_append_of_le_length (by omega)]
    unfold getInts
    rw [getLen_prefix l.length 1 k (by omega) h1]
    rfl
  · rw [take_app _ _ _ h1]
    rw [List.length_append] at hk
    unfold getInts
    rcases Nat.lt_or_ge ((encAll l).take (k - (encInt (l.length : Int)).length)).length (l.length * 1) with h2 | h2
    · rw [getLen_short l.length 1 (by omega) (by omega) _ h2]
      rfl
    · rw [getLen_enc l.length 1 (by omega) (by omega) _ h2]
      rw [if_neg (by simp)]
      simp only [Int.toNat_natCast]
      exact getIntsGo_short _ l _ [] (k - (encInt (l.length : Int)).length) hl List.drop_left (by omega)
theorem getIntsGo_canon (L : List UInt8) : ∀ (k at0 : Nat) (acc l : List Int) (u : Nat), at0 ≤ L.length → getIntsGo k at0 L acc = (l, u, 0) → ∃ m, l = acc ++ m ∧ m.length = k ∧ at0 ≤ u ∧ u ≤ L.length ∧ encAll m = (L.drop at0).take (u - at0) ∧ ∀ x ∈ m, I64 x
  | 0, at0, acc, l, u, ha, h => by
    injection h with e1 e2
    injection e2 with e2 e3
    subst e1 e2
    exact ⟨[], by simp, rfl, Nat.le_refl _, ha, by simp [encAll], by simp⟩
  | k + 1, at0, acc, l, u, ha, h => by
    rw [getIntsGo] at h
    obtain ⟨x, v, er, hr⟩ : ∃ x v er, getInt (L.drop at0) = (x, v, er) := ⟨_, _, _, rfl⟩
    have hok := getInt_ok (L.drop at0)
    rw [hr] at h hok
    simp only at h hok
    by_cases he : er = 0
    · subst he
      rw [if_neg (by simp)] at h
      rcases hok with ⟨_, hx, hv0, hvl, _⟩ | h2 | h2
      · rw [List.length_drop] at hvl
        have hc := getInt_canon _ _ _ hr
        obtain ⟨m, h1, h2, h3, h4, h5, h6⟩ := getIntsGo_canon L k (at0 + v) (acc ++ [x]) l u (by omega) h
        refine ⟨x :: m, by rw [h1]; simp, by simp [h2], by omega, h4, ?_, ?_⟩
        · rw [encAll_cons, hc, h5, ← List.drop_drop, take_split]
          congr 1
          omega
        · intro y hy
          rcases List.mem_cons.1 hy with rfl | hy
          · exact hx
          · exact h6 y hy
      · injection h2 with e1 e2; injection e2 with e2 e3; cases e3
      · injection h2 with e1 e2; injection e2 with e2 e3; cases e3
    · rw [if_pos he] at h
      injection h with e1 e2
      injection e2 with e2 e3
      exact absurd e3 he
theorem getInts_canon (L : List UInt8) (l : List Int) (u : Nat) (h : getInts L = (l, u, 0)) : encInts l = L.take u ∧ u ≤ L.length ∧ (∀ x ∈ l, I64 x) ∧ l.length ≤ L.length := by
  have hok := getLen_ok L 1 (by omega)
  unfold getInts at h
  rcases hok with ⟨he, hm, hu0, hu10, hum⟩ | he | he
  · rw [if_neg (by simp [he])] at h
    obtain ⟨m, v, er, hr⟩ : ∃ m v er, getLen L 1 = (m, v, er) := ⟨_, _, _, rfl⟩
    rw [hr] at he hm hum h
    simp only at he hm hum h
    subst he
    have hc := getInt_canon L m v (getLen_canon L 1 m v hr)
    obtain ⟨q, h1, h2, h3, h4, h5, h6⟩ := getIntsGo_canon L _ _ [] l u (by omega) h
    rw [List.nil_append] at h1
    subst h1
    unfold encInts
    rw [h2, Int.toNat_of_nonneg hm, hc, h5, take_split]
    exact ⟨by congr 1; omega, h4, h6, by omega⟩
  · rw [he] at h
    injection h with e1 e2; injection e2 with e2 e3; cases e3
  · rw [he] at h
    injection h with e1 e2; injection e2 with e2 e3; cases e3
theorem encInt_inj {m n : Int} (hm : I64 m) (hn : I64 n) (h : encInt m = encInt n) : m = n := by
  have h1 := getInt_encInt m hm []
  have h2 := getInt_encInt n hn []
  rw [h, h2] at h1
  injection h1 with h1 _
  exact h1.symm
theorem encInts_inj {k l : List Int} (hk : ∀ x ∈ k, I64 x) (hl : ∀ x ∈ l, I64 x) (h1 : k.length ≤ 4611686018427387903) (h2 : l.length ≤ 4611686018427387903) (h : encInts k = encInts l) : k = l := by
  have e1 := getInts_enc k [] hk h1
  have e2 := getInts_enc l [] hl h2
  rw [h, e2] at e1
  injection e1 with e1 _
  exact e1.symm

/-! ## Digests -/
theorem getDigsGo_enc (L tail : List UInt8) : ∀ (ds : List (List UInt8)) (at0 : Nat) (acc : List (List UInt8)), Len16 ds → L.drop at0 = ds.flatten ++ tail → getDigsGo ds.length at0 L acc = (acc ++ ds, at0 + ds.length * 16, 0)
  | [], at0, acc, _, _ => by simp [getDigsGo]
  | d :: ds, at0, acc, h, hd => by
    have h16 := h d (by simp)
    rw [List.flatten_cons, List.append_assoc] at hd
    have ht : (L.drop at0).take 16 = d := by rw [hd, ← h16]; exact List.take_left
    have hd2 : L.drop (at0 + 16) = ds.flatten ++ tail := by rw [← h16]; exact drop_more hd
    rw [List.length_cons, getDigsGo, ht, getDigsGo_enc L tail ds _ _ (fun y hy => h y (by simp [hy])) hd2]
    simp
    omega
theorem getDigs_enc (ds : List (List UInt8)) (tail : List UInt8) (h16 : Len16 ds) (h : ds.length ≤ 4611686018427387903) : getDigs (encDigs ds ++ tail) = (ds, (encDigs ds).length, 0) := by
  have hf := flatten_len ds h16
  have hlen := getLen_enc ds.length 16 (by omega) (by omega) (ds.flatten ++ tail) (by rw [List.length_append]; omega)
  unfold getDigs encDigs
  rw [List.append_assoc, hlen]
  rw [if_neg (by simp)]
  simp only [Int.toNat_natCast]
  rw [getDigsGo_enc _ tail ds _ [] h16 (by rw [List.drop_left]), List.length_append, hf]
  simp
theorem getDigs_prefix (ds : List (List UInt8)) (h16 : Len16 ds) (h : ds.length ≤ 4611686018427387903) (k : Nat) (hk : k < (encDigs ds).length) : (getDigs ((encDigs ds).take k)).2.2 = 6 := by
  have hf := flatten_len ds h16
  unfold encDigs at hk ⊢
  rcases Nat.lt_or_ge k (encInt (ds.length : Int)).length with h1 | h1
  · rw [List.take_append_of_le_length (by omega)]
    unfold getDigs
    rw [getLen_prefix ds.length 16 k (by omega) h1]
    rfl
  · rw [take_app _ _ _ h1]
    rw [List.length_append] at hk
    unfold getDigs
    rw [getLen_short ds.length 16 (by omega) (by omega) _ (by rw [List.length_take]; omega)]
    rfl
theorem getDigsGo_canon (L : List UInt8) : ∀ (k at0 : Nat) (acc : List (List UInt8)), at0 + k * 16 ≤ L.length → ∃ m, getDigsGo k at0 L acc = (acc ++ m, at0 + k * 16, 0) ∧ m.length = k ∧ Len16 m ∧ m.flatten = (L.drop at0).take (k * 16)
  | 0, at0, acc, _ => ⟨[], by simp [getDigsGo], rfl, by intro d hd; simp at hd, by simp⟩
  | k + 1, at0, acc, h => by
    obtain ⟨m, h1, h2, h3, h4⟩ := getDigsGo_canon L k (at0 + 16) (acc ++ [(L.drop at0).take 16]) (by omega)
    have hd : ((L.drop at0).take 16).length = 16 := by rw [List.length_take, List.length_drop]; omega
    refine ⟨(L.drop at0).take 16 :: m, ?_, by simp [h2], ?_, ?_⟩
    · rw [getDigsGo, h1]
      simp
      omega
    · intro d hd2
      rcases List.mem_cons.1 hd2 with rfl | hd2
      · exact hd
      · exact h3 d hd2
    · rw [List.flatten_cons, h4, ← List.drop_drop, take_split]
      congr 1
      omega
theorem getDigs_canon (L : List UInt8) (ds : List (List UInt8)) (u : Nat) (h : getDigs L = (ds, u, 0)) : encDigs ds = L.take u ∧ u ≤ L.length ∧ Len16 ds ∧ ds.length ≤ L.length := by
  have hok := getLen_ok L 16 (by omega)
  unfold getDigs at h
  rcases hok with ⟨he, hm, hu0, hu10, hum⟩ | he | he
  · rw [if_neg (by simp [he])] at h
    obtain ⟨m, v, er, hr⟩ : ∃ m v er, getLen L 16 = (m, v, er) := ⟨_, _, _, rfl⟩
    rw [hr] at he hm hum h
    simp only at he hm hum h
    subst he
    have hc := getInt_canon L m v (getLen_canon L 16 m v hr)
    obtain ⟨q, h1, h2, h3, h4⟩ := getDigsGo_canon L m.toNat v [] hum
    rw [h1, List.nil_append] at h
    injection h with e1 e2
    injection e2 with e2 e3
    subst e1 e2
    unfold encDigs
    rw [h2, Int.toNat_of_nonneg hm, hc, h4, take_split]
    exact ⟨rfl, by omega, h3, by omega⟩
  · rw [he] at h
    injection h with e1 e2; injection e2 with e2 e3; cases e3
  · rw [he] at h
    injection h with e1 e2; injection e2 with e2 e3; cases e3
/-- With an error nothing else comes back. -/
theorem getIntsGo_err (L : List UInt8) : ∀ (k at0 : Nat) (acc : List Int), (getIntsGo k at0 L acc).2.2 ≠ 0 → (getIntsGo k at0 L acc).1 = [] ∧ (getIntsGo k at0 L acc).2.1 = 0
  | 0, _, _, h => absurd rfl h
  | k + 1, at0, acc, h => by
    rw [getIntsGo] at h ⊢
    split
    · exact ⟨rfl, rfl⟩
    · rename_i h1
      rw [if_neg h1] at h
      exact getIntsGo_err L k _ _ h
end Go.Proofs.Ytooiedomcdmefaa
