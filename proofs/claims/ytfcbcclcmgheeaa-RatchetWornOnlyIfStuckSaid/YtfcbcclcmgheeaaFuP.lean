/-
  What fuse.clone and fuse.Pulse return: contracts by walks. Condition: bounded lengths.
-/
import Derived.Test.YtfcbcclcmgheeaaFuG
namespace Go.Proofs.Ytfcbcclcmgheeaa
open Go.RowKit

/-- Fuses of the call's own. -/
def OwnB (w : World) (base : Nat) (A : Option Addr) (n c : Nat) (qs : List Part) : Prop :=
  qs.length = n ∧ n ≤ c ∧ (0 < n → ∃ G tl, A = some ⟨G, 0, none⟩ ∧ base ≤ G ∧ Row w G 35 (qs.map Part.v ++ tl) ∧ OwnL w (G + 1) qs)
theorem OwnB.ok {w : World} {base : Nat} {A : Option Addr} {n c : Nat} {qs : List Part} (h : OwnB w base A n c qs) : FuOK w A n c qs := by
  obtain ⟨hl, hc, h⟩ := h
  rcases Nat.eq_zero_or_pos n with h0 | h0
  · subst h0
    obtain rfl : qs = [] := List.eq_nil_of_length_eq_zero hl
    exact ⟨⟨Reads.nil_, fun p hp => by simp at hp⟩, hc, fun p hp => by simp at hp⟩
  · obtain ⟨G, tl, rfl, _, hrow, ho⟩ := h h0
    have hr : Reads w w.heap.size 1 (some ⟨G, 0, none⟩) n (qs.map Part.v) := ⟨by rw [List.length_map, hl, Nat.mul_one], fun _ => ⟨_, rfl, hrow.lt, fun j u hj => by
      rw [Addr.add_lit, Nat.zero_add]
      refine hrow.cell ?_
      rw [List.getElem?_append_left (List.getElem?_eq_some_iff.1 hj).1]
      exact hj⟩⟩
    obtain ⟨h1, h2⟩ := ho.reads hr
    exact ⟨h1, hc, h2⟩
theorem OwnB.in_ {w : World} {base : Nat} {A : Option Addr} {n c : Nat} {qs : List Part} (h : OwnB w base A n c qs) : FuIn (fun b => base ≤ b) A n qs := by
  obtain ⟨hl, _, h⟩ := h
  rcases Nat.eq_zero_or_pos n with h0 | h0
  · subst h0
    obtain rfl : qs = [] := List.eq_nil_of_length_eq_zero hl
    exact FuIn.nil_
  · obtain ⟨G, tl, rfl, hG, _, ho⟩ := h h0
    refine ⟨fun _ ad e => by cases e; exact hG, fun p hp hp0 ad e => ?_⟩
    have := ho.blocks p hp hp0 ad e
    show base ≤ _
    omega
theorem partv_one (ps : List Part) : ∀ u ∈ ps.map Part.v, u.oneCell' = true := by
  intro u hu
  obtain ⟨p, _, rfl⟩ := List.mem_map.1 hu
  rfl
/-- The row of banks, the first i of which have been exchanged. -/
def midR (qs ps : List Part) (i : Nat) (tl : List Value) : List Value := qs.map Part.v ++ ((ps.drop i).map Part.v ++ tl)
theorem midR_at {qs ps : List Part} {i : Nat} {tl : List Value} (hq : qs.length = i) {p : Part} (hp : ps[i]? = some p) : (midR qs ps i tl)[i]? = some p.v := by
  unfold midR
  rw [List.getElem?_append_right (by rw [List.length_map]; omega), List.length_map, hq, Nat.sub_self, List.getElem?_append_left (by rw [List.length_map, List.length_drop]; have := (List.getElem?_eq_some_iff.1 hp).1; omega), List.getElem?_map, List.getElem?_drop, Nat.add_zero, hp]
  rfl
theorem midR_set {qs ps : List Part} {i : Nat} {tl : List Value} (hq : qs.length = i) {p : Part} (hp : ps[i]? = some p) (q : Part) : (midR qs ps i tl).set i q.v = midR (qs ++ [q]) ps (i + 1) tl := by
  have hi := (List.getElem?_eq_some_iff.1 hp).1
  unfold midR
  rw [List.set_append_right _ _ (by rw [List.length_map]; omega), List.length_map, hq, Nat.sub_self, List.drop_eq_getElem_cons hi, List.map_cons, List.cons_append, List.set_cons_zero, List.map_append, List.append_assoc]
  rfl
theorem midR_len {qs ps : List Part} {i : Nat} {tl : List Value} {p : Part} (hp : ps[i]? = some p) (hq : qs.length = i) : i < (midR qs ps i tl).length := by
  have hi := (List.getElem?_eq_some_iff.1 hp).1
  unfold midR
  rw [List.length_append, List.length_append, List.length_map, List.length_map, List.length_drop]
  omega

theorem OwnB.base {w : World} {b b' : Nat} {A : Option Addr} {n c : Nat} {qs : List Part} (h : OwnB w b A n c qs) (hb : b' ≤ b) : OwnB w b' A n c qs := ⟨h.1, h.2.1, fun h0 => by
  obtain ⟨G, tl, e1, e2, e3⟩ := h.2.2 h0
  exact ⟨G, tl, e1, Nat.le_trans hb e2, e3⟩⟩
theorem OwnB.kept {w w' : World} {b g : Nat} {A : Option Addr} {n c : Nat} {qs : List Part} (h : OwnB w b A n c qs) (hg : w.grownBy w' (some g)) (hlt : g < b) : OwnB w' b A n c qs := ⟨h.1, h.2.1, fun h0 => by
  obtain ⟨G, tl, e1, e2, e3, e4⟩ := h.2.2 h0
  exact ⟨G, tl, e1, e2, e3.kept hg (by simp; omega), e4.kept hg (by omega)⟩⟩
/-- Fuses of the call's own come back, and an error. -/
def GivesFO (bs : List (List UInt8)) (x : Int) (w : World) (e : Ending) (w' : World) : Prop :=
  ∃ A n c ps, e = .returned (.tuple #[fuv A n c, .int .i64 x]) ∧ OwnB w' w.heap.size A n c ps ∧ bk ps = bs ∧ Below w.heap.size w w'


end Go.Proofs.Ytfcbcclcmgheeaa
