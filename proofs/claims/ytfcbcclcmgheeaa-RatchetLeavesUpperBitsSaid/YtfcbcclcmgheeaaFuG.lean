/-
  What fuse.exists, fuse.Width, fuse.Read and fuse.pulsed return: contracts by walks. No condition but bounded lengths.
-/
import Derived.Test.YtfcbcclcmgheeaaProg
import Derived.Test.YtfcbcclcmgheeaaFuMM
import Derived.Test.YtfcbcclcmgheeaaBase
import Derived.Deep.LoopGhost
import Derived.Lib.SliceRun
namespace Go.Proofs.Ytfcbcclcmgheeaa
open Go.RowKit

/-- The banks that the parts read as. -/
def bk (ps : List Part) : List (List UInt8) := ps.map Part.l
theorem bk_len (ps : List Part) : (bk ps).length = ps.length := List.length_map _
theorem bk_get {ps : List Part} {k : Nat} {p : Part} (h : ps[k]? = some p) : (bk ps)[k]? = some p.l := by unfold bk; rw [List.getElem?_map, h]; rfl
/-- The value of fuses. -/
def fuv (A : Option Addr) (n c : Nat) : Value := .agg #[.slice A n c]
/-- An integer comes back; nothing that was there has changed. -/
def TellsI (x : Int) (w : World) (e : Ending) (w' : World) : Prop := e = .returned (.int .i64 x) ∧ Below w.heap.size w w'
def TellsII (x y : Int) (w : World) (e : Ending) (w' : World) : Prop := e = .returned (.tuple #[.int .i64 x, .int .i64 y]) ∧ Below w.heap.size w w'
theorem Reads.byte_at {w : World} {B n : Nat} {A : Option Addr} {l : List UInt8} (h : Reads w B 1 A n (bvs l)) {i : Nat} {s : UInt8} (hs : l[i]? = some s) : ∃ ad, A = some ad ∧ ad.block < B ∧ w.cell? (ad.add i) = some (bv s) := by
  have hi : i < n := by have := h.bytes_len; have := (List.getElem?_eq_some_iff.1 hs).1; omega
  obtain ⟨ad, u, hA, hb, hu, hc⟩ := h.at_ hi
  unfold bvs at hu
  rw [List.getElem?_map, hs] at hu
  cases hu
  exact ⟨ad, hA, hb, hc⟩
/-- The states of a cell, as a reading tells them apart. -/
theorem fu_states (s : UInt8) : (s.toNat = 2 ∧ ∀ z, fuRd s z = true) ∨ (s.toNat ≠ 2 ∧ s.toNat = 1 ∧ ∀ z, fuRd s z = z) ∨ (s.toNat ≠ 2 ∧ s.toNat ≠ 1 ∧ ∀ z, fuRd s z = false) := by
  unfold fuRd
  by_cases h2 : s = 2
  · subst h2; exact .inl ⟨rfl, fun z => rfl⟩
  · have g2 : s.toNat ≠ 2 := fun h => h2 (UInt8.toNat.inj h)
    by_cases h1 : s = 1
    · subst h1; exact .inr (.inl ⟨by decide, rfl, fun z => by cases z <;> rfl⟩)
    · exact .inr (.inr ⟨g2, fun h => h1 (UInt8.toNat.inj h), fun z => by rw [beq_eq_false_iff_ne.2 h2, beq_eq_false_iff_ne.2 h1]; rfl⟩)

theorem fu_pstates (s : UInt8) (cut : Bool) : ((s.toNat = 0 ∨ s.toNat = 1) ∧ fuPl s cut = if cut then 1 else 2) ∨ (s.toNat ≠ 0 ∧ s.toNat ≠ 1 ∧ fuPl s cut = s) := by
  unfold fuPl
  by_cases h0 : s = 0
  · subst h0; exact .inl ⟨.inl rfl, rfl⟩
  · by_cases h1 : s = 1
    · subst h1; exact .inl ⟨.inr rfl, rfl⟩
    · exact .inr ⟨fun h => h0 (UInt8.toNat.inj h), fun h => h1 (UInt8.toNat.inj h), by rw [beq_eq_false_iff_ne.2 h0, beq_eq_false_iff_ne.2 h1]; rfl⟩
end Go.Proofs.Ytfcbcclcmgheeaa

/-
  Fuses of the call's own: what slices.Clone returns at banks and at cells, by walks; words for rows that lie apart. Condition: bounded lengths.
-/
namespace Go.Proofs.Ytfcbcclcmgheeaa
open Go.RowKit

theorem info_u8f : (Try.prog.info? 5).map (fun i => (i.zero, i.size, i.bytes)) = some (some (.int .u8 0), 1, 1) := by kernel_rfl
theorem info_bk : (Try.prog.info? 35).map (fun i => (i.zero, i.size, i.bytes)) = some (some (.slice none 0 0), 1, 24) := by kernel_rfl
/-- Fuses that read as banks. -/
def FuOK (w : World) (A : Option Addr) (n c : Nat) (ps : List Part) : Prop := ReadsP w w.heap.size A n ps ∧ n ≤ c ∧ ∀ p ∈ ps, p.n ≤ maxLen
theorem FuOK.on {w w' : World} {A : Option Addr} {n c : Nat} {ps : List Part} (h : FuOK w A n c ps) (hb : Below w.heap.size w w') : FuOK w' A n c ps := ⟨h.1.on hb, h.2.1, h.2.2⟩
/-- The blocks in which fuses lie. -/
def FuIn (X : Nat → Prop) (A : Option Addr) (n : Nat) (ps : List Part) : Prop := (0 < n → ∀ ad, A = some ad → X ad.block) ∧ ∀ p ∈ ps, 0 < p.n → ∀ ad, p.A = some ad → X ad.block
theorem FuIn.nil_ {X : Nat → Prop} {A : Option Addr} : FuIn X A 0 [] := ⟨fun h => absurd h (by omega), fun p hp => by simp at hp⟩
theorem FuIn.weak {X Y : Nat → Prop} {A : Option Addr} {n : Nat} {ps : List Part} (h : FuIn X A n ps) (hy : ∀ b, X b → Y b) : FuIn Y A n ps := ⟨fun h0 ad e => hy _ (h.1 h0 ad e), fun p hp h0 ad e => hy _ (h.2 p hp h0 ad e)⟩
/-- Fuses come back, and an error; they lie in blocks of X or in new ones. -/
def GivesFX (X : Nat → Prop) (bs : List (List UInt8)) (x : Int) (w : World) (e : Ending) (w' : World) : Prop :=
  ∃ A n c ps, e = .returned (.tuple #[fuv A n c, .int .i64 x]) ∧ FuOK w' A n c ps ∧ FuIn (fun b => X b ∨ w.heap.size ≤ b) A n ps ∧ bk ps = bs ∧ Below w.heap.size w w'
/-- Fuses come back, and an error. -/
def GivesFE (bs : List (List UInt8)) (x : Int) (w : World) (e : Ending) (w' : World) : Prop :=
  ∃ A n c ps, e = .returned (.tuple #[fuv A n c, .int .i64 x]) ∧ FuOK w' A n c ps ∧ bk ps = bs ∧ Below w.heap.size w w'
def GivesF (bs : List (List UInt8)) (w : World) (e : Ending) (w' : World) : Prop :=
  ∃ A n c ps, e = .returned (fuv A n c) ∧ FuOK w' A n c ps ∧ bk ps = bs ∧ Below w.heap.size w w'

def Apart (ps : List Part) : Prop := ps.Pairwise fun p q => p.v.ownBlock = none ∨ p.v.ownBlock ≠ q.v.ownBlock
/-- Parts of the call's own. -/
def OwnL (w : World) (base : Nat) (ps : List Part) : Prop := (∀ p ∈ ps, w.ownsRow base 5 1 p.v p.n (bvs p.l)) ∧ Apart ps
section
variable {w w' : World} {base : Nat} {ps : List Part}
theorem OwnL.nil_ : OwnL w base [] := ⟨fun p h => by simp at h, List.Pairwise.nil⟩
theorem OwnL.below (h : OwnL w base ps) (hb : Below w.heap.size w w') : OwnL w' base ps := ⟨fun p hp => own_below (h.1 p hp) hb, h.2⟩
theorem OwnL.kept {g : Nat} (h : OwnL w base ps) (hg : w.grownBy w' (some g)) (hlt : g < base) : OwnL w' base ps :=
  ⟨fun p hp => (h.1 p hp).kept hg (by
    cases hv : p.v.ownBlock with
    | none => exact .inl rfl
    | some k => exact .inr (fun e => by cases e; have := ((h.1 p hp).lt g hv).1; omega)), h.2⟩
theorem OwnL.snoc (h : OwnL w base ps) (hb : Below w.heap.size w w') (hN : base ≤ w.heap.size) {q : Part} (hq : w'.ownsRow w.heap.size 5 1 q.v q.n (bvs q.l)) : OwnL w' base (ps ++ [q]) := by
  refine ⟨fun p hp => ?_, ?_⟩
  · rcases List.mem_append.1 hp with hp | hp
    · exact own_below (h.1 p hp) hb
    · simp at hp; rw [hp]; exact own_base hq hN
  · refine List.pairwise_append.2 ⟨h.2, List.pairwise_singleton _ _, fun p hp r hr => ?_⟩
    simp at hr
    subst hr
    cases hv : p.v.ownBlock with
    | none => exact .inl rfl
    | some k =>
      refine .inr fun e => ?_
      have h1 := ((h.1 p hp).lt k hv).2
      have h2 := (hq.lt k e.symm).1
      omega
theorem OwnL.reads (h : OwnL w base ps) {A : Option Addr} {n : Nat} (hr : Reads w w.heap.size 1 A n (ps.map Part.v)) : ReadsP w w.heap.size A n ps ∧ ∀ p ∈ ps, p.n ≤ maxLen := by
  have hp : ∀ p ∈ ps, PartOK w w.heap.size p ∧ p.n ≤ maxLen := fun p hp => by
    obtain ⟨A, c, hv, hc, hm, hr⟩ := own_form (h.1 p hp)
    unfold Part.v at hv
    injection hv with e1 e2 e3
    exact ⟨⟨by rw [e1]; exact hr, by omega⟩, by omega⟩
  exact ⟨⟨hr, fun p h => (hp p h).1⟩, fun p h => (hp p h).2⟩
end

theorem OwnL.blocks {w : World} {base : Nat} {ps : List Part} (h : OwnL w base ps) : ∀ p ∈ ps, 0 < p.n → ∀ ad, p.A = some ad → base ≤ ad.block := fun p hp h0 ad e => own_block (h.1 p hp) h0 ad e
/-- A cell of one part is set. -/
def setPart (ps : List Part) (k : Nat) (p : Part) (j : Nat) (s : UInt8) : List Part := ps.set k { p with l := p.l.set j s }
theorem setPart_v {ps : List Part} {k : Nat} {p : Part} (hp : ps[k]? = some p) (j : Nat) (s : UInt8) : (setPart ps k p j s).map Part.v = ps.map Part.v := by
  unfold setPart
  rw [List.map_set]
  have h : (ps.map Part.v)[k]? = some p.v := by rw [List.getElem?_map, hp]; rfl
  refine List.ext_getElem? fun i => ?_
  rw [List.getElem?_set]
  split
  · rename_i e
    subst e
    rw [h]
    split
    · rfl
    · rename_i hk
      rw [List.getElem?_eq_none (by omega)] at h
      cases h
  · rfl
theorem setPart_bk (ps : List Part) (k : Nat) (p : Part) (j : Nat) (s : UInt8) : bk (setPart ps k p j s) = (bk ps).set k (p.l.set j s) := by
  unfold setPart bk
  rw [List.map_set]
section
variable {P : Program}
theorem own_store {w : World} {base : Nat} {ps : List Part} (h : OwnL w base ps) {k : Nat} {p : Part} (hp : ps[k]? = some p) {j : Nat} (hj : j < p.n) (s : UInt8) (ty : TypeId) (hi : (P.info? ty).map (·.size) = some 1) :
    ∃ g, p.A = some ⟨g, 0, none⟩ ∧ base ≤ g ∧ ∃ w', (storeVar ty ⟨g, j, none⟩ (bv s)).run P w = .ok () w' ∧ OwnL w' base (setPart ps k p j s) ∧ w.grownBy w' (some g) := by
  have ho := h.1 p (List.mem_of_getElem? hp)
  have hl : p.l.length = p.n := by have := ho.1; rw [bvs_length] at this; omega
  obtain ⟨_, h0 | ⟨g, cap, cur, hv, hg, hh, hnc, hm, hcs, ht⟩⟩ := ho
  · omega
  have hv2 := hv
  unfold Part.v at hv
  injection hv with e1 e2 e3
  have hrow : Row w g 5 cur.toList := hh
  obtain ⟨w', hrun, hrow', hsz, hgr⟩ := run_store_elem (P := P) w ty g j 5 cur.toList hrow (bv s) rfl (by rw [Array.length_toList]; omega) hi
  refine ⟨g, e1, hg, w', hrun, ⟨fun q hq => ?_, ?_⟩, hgr⟩
  · unfold setPart at hq
    obtain ⟨i, hi', hqi⟩ := List.mem_iff_getElem.1 hq
    rw [List.getElem_set] at hqi
    rw [List.length_set] at hi'
    split at hqi
    · subst hqi
      refine ⟨by rw [bvs_length, List.length_set]; show p.l.length = p.n * 1; omega, .inr ⟨g, cap, (cur.toList.set j (bv s)).toArray, hv2, hg, hrow', hnc, hm, by simpa using hcs, ?_⟩⟩
      show List.take (p.n * 1) (cur.toList.set j (bv s)) = bvs (p.l.set j s)
      rw [List.take_set, ht]
      unfold bvs
      rw [List.map_set]
    · rename_i hne
      have hqm : q ∈ ps := hqi ▸ List.getElem_mem hi'
      refine (h.1 q hqm).kept hgr ?_
      have hk : k < ps.length := (List.getElem?_eq_some_iff.1 hp).1
      have hpk : ps[k] = p := (List.getElem?_eq_some_iff.1 hp).2
      have hb : p.v.ownBlock = some g := by rw [hv2]; rfl
      rcases Nat.lt_or_gt_of_ne hne with hlt | hlt
      · have := List.pairwise_iff_getElem.1 h.2 k i hk hi' hlt
        rw [hpk, hqi, hb] at this
        rcases this with h | h
        · cases h
        · exact .inr fun e => h e.symm
      · have := List.pairwise_iff_getElem.1 h.2 i k hi' hk hlt
        rw [hpk, hqi, hb] at this
        exact this
  · unfold Apart setPart
    refine List.pairwise_iff_getElem.2 fun i i' hi1 hi2 hlt => ?_
    rw [List.length_set] at hi1 hi2
    have hk : k < ps.length := (List.getElem?_eq_some_iff.1 hp).1
    have hpk : ps[k] = p := (List.getElem?_eq_some_iff.1 hp).2
    have hpw := List.pairwise_iff_getElem.1 h.2 i i' hi1 hi2 hlt
    have hvv : ∀ (m : Nat) (hm : m < ps.length) (hm' : m < (ps.set k { p with l := p.l.set j s }).length), (ps.set k { p with l := p.l.set j s })[m].v = ps[m].v := by
      intro m hm hm'
      rw [List.getElem_set]
      split
      · rename_i e; subst e; rw [hpk]; rfl
      · rfl
    rw [hvv i hi1, hvv i' hi2]
    exact hpw
end

end Go.Proofs.Ytfcbcclcmgheeaa
