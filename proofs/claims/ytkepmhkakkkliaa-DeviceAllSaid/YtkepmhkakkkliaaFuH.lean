/-
  Sequences of pulses: how they read, and what the law file's hits returns: a contract by a walk. Condition: bounded lengths.
-/
import Derived.Test.YtkepmhkakkkliaaFuP
namespace Go.Proofs.Ytkepmhkakkkliaa
open Go.RowKit

def hv (h : FHit) : List Value := [.int .i64 h.b, .int .i64 h.c, .bool h.cut]
def hvs (l : List FHit) : List Value := l.flatMap hv
theorem hvs_len (l : List FHit) : (hvs l).length = l.length * 3 := by
  induction l with
  | nil => rfl
  | cons h l ih => show (hv h ++ hvs l).length = _; rw [List.length_append, ih, List.length_cons]; show 3 + _ = _; omega
theorem hvs_at : ∀ {l : List FHit} {i : Nat} {h : FHit}, l[i]? = some h → ∀ j u, (hv h)[j]? = some u → (hvs l)[i * 3 + j]? = some u
  | [], i, h, hi, _, _, _ => by simp at hi
  | x :: l, 0, h, hi, j, u, hu => by
    simp at hi
    subst hi
    show (hv x ++ hvs l)[0 * 3 + j]? = _
    rw [List.getElem?_append_left (by rw [Nat.zero_mul, Nat.zero_add]; exact (List.getElem?_eq_some_iff.1 hu).1), Nat.zero_mul, Nat.zero_add]
    exact hu
  | x :: l, i + 1, h, hi, j, u, hu => by
    show (hv x ++ hvs l)[(i + 1) * 3 + j]? = _
    rw [List.getElem?_append_right (by show 3 ≤ _; omega)]
    have := hvs_at (l := l) (i := i) (by simpa using hi) j u hu
    rw [← this]
    congr 1
    show (i + 1) * 3 + j - 3 = _
    omega
theorem hvs_one (l : List FHit) : ∀ u ∈ hvs l, u.oneCell' = true := by
  intro u hu
  obtain ⟨h, _, hu⟩ := List.mem_flatMap.1 hu
  unfold hv at hu
  simp only [List.mem_cons, List.not_mem_nil, or_false] at hu
  rcases hu with rfl | rfl | rfl <;> rfl
theorem hv_one (h : FHit) : ∀ u ∈ hv h, u.oneCell' = true := by
  intro u hu
  unfold hv at hu
  simp only [List.mem_cons, List.not_mem_nil, or_false] at hu
  rcases hu with rfl | rfl | rfl <;> rfl
theorem hvs_app (l k : List FHit) : hvs (l ++ k) = hvs l ++ hvs k := List.flatMap_append ..
theorem Reads.hits_len {w : World} {B n : Nat} {A : Option Addr} {l : List FHit} (h : Reads w B 3 A n (hvs l)) : l.length = n := by
  have := h.1; rw [hvs_len] at this; omega
theorem Reads.hit_at {w : World} {B n : Nat} {A : Option Addr} {l : List FHit} (h : Reads w B 3 A n (hvs l)) {i : Nat} {x : FHit} (hx : l[i]? = some x) :
    ∃ ad, A = some ad ∧ ad.block < B ∧ ∀ j u, (hv x)[j]? = some u → w.cell? (ad.add (i * 3 + j)) = some u := by
  have hi : i < n := by have := h.hits_len; have := (List.getElem?_eq_some_iff.1 hx).1; omega
  obtain ⟨ad, hA, hb, hc⟩ := h.2 (by omega)
  exact ⟨ad, hA, hb, fun j u hu => hc _ u (hvs_at hx j u hu)⟩

theorem fuPulse_lens (bs : List (List UInt8)) (b c : Int) (cut : Bool) : (fuPulse bs b c cut).map List.length = bs.map List.length := by
  unfold fuPulse
  split
  · rename_i h
    obtain ⟨k, j, l, rfl, rfl, hl, hj⟩ := fuEx_iff.1 h
    rw [List.map_set, List.length_set, fuBank_nat hl, Int.toNat_natCast]
    refine List.ext_getElem? fun i => ?_
    rw [List.getElem?_set]
    split
    · rename_i e
      subst e
      rw [List.length_map, if_pos (List.getElem?_eq_some_iff.1 hl).1, List.getElem?_map, hl]
      rfl
    · rfl
  · rfl
theorem fuHits_lens : ∀ (l : List FHit) (bs : List (List UInt8)), (fuHits bs l).map List.length = bs.map List.length
  | [], _ => rfl
  | h :: l, bs => by
    show (fuHits (fuPulse bs h.b h.c h.cut) l).map _ = _
    rw [fuHits_lens l, fuPulse_lens]
/-- Parts that read as banks of bounded lengths are bounded. -/
theorem parts_le {w : World} {A : Option Addr} {n c : Nat} {ps : List Part} (h : FuOK w A n c ps) {bs : List (List UInt8)} {k m : Nat} (hb : (bk ps).map List.length = bs.map List.length) (hm : bs.length = m) (hk : ∀ l ∈ bs, l.length ≤ k) : n = m ∧ ∀ p ∈ ps, p.n ≤ k := by
  have hl := congrArg List.length hb
  rw [List.length_map, List.length_map, bk_len, h.1.len] at hl
  refine ⟨by omega, fun p hp => ?_⟩
  have h1 : p.l.length ∈ (bk ps).map List.length := List.mem_map.2 ⟨p.l, List.mem_map.2 ⟨p, hp, rfl⟩, rfl⟩
  rw [hb] at h1
  obtain ⟨l, hl', e⟩ := List.mem_map.1 h1
  have := hk l hl'
  have h3 := (h.1.2 p hp).1.bytes_len
  omega

end Go.Proofs.Ytkepmhkakkkliaa
