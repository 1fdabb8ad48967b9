/-
  What the law file's few returns: a contract by a walk. No condition but the lengths' range.
-/
import Derived.Test.YtfclifolniefpaaGreatDoorStFH
set_option linter.unusedSimpArgs false
set_option linter.unusedVariables false
namespace Go.Proofs.YtfclifolniefpaaGreatDoor
open Go.RowKit

def stFew (l : List StR) : Bool := decide (∀ r ∈ l, r.s.size ≤ 400) && decide (l.length ≤ 40)
theorem stFew_iff {l : List StR} : stFew l = true ↔ (∀ r ∈ l, r.s.size ≤ 400) ∧ l.length ≤ 40 := by
  unfold stFew
  rw [Bool.and_eq_true, decide_eq_true_eq, decide_eq_true_eq]
set_option maxRecDepth 100000 in
set_option maxHeartbeats 4000000 in
theorem few_any (A : Option Addr) (n d : Nat) (l : List StR) (w : World) (hr : Reads w w.heap.size 2 A n (rcs l)) (hn : n ≤ 9223372036854775807) (hs : ∀ r ∈ l, r.s.size ≤ 9223372036854775807) :
    Calls Tryz.prog 5 #[.slice A n d] w (GivesX (.bool (stFew l)) w) := by
  have HLN := Lib.hid (hr.len_of (by decide) StR.cs_len)
  have HEL : ∀ k, k < n → ∃ (ad : Addr) (r : StR), A = some ad ∧ (ad.add (k * 2)).block < w.heap.size ∧ (∀ j u, r.cs[j]? = some u → w.cell? ((ad.add (k * 2)).add j) = some u) ∧ Hid (l[k]? = some r) := fun k hk => by
    obtain ⟨r, hri⟩ : ∃ r, l[k]? = some r := ⟨_, List.getElem?_eq_getElem (by rw [HLN.out]; omega)⟩
    obtain ⟨ad, e, hlta, hc⟩ := hr.elem StR.cs_len hri (by omega)
    exact ⟨ad, r, e, by rw [block_of_add]; exact hlta, hc, Lib.hid hri⟩
  have HSZ : ∀ k (r : StR), Hid (l[k]? = some r) → r.s.size ≤ 9223372036854775807 := fun k r h => hs r (List.mem_of_getElem? h.out)
  have HF : ∀ k (r : StR), Hid (l[k]? = some r) → 400 < r.s.size → Hid (stFew l = false) := fun k r h h2 => Lib.hid (by
    unfold stFew
    rw [decide_eq_false (fun h3 => by have := h3 r (List.mem_of_getElem? h.out); omega), Bool.false_and])
  have HALL0 : Hid (∀ r ∈ l.take 0, r.s.size ≤ 400) := Lib.hid (by intro r h; simp at h)
  have HALL1 : ∀ k (r : StR), Hid (∀ r ∈ l.take k, r.s.size ≤ 400) → Hid (l[k]? = some r) → r.s.size ≤ 400 → Hid (∀ r ∈ l.take (k + 1), r.s.size ≤ 400) := fun k r h h1 h2 => Lib.hid (by
    intro x hx
    rw [List.take_add_one, h1.out, List.mem_append] at hx
    rcases hx with hx | hx
    · exact h.out x hx
    · have : x = r := by simpa using hx
      rw [this]; exact h2)
  have HT : Hid (∀ r ∈ l.take n, r.s.size ≤ 400) → Hid (stFew l = decide ((n : Int) ≤ 40)) := fun h => Lib.hid (by
    have h1 := h.out
    rw [List.take_of_length_le (by rw [HLN.out]; exact Nat.le_refl _)] at h1
    unfold stFew
    rw [decide_eq_true h1, Bool.true_and, HLN.out]
    exact decide_eq_decide.2 (by omega))
  clear hs hr
  generalize stFew l = E at *
  go_enter Tryz.func5, Tryz.ntmps5
  go_wp2_with fail
  go_loopg [7] n (fun g s7 wr => ∃ k : Nat, Hid (k + g = n) ∧ k ≤ n ∧ s7 = .int .i64 (k : Int) ∧ Hid (∀ r ∈ l.take k, r.s.size ≤ 400) ∧ Below w.heap.size w wr)
  case atStart => exact ⟨0, by show _ = _; omega, by omega, rfl, HALL0, Below.refl _ _⟩
  case round =>
    obtain ⟨k, HK, hk, rfl, HALL, hB⟩ := hrel
    by_cases hlt : k < n
    · obtain ⟨ad, r, rfl, hlta, hc, hri⟩ := HEL k hlt
      have hsz := HSZ k r hri
      have HCC := Lib.hid hc
      clear hc HEL HSZ HT
      by_cases hbig : r.s.size ≤ 400
      · have HA2 := HALL1 k r HALL hri hbig
        clear HALL1 HF
        go_wp2_with (first
          | ((with_reducible refine wpList_at ⟨some 10, _, _, _, _, _⟩ ?_); refine wpList_valueG rfl _ (by exact exec_load _ 37 _ rfl (ad.add (k * 2)) rfl r.cs (fun j u hu => (hB.cell (by rw [block_of_add]; exact hlta)).trans (HCC.out j u hu)) _ Tryz.underlying37 rfl (by kernel_rfl)) ?_)
          | (with_reducible refine wpList_alloc_row (o := ⟨some 4, _, _, _, _, _⟩) rfl _ rfl zeroR zero_rs ?_; intro w1 z1 s1 g1; have b1 : Below w.heap.size w w1 := below_kept hB g1 hB.size (by simp))
          | ((with_reducible refine wpList_at ⟨none, .store _ (.tmp 4) _, _, _, _, _⟩ ?_); refine wpList_store_all rfl _ _ _ rfl wr.heap.size rfl _ _ z1 (r.cs) rfl (r.cs_one) rfl (by kernel_rfl) ?_; intro w2 z2 g2; have b2 : Below w.heap.size w w2 := below_kept b1 g2 b1.size (by rintro q hq; cases hq; exact hB.size); have c2 := z2.cell (j := 1) rfl))
        go_roundg (gk - 1)
        case measure => have := HK.out; omega
        case rel => exact ⟨k + 1, by have := HK.out; show _ = _; omega, by omega, by go_num, HA2, b2⟩
      · have HE := HF k r hri (by omega)
        clear HALL1 HF
        go_wp2_with (first
          | ((with_reducible refine wpList_at ⟨some 10, _, _, _, _, _⟩ ?_); refine wpList_valueG rfl _ (by exact exec_load _ 37 _ rfl (ad.add (k * 2)) rfl r.cs (fun j u hu => (hB.cell (by rw [block_of_add]; exact hlta)).trans (HCC.out j u hu)) _ Tryz.underlying37 rfl (by kernel_rfl)) ?_)
          | (with_reducible refine wpList_alloc_row (o := ⟨some 4, _, _, _, _, _⟩) rfl _ rfl zeroR zero_rs ?_; intro w1 z1 s1 g1; have b1 : Below w.heap.size w w1 := below_kept hB g1 hB.size (by simp))
          | ((with_reducible refine wpList_at ⟨none, .store _ (.tmp 4) _, _, _, _, _⟩ ?_); refine wpList_store_all rfl _ _ _ rfl wr.heap.size rfl _ _ z1 (r.cs) rfl (r.cs_one) rfl (by kernel_rfl) ?_; intro w2 z2 g2; have b2 : Below w.heap.size w w2 := below_kept b1 g2 b1.size (by rintro q hq; cases hq; exact hB.size); have c2 := z2.cell (j := 1) rfl))
        go_ret
        exact ⟨by rw [HE.out]; rfl, b2⟩
    · obtain rfl : k = n := by omega
      have HE := HT HALL
      clear HALL1 HF HT HEL HSZ
      go_wp2_with fail
      go_ret
      exact ⟨by rw [HE.out]; rfl, hB⟩
end Go.Proofs.YtfclifolniefpaaGreatDoor
