/-
  One-time signatures out of chains, without a program: digits, chains, keys, signatures; that the digits of two messages are not comparable. Plain functions and their laws alone. No condition.
-/
import Derived.Test.YtfmcgcdppbcfjaaDoorFast
namespace Go.Proofs.YtfmcgcdppbcfjaaDoor

/-- Digit k of the first 64. -/
def wDig (msg : List UInt8) (k : Nat) : Nat := (msg.getD (k / 4) 0).toNat / 4 ^ (3 - k % 4) % 4
theorem wDig_le (msg : List UInt8) (k : Nat) : wDig msg k ≤ 3 := by unfold wDig; omega
/-- The checksum of the first n digits. -/
def wSum (msg : List UInt8) : Nat → Nat
  | 0 => 0
  | n + 1 => wSum msg n + (3 - wDig msg n)
theorem wSum_le (msg : List UInt8) (n : Nat) : wSum msg n ≤ 3 * n := by
  induction n with
  | zero => exact Nat.le_refl _
  | succ n ih => unfold wSum; omega
/-- The digits: 64 and the checksum's four. -/
def wDigs (msg : List UInt8) : List Nat := (List.range 64).map (wDig msg) ++ [wSum msg 64 / 64, wSum msg 64 / 16 % 4, wSum msg 64 / 4 % 4, wSum msg 64 % 4]
theorem wDigs_len (msg : List UInt8) : (wDigs msg).length = 68 := by simp [wDigs]
theorem wDigs_lo (msg : List UInt8) {k : Nat} (hk : k < 64) : (wDigs msg)[k]? = some (wDig msg k) := by
  unfold wDigs
  rw [List.getElem?_append_left (by simpa using hk)]
  simp [hk]
theorem wDigs_hi (msg : List UInt8) (j : Nat) : (wDigs msg)[64 + j]? = [wSum msg 64 / 64, wSum msg 64 / 16 % 4, wSum msg 64 / 4 % 4, wSum msg 64 % 4][j]? := by
  unfold wDigs
  rw [List.getElem?_append_right (by simp)]
  simp
/-- Digit k of all 68. -/
def wD (msg : List UInt8) (k : Nat) : Nat := (wDigs msg).getD k 0
theorem wD_lo (msg : List UInt8) {k : Nat} (hk : k < 64) : wD msg k = wDig msg k := by unfold wD; rw [List.getD_eq_getElem?_getD, wDigs_lo msg hk]; rfl
theorem wD_64 (msg : List UInt8) : wD msg 64 = wSum msg 64 / 64 := by unfold wD; rw [List.getD_eq_getElem?_getD, wDigs_hi msg 0]; rfl
theorem wD_65 (msg : List UInt8) : wD msg 65 = wSum msg 64 / 16 % 4 := by unfold wD; rw [List.getD_eq_getElem?_getD, wDigs_hi msg 1]; rfl
theorem wD_66 (msg : List UInt8) : wD msg 66 = wSum msg 64 / 4 % 4 := by unfold wD; rw [List.getD_eq_getElem?_getD, wDigs_hi msg 2]; rfl
theorem wD_67 (msg : List UInt8) : wD msg 67 = wSum msg 64 % 4 := by unfold wD; rw [List.getD_eq_getElem?_getD, wDigs_hi msg 3]; rfl
theorem wD_le (msg : List UInt8) (k : Nat) : wD msg k ≤ 3 := by
  have hs := wSum_le msg 64
  by_cases hk : k < 64
  · rw [wD_lo msg hk]; exact wDig_le msg k
  · by_cases h : k < 68
    · obtain rfl | rfl | rfl | rfl : k = 64 ∨ k = 65 ∨ k = 66 ∨ k = 67 := by omega
      · rw [wD_64]; omega
      · rw [wD_65]; omega
      · rw [wD_66]; omega
      · rw [wD_67]; omega
    · unfold wD
      rw [List.getD_eq_getElem?_getD, List.getElem?_eq_none (by rw [wDigs_len]; omega)]
      exact Nat.zero_le _
theorem wDigs_at (msg : List UInt8) {k : Nat} (hk : k < 68) : (wDigs msg)[k]? = some (wD msg k) := by
  unfold wD
  rw [List.getD_eq_getElem?_getD, List.getElem?_eq_getElem (by rw [wDigs_len]; exact hk)]
  rfl
/-- The checksum is that of the digits. -/
theorem wD_check (msg : List UInt8) : 64 * wD msg 64 + 16 * wD msg 65 + 4 * wD msg 66 + wD msg 67 = wSum msg 64 := by
  have hs := wSum_le msg 64
  rw [wD_64, wD_65, wD_66, wD_67]
  omega

theorem byte_digs (b : UInt8) : b.toNat = 64 * (b.toNat / 64 % 4) + 16 * (b.toNat / 16 % 4) + 4 * (b.toNat / 4 % 4) + b.toNat % 4 := by
  have := b.toNat_lt
  omega
theorem wDig_parts (msg : List UInt8) (i : Nat) : wDig msg (4 * i) = (msg.getD i 0).toNat / 64 % 4 ∧ wDig msg (4 * i + 1) = (msg.getD i 0).toNat / 16 % 4 ∧ wDig msg (4 * i + 2) = (msg.getD i 0).toNat / 4 % 4 ∧ wDig msg (4 * i + 3) = (msg.getD i 0).toNat % 4 := by
  unfold wDig
  rw [show 4 * i / 4 = i by omega, show 4 * i % 4 = 0 by omega, show (4 * i + 1) / 4 = i by omega, show (4 * i + 1) % 4 = 1 by omega, show (4 * i + 2) / 4 = i by omega, show (4 * i + 2) % 4 = 2 by omega,
    show (4 * i + 3) / 4 = i by omega, show (4 * i + 3) % 4 = 3 by omega]
  exact ⟨rfl, rfl, rfl, by simp⟩
theorem wDig_inj {a b : List UInt8} (ha : a.length = 16) (hb : b.length = 16) (h : ∀ k, k < 64 → wDig a k = wDig b k) : a = b := by
  refine List.ext_getElem? fun i => ?_
  by_cases hi : i < 16
  · obtain ⟨a1, a2, a3, a4⟩ := wDig_parts a i
    obtain ⟨b1, b2, b3, b4⟩ := wDig_parts b i
    have h1 := h (4 * i) (by omega)
    have h2 := h (4 * i + 1) (by omega)
    have h3 := h (4 * i + 2) (by omega)
    have h4 := h (4 * i + 3) (by omega)
    have ea := byte_digs (a.getD i 0)
    have eb := byte_digs (b.getD i 0)
    have e : (a.getD i 0).toNat = (b.getD i 0).toNat := by omega
    have e2 := UInt8.toNat_inj.1 e
    rw [List.getD_eq_getElem?_getD, List.getD_eq_getElem?_getD, List.getElem?_eq_getElem (by omega), List.getElem?_eq_getElem (by omega)] at e2
    rw [List.getElem?_eq_getElem (by omega), List.getElem?_eq_getElem (by omega)]
    simpa using e2
  · rw [List.getElem?_eq_none (by omega), List.getElem?_eq_none (by omega)]
theorem wSum_mono {a b : List UInt8} (n : Nat) (h : ∀ k, k < n → wDig b k ≤ wDig a k) : wSum a n ≤ wSum b n ∧ (wSum a n = wSum b n → ∀ k, k < n → wDig a k = wDig b k) := by
  induction n with
  | zero => exact ⟨Nat.le_refl _, fun _ k hk => by omega⟩
  | succ n ih =>
    obtain ⟨h1, h2⟩ := ih fun k hk => h k (by omega)
    have h3 := h n (by omega)
    have h4 := wDig_le a n
    have h5 := wDig_le b n
    unfold wSum
    refine ⟨by omega, fun e k hk => ?_⟩
    by_cases hkn : k = n
    · subst hkn; omega
    · exact h2 (by omega) k (by omega)
/-- Of two messages that differ, some digit of the first is less. -/
theorem wD_less {a b : List UInt8} (ha : a.length = 16) (hb : b.length = 16) (hne : a ≠ b) : ∃ k, k < 68 ∧ wD a k < wD b k := by
  refine Classical.byContradiction fun hc => hne ?_
  have h : ∀ k, k < 68 → wD b k ≤ wD a k := fun k hk => Nat.le_of_not_lt fun hl => hc ⟨k, hk, hl⟩
  obtain ⟨h1, h2⟩ := wSum_mono (a := a) (b := b) 64 fun k hk => by
    have := h k (by omega)
    rwa [wD_lo a hk, wD_lo b hk] at this
  refine wDig_inj ha hb (h2 ?_)
  have ca := wD_check a
  have cb := wD_check b
  have := h 64 (by omega)
  have := h 65 (by omega)
  have := h 66 (by omega)
  have := h 67 (by omega)
  omega

/-- One step of chain k. -/
def wStep (k : Nat) (v : List UInt8) : List UInt8 := digestB 3 [encInt k, v]
def wAdv (k : Nat) (v : List UInt8) : Nat → List UInt8
  | 0 => v
  | n + 1 => wStep k (wAdv k v n)
theorem wStep_len (k : Nat) (v : List UInt8) : (wStep k v).length = 16 := by
  unfold wStep digestB
  rw [List.length_take, sha_len]
  rfl
theorem wAdv_len (k : Nat) {v : List UInt8} (h : v.length = 16) (n : Nat) : (wAdv k v n).length = 16 := by
  cases n with
  | zero => exact h
  | succ n => exact wStep_len _ _
theorem wAdv_add (k : Nat) (v : List UInt8) (a b : Nat) : wAdv k (wAdv k v a) b = wAdv k v (a + b) := by
  induction b with
  | zero => rfl
  | succ b ih => rw [wAdv, ih]; rfl
theorem wAdv_step (k : Nat) (v : List UInt8) (n : Nat) : wAdv k (wStep k v) n = wAdv k v (n + 1) := by
  rw [show wStep k v = wAdv k v 1 from rfl, wAdv_add, Nat.add_comm]
/-- The start of chain k. -/
def wStart (seed : List UInt8) (index : Int) (k : Nat) : List UInt8 := derive seed [119, 111, 116, 115] [encInt index, encInt k]
theorem wStart_len (seed : List UInt8) (index : Int) (k : Nat) : (wStart seed index k).length = 16 := by
  unfold wStart derive mac
  rw [List.length_take, hmac_len]
  rfl
/-- The key of the ends of n chains. -/
def wEnds (f : Nat → List UInt8) (n : Nat) : List UInt8 := (List.range n).flatMap f
theorem wEnds_succ (f : Nat → List UInt8) (n : Nat) : wEnds f (n + 1) = wEnds f n ++ f n := by
  unfold wEnds
  rw [List.range_succ, List.flatMap_append]
  simp
theorem wEnds_len (f : Nat → List UInt8) (h : ∀ k, (f k).length = 16) (n : Nat) : (wEnds f n).length = 16 * n := by
  induction n with
  | zero => rfl
  | succ n ih => rw [wEnds_succ, List.length_append, ih, h]; omega
def wPub (seed : List UInt8) (index : Int) : List UInt8 := digestB 4 [wEnds (fun k => wAdv k (wStart seed index k) 3) 68]
def wSign (seed : List UInt8) (index : Int) (msg : List UInt8) : List (List UInt8) := (List.range 68).map fun k => wAdv k (wStart seed index k) (wD msg k)
def wKey (msg : List UInt8) (chain : List (List UInt8)) : List UInt8 := digestB 4 [wEnds (fun k => wAdv k (chain.getD k []) (3 - wD msg k)) 68]
theorem wEnds_congr {f g : Nat → List UInt8} (n : Nat) (h : ∀ k, k < n → f k = g k) : wEnds f n = wEnds g n := by
  induction n with
  | zero => rfl
  | succ n ih => rw [wEnds_succ, wEnds_succ, ih fun k hk => h k (by omega), h n (by omega)]
theorem wSign_len (seed : List UInt8) (index : Int) (msg : List UInt8) : (wSign seed index msg).length = 68 := by simp [wSign]
theorem wSign_at (seed : List UInt8) (index : Int) (msg : List UInt8) {k : Nat} (h : k < 68) : (wSign seed index msg)[k]? = some (wAdv k (wStart seed index k) (wD msg k)) := by simp [wSign, h]
/-- A signature yields the public key. -/
theorem wKey_sign (seed : List UInt8) (index : Int) (msg : List UInt8) : wKey msg (wSign seed index msg) = wPub seed index := by
  unfold wKey wPub
  rw [wEnds_congr 68 fun k hk => ?_]
  rw [List.getD_eq_getElem?_getD, wSign_at seed index msg hk, Option.getD_some, wAdv_add, show wD msg k + (3 - wD msg k) = 3 by have := wD_le msg k; omega]

/-- The same on numbers, for the kernel. -/
def fAdv (k : Nat) (v : List UInt8) : Nat → List UInt8
  | 0 => v
  | n + 1 => fDig (3 :: encParts [encInt k, fAdv k v n])
def fStart (seed : List UInt8) (index : Int) (k : Nat) : List UInt8 := fDig (maskB 92 (key64 seed) ++ fSha (maskB 54 (key64 seed) ++ (encBytesL [119, 111, 116, 115] ++ encParts [encInt index, encInt k])))
def fPub (seed : List UInt8) (index : Int) : List UInt8 := fDig (4 :: encParts [(List.range 68).flatMap fun k => fAdv k (fStart seed index k) 3])
theorem fAdv_eq (k : Nat) (v : List UInt8) (n : Nat) : fAdv k v n = wAdv k v n := by
  induction n with
  | zero => rfl
  | succ n ih => rw [fAdv, ih, fDig_eq]; rfl
theorem fStart_eq (seed : List UInt8) (index : Int) (k : Nat) : fStart seed index k = wStart seed index k := by
  unfold fStart
  rw [fDig_eq, fSha_eq]
  rfl
theorem fPub_eq (seed : List UInt8) (index : Int) : fPub seed index = wPub seed index := by
  unfold fPub
  simp only [fDig_eq, fAdv_eq, fStart_eq]
  rfl
theorem wPub_differ : wPub (List.replicate 16 0) 1 ≠ wPub (List.replicate 16 0) 2 := by
  rw [← fPub_eq, ← fPub_eq]
  decide +kernel
end Go.Proofs.YtfmcgcdppbcfjaaDoor
