/-
  Counters in fuses: what sessions of Level and Raise leave and report, with cuts and noise and without; levels of cells; the law file's cells and faults: numbers and lists alone. No condition.
-/
import Derived.Test.YtfcbcclcmgheeaaRtN
set_option linter.unusedSimpArgs false
set_option linter.unusedVariables false
namespace Go.Proofs.Ytfcbcclcmgheeaa

section
variable {fl : Nat → Bool × Bool}
theorem run_lev {k : Nat → RtP} (bits i : Nat) (cs : List UInt8) (hs : Small3 cs) (hl : cs.length = 3 * bits) :
    (¬ NoF fl ∧ ∃ ds q, rtRun fl (rtLev bits k) i cs = ⟨ds, 0, 0, false, q⟩ ∧ UpC cs ds ∧ ∃ m, m ≤ bits ∧ (∀ j, j < m → Lj cs j true = true) ∧ OutC 0 (3 * m) cs ds) ∨
    ∃ n ds, n ≤ bits ∧ (∀ j, j < n → Lj cs j true = true) ∧ (n < bits → Lj cs n false = false) ∧ (NoF fl → ∀ j, j < n → Lj cs j false = true) ∧ UpC cs ds ∧ OutC 0 (3 * n) cs ds ∧ (∀ j, j < n → DoneB ds j) ∧
      rtRun fl (rtLev bits k) i cs = rtRun fl (k n) (i + 6 * n + (if n < bits then 3 else 0)) ds := by
  unfold rtLev
  rcases run_read (fl := fl) (k := fun n => rtPuls 0 n (k n)) cs bits 0 i with ⟨hn, q, h⟩ | ⟨n, _, n2, n3, n4, n5, h⟩
  · exact .inl ⟨hn, cs, q, h, UpC.refl _, 0, Nat.zero_le _, fun j hj => by omega, OutC.refl _ _ _⟩
  rw [h]
  rw [Nat.zero_add] at n2 n4
  rcases run_puls (fl := fl) (k := k n) n 0 (i + 3 * (n - 0) + (if n < 0 + bits then 3 else 0)) cs with ⟨hn, ds, q, h, u, o⟩ | ⟨ds, h, u, o, hd⟩
  · exact .inl ⟨hn, ds, q, h, u, n, n2, fun j hj => n3 j (Nat.zero_le _) hj, o.mono (by omega) (by omega)⟩
  refine .inr ⟨n, ds, n2, fun j hj => n3 j (Nat.zero_le _) hj, n4, fun hn j hj => n5 hn j (Nat.zero_le _) hj, u, o.mono (by omega) (by omega), fun j hj => hd hs (by omega) j (Nat.zero_le _) (by omega), ?_⟩
  rw [h, Nat.zero_add]
  congr 1
  omega
/-- What a session leaves. -/
structure SesOK (fl : Nat → Bool × Bool) (bits t : Nat) (cs : List UInt8) (R : RtRun) : Prop where
  up : UpC cs R.f
  out : ∃ m, m ≤ bits ∧ (∀ j, j < m → Lj cs j true = true) ∧ OutC 0 (3 * max m t) cs R.f
  ends : (R.done = false ∧ ¬ NoF fl) ∨ ∃ n p, R.done = true ∧ R.n = ((p : Nat) : Int) ∧ n ≤ p ∧ p ≤ bits ∧ (n < bits → Lj cs n false = false) ∧ (∀ j, j < p → DoneB R.f j) ∧
    ((p < t ∧ R.e = 12 ∧ 2 ≤ stkB R.f p ∧ p < bits) ∨ (R.e = 0 ∧ p = max n t)) ∧ (NoF fl → (∀ j, j < n → Lj cs j false = true) ∧ (R.e = 0 → R.many = 6 * n + (if n < bits then 3 else 0) + 6 * (t - n)))
theorem ses_level (bits : Nat) (cs : List UInt8) (hs : Small3 cs) (hl : cs.length = 3 * bits) : SesOK fl bits 0 cs (rtRun fl (rtLevel bits) 0 cs) := by
  unfold rtLevel
  rcases run_lev (fl := fl) (k := fun n => .done n 0) bits 0 cs hs hl with ⟨hn, ds, q, h, u, m, m1, m2, o⟩ | ⟨n, ds, n1, n2, n3, n4, u, o, hd, h⟩
  · rw [h]
    exact ⟨u, ⟨m, m1, m2, by rw [Nat.max_zero]; exact o⟩, .inl ⟨rfl, hn⟩⟩
  · rw [h, rtRun]
    refine ⟨u, ⟨n, n1, n2, by rw [Nat.max_zero]; exact o⟩, .inr ⟨n, n, rfl, rfl, Nat.le_refl _, n1, n3, hd, .inr ⟨rfl, by rw [Nat.max_zero]⟩, fun hn => ⟨n4 hn, fun _ => ?_⟩⟩⟩
    simp only
    omega
theorem ses_raise (bits t : Nat) (ht : t ≤ bits) (cs : List UInt8) (hs : Small3 cs) (hl : cs.length = 3 * bits) : SesOK fl bits t cs (rtRun fl (rtRaise bits t) 0 cs) := by
  unfold rtRaise
  rcases run_lev (fl := fl) (k := fun n => rtUp n (t - n) fun m => .done m (if m < t then 12 else 0)) bits 0 cs hs hl with ⟨hn, ds, q, h, u, m, m1, m2, o⟩ | ⟨n, ds, n1, n2, n3, n4, u, o, hd, h⟩
  · rw [h]
    exact ⟨u, ⟨m, m1, m2, o.mono (Nat.le_refl _) (by omega)⟩, .inl ⟨rfl, hn⟩⟩
  rw [h]
  have o' := o.mono (lo' := 0) (hi' := 3 * max n t) (Nat.le_refl _) (by omega)
  rcases run_up (fl := fl) (k := fun m => .done m (if m < t then 12 else 0)) (t - n) n (0 + 6 * n + (if n < bits then 3 else 0)) ds with ⟨hn, es, q, h, u2, o2⟩ | ⟨p, es, p1, p2, h, u2, o2, hd2⟩
  · rw [h]
    exact ⟨u.trans u2, ⟨n, n1, n2, o'.trans (o2.mono (by omega) (by omega))⟩, .inl ⟨rfl, hn⟩⟩
  have hd3 := hd2 (hs.up u) (by rw [← u.1]; omega)
  rw [h, rtRun]
  refine ⟨u.trans u2, ⟨n, n1, n2, o'.trans (o2.mono (by omega) (by omega))⟩, .inr ⟨n, p, rfl, rfl, p1, by omega, n3, fun j hj => ?_, ?_, fun hn => ⟨n4 hn, fun he => ?_⟩⟩⟩
  · rcases Nat.lt_or_ge j n with h1 | h1
    · exact (hd j h1).up u2
    · exact hd3.1 j h1 hj
  · by_cases hp : p < t
    · exact .inl ⟨hp, by simp only; rw [if_pos hp], hd3.2 (by omega), by omega⟩
    · exact .inr ⟨by simp only; rw [if_neg hp], by omega⟩
  · have hp : ¬ p < t := fun hp => by simp only at he; rw [if_pos hp] at he; exact absurd he (by decide)
    simp only
    rw [if_neg (show ¬ p < n + (t - n) by omega)]
    have : p - n = t - n := by omega
    rw [this]
    omega
end

/-! ## Levels -/
def lvl (cs : List UInt8) (z : Bool) : Nat := fuLev (fun k => fuRead [cs] ((0 : Nat) : Int) (k : Int) z) 0 (cs.length / 3)
theorem fuLevel_lvl (cs : List UInt8) (z : Bool) : fuLevel [cs] 0 z = ((lvl cs z : Nat) : Int) := fuLevel_nat (bs := [cs]) (b := 0) rfl
theorem rd_cl {cs : List UInt8} {c : Nat} {z : Bool} (h : c < cs.length) : fuRead [cs] ((0 : Nat) : Int) (c : Int) z = if fuRd (cl cs c) z then 1 else 0 := by
  rw [fuRead_in (by rw [fuEx_nat (l := cs) rfl]; exact decide_eq_true h), fuAt_nat (l := cs) rfl (cl_get h)]
theorem maj3_sum (a b c : Bool) : (2 ≤ (if a then (1 : Int) else 0) + (if b then 1 else 0) + (if c then 1 else 0)) ↔ maj3 a b c = true := by cases a <;> cases b <;> cases c <;> decide
theorem sum_Lj {cs : List UInt8} {j : Nat} {z : Bool} (h : 3 * j + 3 ≤ cs.length) : (2 ≤ fuRead [cs] ((0 : Nat) : Int) ((3 * j : Nat) : Int) z + fuRead [cs] ((0 : Nat) : Int) ((3 * j + 1 : Nat) : Int) z + fuRead [cs] ((0 : Nat) : Int) ((3 * j + 2 : Nat) : Int) z) ↔ Lj cs j z = true := by
  rw [rd_cl (by omega), rd_cl (by omega), rd_cl (by omega)]
  exact maj3_sum _ _ _
theorem fuLev_below (r : Nat → Int) : ∀ n i j, i ≤ j → j < fuLev r i n → 2 ≤ r (3 * j) + r (3 * j + 1) + r (3 * j + 2)
  | 0, i, j, h1, h2 => by rw [fuLev] at h2; omega
  | n + 1, i, j, h1, h2 => by
    rw [fuLev] at h2
    split at h2
    · omega
    · rcases Nat.eq_or_lt_of_le h1 with rfl | h1
      · omega
      · exact fuLev_below r n (i + 1) j h1 h2
section
variable {cs : List UInt8} {bits : Nat} {z : Bool}
theorem lvl_le (hl : cs.length = 3 * bits) : lvl cs z ≤ bits := by
  have := fuLev_le (fun k => fuRead [cs] ((0 : Nat) : Int) (k : Int) z) (cs.length / 3) 0
  unfold lvl
  omega
theorem lvl_below (hl : cs.length = 3 * bits) {j : Nat} (h : j < lvl cs z) : Lj cs j z = true := by
  have h1 := lvl_le (z := z) hl
  exact (sum_Lj (by omega)).1 (fuLev_below _ _ _ _ (Nat.zero_le _) h)
theorem lvl_ge (hl : cs.length = 3 * bits) {m : Nat} (hm : m ≤ bits) (h : ∀ j, j < m → Lj cs j z = true) : m ≤ lvl cs z :=
  fuLev_ge _ m (fun j hj => (sum_Lj (by omega)).2 (h j hj)) _ 0 (by omega) (Nat.zero_le _)
theorem lvl_eq (hl : cs.length = 3 * bits) {n : Nat} (hn : n ≤ bits) (h : ∀ j, j < n → Lj cs j z = true) (h2 : n < bits → Lj cs n z = false) : lvl cs z = n := by
  have h1 := lvl_ge hl hn h
  rcases Nat.eq_or_lt_of_le h1 with h3 | h3
  · exact h3.symm
  · have := lvl_le (z := z) hl
    rw [lvl_below hl h3] at h2
    exact absurd (h2 (by omega)) (by decide)
theorem lvl_up {ds : List UInt8} (hl : cs.length = 3 * bits) (u : UpC cs ds) : lvl cs false ≤ lvl ds false :=
  lvl_ge (by rw [← u.1]; exact hl) (lvl_le hl) fun _ hj => Lj_up u (lvl_below hl hj)
end

/-! ## What the laws say -/
section
variable {fl : Nat → Bool × Bool} {bits t : Nat} {cs : List UInt8} {R : RtRun}
/-- The level that a session starts from is at least the least one. -/
theorem ses_from (hl : cs.length = 3 * bits) {n : Nat} (h : n < bits → Lj cs n false = false) : lvl cs false ≤ n ∨ bits ≤ n := by
  rcases Nat.lt_or_ge n bits with hn | hn
  · refine .inl (Nat.le_of_not_lt fun hlt => ?_)
    rw [lvl_below hl hlt] at h
    exact absurd (h hn) (by decide)
  · exact .inr hn
theorem ses_least (H : SesOK fl bits t cs R) (hl : cs.length = 3 * bits) (hS : SoundC cs) (hd : R.done = true) : R.e = 0 ∧ (lvl cs false : Int) ≤ R.n ∧ (t : Int) ≤ R.n ∧ R.n ≤ (lvl R.f false : Int) := by
  rcases H.ends with ⟨h, _⟩ | ⟨n, p, _, hp, h1, h2, h3, h4, h5, _⟩
  · rw [h] at hd; cases hd
  have hS' := hS.up H.up
  have hl' : R.f.length = 3 * bits := by rw [← H.up.1]; exact hl
  have hge : p ≤ lvl R.f false := lvl_ge hl' h2 fun j hj => by rw [Lj_done (h4 j hj)]; exact decide_eq_true (hS' j)
  have hle := lvl_le (z := false) hl
  have hfr := ses_from hl h3
  rcases h5 with ⟨_, _, h5, _⟩ | ⟨h5, h6⟩
  · have := hS' p; omega
  · exact ⟨h5, by omega, by omega, by omega⟩
theorem ses_quiet (H : SesOK fl bits t cs R) (hl : cs.length = 3 * bits) (hn : NoF fl) : R.done = true ∧ ((R.e = 12 ∧ ∃ p : Nat, R.n = p ∧ p < bits ∧ p < t ∧ 2 ≤ stkB cs p) ∨ (R.e = 0 ∧ R.n = ((max (lvl cs false) t : Nat) : Int) ∧ R.many = 6 * lvl cs false + (if lvl cs false < bits then 3 else 0) + 6 * (t - lvl cs false))) := by
  rcases H.ends with ⟨_, h⟩ | ⟨n, p, hd, hp, h1, h2, h3, h4, h5, h6⟩
  · exact absurd hn h
  obtain ⟨h7, h8⟩ := h6 hn
  have hv := lvl_eq (z := false) hl (Nat.le_trans h1 h2) h7 h3
  refine ⟨hd, ?_⟩
  rcases h5 with ⟨h5, he, hk, hb⟩ | ⟨he, h5⟩
  · exact .inl ⟨he, p, hp, hb, h5, Nat.le_trans hk (stkB_up H.up p)⟩
  · exact .inr ⟨he, by rw [hp, hv, h5], by rw [h8 he, hv]⟩
theorem ses_upper (H : SesOK fl bits t cs R) (hl : cs.length = 3 * bits) : ∀ c, 3 * max (lvl cs true) t ≤ c → cl R.f c = cl cs c := by
  obtain ⟨m, m1, m2, o⟩ := H.out
  have := lvl_ge hl m1 m2
  exact fun c hc => o c (.inr (by omega))
end

/-! ## The law file's cells and faults -/
def rtStk (l : List UInt8) (b : Nat) : Nat := (if cl l (3 * b) % 4 = 3 then 1 else 0) + (if cl l (3 * b + 1) % 4 = 3 then 1 else 0) + (if cl l (3 * b + 2) % 4 = 3 then 1 else 0)
def rtC (l : List UInt8) (sound : Bool) (c : Nat) : UInt8 := if sound && decide (1 < rtStk l (c / 3)) then 0 else cl l c % 4
def rtBits (l : List UInt8) : Nat := min (l.length / 3) 16
def rtCs (l : List UInt8) (sound : Bool) (m : Nat) : List UInt8 := (List.range m).map (rtC l sound)
def rtCells (l : List UInt8) (sound : Bool) : List UInt8 := rtCs l sound (3 * rtBits l)
theorem rtCs_succ (l : List UInt8) (sound : Bool) (m : Nat) : rtCs l sound (m + 1) = rtCs l sound m ++ [rtC l sound m] := by unfold rtCs; rw [List.range_succ, List.map_append]; rfl
theorem rtCs_len (l : List UInt8) (sound : Bool) (m : Nat) : (rtCs l sound m).length = m := by unfold rtCs; simp
theorem rtCells_len (l : List UInt8) (sound : Bool) : (rtCells l sound).length = 3 * rtBits l := rtCs_len ..
theorem rtBits_le (l : List UInt8) : rtBits l ≤ 16 := Nat.min_le_right ..
theorem rtCs_cl (l : List UInt8) (sound : Bool) (m c : Nat) : cl (rtCs l sound m) c = if c < m then rtC l sound c else 0 := by
  unfold cl rtCs
  rw [List.getD, List.getElem?_map]
  by_cases h : c < m
  · rw [List.getElem?_range h, if_pos h]; rfl
  · rw [List.getElem?_eq_none (by simp; omega), if_neg h]; rfl
theorem mod4_le (s : UInt8) : (s % 4).toNat ≤ 3 := by rw [UInt8.toNat_mod]; show s.toNat % 4 ≤ 3; omega
theorem rtC_le (l : List UInt8) (sound : Bool) (c : Nat) : (rtC l sound c).toNat ≤ 3 := by
  unfold rtC
  split
  · decide
  · exact mod4_le _
theorem rtCells_small (l : List UInt8) (sound : Bool) : Small3 (rtCells l sound) := fun c => by
  unfold rtCells
  rw [rtCs_cl]
  split
  · exact rtC_le ..
  · decide
theorem rtCells_sound (l : List UInt8) : SoundC (rtCells l true) := fun j => by
  unfold stkB rtCells
  rw [rtCs_cl, rtCs_cl, rtCs_cl]
  by_cases hj : 3 * j + 2 < 3 * rtBits l
  · rw [if_pos (show 3 * j < _ by omega), if_pos (show 3 * j + 1 < _ by omega), if_pos hj]
    unfold rtC
    rw [show 3 * j / 3 = j by omega, show (3 * j + 1) / 3 = j by omega, show (3 * j + 2) / 3 = j by omega]
    by_cases hs : 1 < rtStk l j
    · rw [decide_eq_true hs]
      simp only [Bool.and_true, ↓reduceIte]
      decide
    · rw [decide_eq_false hs]
      simp only [Bool.and_false, Bool.false_eq_true, ↓reduceIte]
      unfold rtStk at hs
      omega
  · have e : ∀ c, 3 * j ≤ c → (if c < 3 * rtBits l then rtC l true c else 0) = 0 := fun c hc => if_neg (by omega)
    rw [e _ (by omega), e _ (by omega), e _ (by omega)]
    decide
def rtFl (fs : List UInt8) (i : Nat) : Bool × Bool := if i < fs.length then (decide (cl fs i % 2 = 1), decide (cl fs i / 2 % 2 = 1)) else (false, false)
theorem rtFl_nil : NoF (rtFl []) := fun i => by unfold rtFl; rw [if_neg (by simp)]
/-- A session's program, and what it does to cells. -/
structure RtSes where
  raise : Bool
  t : UInt8
  fs : List UInt8
def rtTgt (s : RtSes) (bits : Nat) : Nat := s.t.toNat % (bits + 1)
def rtProg (s : RtSes) (bits : Nat) : RtP := if s.raise then rtRaise bits (rtTgt s bits) else rtLevel bits
def rtExec (s : RtSes) (bits : Nat) (cs : List UInt8) : RtRun := rtRun (rtFl s.fs) (rtProg s bits) 0 cs
theorem rtTgt_le (s : RtSes) (bits : Nat) : rtTgt s bits ≤ bits := by unfold rtTgt; have := Nat.mod_lt s.t.toNat (show 0 < bits + 1 by omega); omega
theorem rtProg_dep (s : RtSes) (bits : Nat) : rtDep (rtProg s bits) (3 * bits) (12 * bits) := by
  unfold rtProg
  split
  · exact rtRaise_dep (rtTgt_le s bits)
  · exact rtLevel_dep bits
def rtT (s : RtSes) (bits : Nat) : Nat := if s.raise then rtTgt s bits else 0
theorem rtExec_ok (s : RtSes) (bits : Nat) (cs : List UInt8) (hs : Small3 cs) (hl : cs.length = 3 * bits) : SesOK (rtFl s.fs) bits (rtT s bits) cs (rtExec s bits cs) := by
  unfold rtExec rtProg rtT
  split
  · exact ses_raise bits _ (rtTgt_le s bits) cs hs hl
  · exact ses_level bits cs hs hl
end Go.Proofs.Ytfcbcclcmgheeaa
