/-
  Counters in fuses: runs of layer 11's programs over cells, with cuts and noise: what they keep and what they reach: numbers and lists alone. No condition.
-/
import Derived.Test.YtfcbcclcmgheeaaRtM
set_option linter.unusedSimpArgs false
set_option linter.unusedVariables false
namespace Go.Proofs.Ytfcbcclcmgheeaa

/-! ## Cells -/
def cl (cs : List UInt8) (c : Nat) : UInt8 := cs.getD c 0
def pul1 (cs : List UInt8) (c : Nat) (cut : Bool) : List UInt8 := cs.set c (fuPl (cl cs c) cut)
theorem cl_at {cs : List UInt8} {c : Nat} {s : UInt8} (h : cs[c]? = some s) : cl cs c = s := by unfold cl; rw [List.getD, h]; rfl
theorem cl_get {cs : List UInt8} {c : Nat} (h : c < cs.length) : cs[c]? = some (cl cs c) := by unfold cl; rw [List.getD, List.getElem?_eq_getElem h]; rfl
theorem cl_pul1 (cs : List UInt8) (c : Nat) (cut : Bool) (d : Nat) : cl (pul1 cs c cut) d = if c = d ∧ c < cs.length then fuPl (cl cs c) cut else cl cs d := by
  unfold pul1
  unfold cl
  rw [List.getD, List.getElem?_set]
  by_cases h : c = d
  · subst h
    rw [if_pos rfl]
    by_cases hl : c < cs.length
    · rw [if_pos hl, if_pos ⟨rfl, hl⟩]; rfl
    · rw [if_neg hl, if_neg (fun h => hl h.2), List.getD, List.getElem?_eq_none (by omega)]
  · rw [if_neg h, if_neg (fun h' => h h'.1), List.getD]
theorem pul1_len (cs : List UInt8) (c : Nat) (cut : Bool) : (pul1 cs c cut).length = cs.length := List.length_set ..
/-- Each cell went one way. -/
def UpC (cs ds : List UInt8) : Prop := cs.length = ds.length ∧ ∀ c, Up1 (cl cs c) (cl ds c)
theorem UpC.refl (cs : List UInt8) : UpC cs cs := ⟨rfl, fun _ => Up1.refl _⟩
theorem UpC.trans {cs ds es : List UInt8} (h : UpC cs ds) (k : UpC ds es) : UpC cs es := ⟨h.1.trans k.1, fun c => Up1.trans _ _ _ (h.2 c) (k.2 c)⟩
theorem UpC.pul1 (cs : List UInt8) (c : Nat) (cut : Bool) : UpC cs (pul1 cs c cut) := ⟨(pul1_len ..).symm, fun d => by
  rw [cl_pul1]
  split
  · rename_i h
    rw [← h.1]
    exact Up1.pl _ _
  · exact Up1.refl _⟩
/-- Nothing has changed outside. -/
def OutC (lo hi : Nat) (cs ds : List UInt8) : Prop := ∀ c, c < lo ∨ hi ≤ c → cl ds c = cl cs c
theorem OutC.refl (lo hi : Nat) (cs : List UInt8) : OutC lo hi cs cs := fun _ _ => rfl
theorem OutC.trans {lo hi : Nat} {cs ds es : List UInt8} (h : OutC lo hi cs ds) (k : OutC lo hi ds es) : OutC lo hi cs es := fun c hc => (k c hc).trans (h c hc)
theorem OutC.mono {lo hi lo' hi' : Nat} {cs ds : List UInt8} (h : OutC lo hi cs ds) (h1 : lo' ≤ lo) (h2 : hi ≤ hi') : OutC lo' hi' cs ds := fun c hc => h c (by omega)
theorem OutC.pul1 (cs : List UInt8) (c : Nat) (cut : Bool) : OutC c (c + 1) cs (pul1 cs c cut) := fun d hd => by
  rw [cl_pul1, if_neg (by omega)]
def Small3 (cs : List UInt8) : Prop := ∀ c, (cl cs c).toNat ≤ 3
theorem Small3.up {cs ds : List UInt8} (h : Small3 cs) (k : UpC cs ds) : Small3 ds := fun c => by
  have h1 := h c
  rcases k.2 c with h2 | ⟨_, _, h2⟩
  · rw [← h2]; exact h1
  · omega
theorem Done.up {s s' : UInt8} (h : Done s) (k : Up1 s s') : Done s' := by
  rcases k with rfl | ⟨k, _, _⟩
  · exact h
  · rcases h with rfl | rfl
    · exact absurd k (by decide)
    · exact absurd k (by decide)
theorem pul1_done {cs : List UInt8} {c : Nat} (h : Small3 cs) (hc : c < cs.length) : Done (cl (pul1 cs c false) c) := by
  rw [cl_pul1, if_pos ⟨rfl, hc⟩]
  exact Done.pl (h c)
theorem stuck_up {s s' : UInt8} (k : Up1 s s') (h : s' = 3) : s = 3 := by
  rcases k with rfl | ⟨_, _, k⟩
  · exact h
  · subst h; exact absurd k (by decide)
theorem blown_up {s s' : UInt8} (k : Up1 s s') (h : s = 2) : s' = 2 := by
  rcases k with rfl | ⟨k, _, _⟩
  · exact h
  · subst h; exact absurd k (by decide)
theorem fuRd_lo (s : UInt8) (z : Bool) (h : fuRd s false = true) : fuRd s z = true := by
  unfold fuRd at *
  cases z with
  | false => exact h
  | true => simp at h; simp [h]
theorem fuRd_hi (s : UInt8) (z : Bool) (h : fuRd s z = true) : fuRd s true = true := by
  unfold fuRd at *
  cases z with
  | false => simp at h; simp [h]
  | true => exact h
theorem fuRd_up {s s' : UInt8} (k : Up1 s s') (h : fuRd s false = true) : fuRd s' false = true := by
  unfold fuRd at *
  simp at h
  simp [blown_up k h]
/-- A bit's majority, where weak cells read as z. -/
def Lj (cs : List UInt8) (j : Nat) (z : Bool) : Bool := maj3 (fuRd (cl cs (3 * j)) z) (fuRd (cl cs (3 * j + 1)) z) (fuRd (cl cs (3 * j + 2)) z)
theorem maj3_mono {a b c x y z : Bool} (h1 : a = true → x = true) (h2 : b = true → y = true) (h3 : c = true → z = true) (h : maj3 a b c = true) : maj3 x y z = true := by
  unfold maj3 at *
  cases a <;> cases b <;> cases c <;> simp at h1 h2 h3 h ⊢ <;> simp_all
theorem Lj_lo {cs : List UInt8} {j : Nat} (a b c : Bool) (h : Lj cs j false = true) : maj3 (fuRd (cl cs (3 * j)) a) (fuRd (cl cs (3 * j + 1)) b) (fuRd (cl cs (3 * j + 2)) c) = true := maj3_mono (fuRd_lo _ _) (fuRd_lo _ _) (fuRd_lo _ _) h
theorem Lj_hi {cs : List UInt8} {j : Nat} {a b c : Bool} (h : maj3 (fuRd (cl cs (3 * j)) a) (fuRd (cl cs (3 * j + 1)) b) (fuRd (cl cs (3 * j + 2)) c) = true) : Lj cs j true = true := maj3_mono (fuRd_hi _ _) (fuRd_hi _ _) (fuRd_hi _ _) h
theorem Lj_up {cs ds : List UInt8} {j : Nat} (k : UpC cs ds) (h : Lj cs j false = true) : Lj ds j false = true := maj3_mono (fuRd_up (k.2 _)) (fuRd_up (k.2 _)) (fuRd_up (k.2 _)) h
theorem Lj_same {cs ds : List UInt8} {j : Nat} {z : Bool} (h : ∀ c, 3 * j ≤ c → c < 3 * j + 3 → cl ds c = cl cs c) : Lj ds j z = Lj cs j z := by
  unfold Lj
  rw [h _ (by omega) (by omega), h _ (by omega) (by omega), h _ (by omega) (by omega)]
/-- The cells of a bit are blown or stuck. -/
def DoneB (cs : List UInt8) (j : Nat) : Prop := ∀ c, 3 * j ≤ c → c < 3 * j + 3 → Done (cl cs c)
theorem DoneB.up {cs ds : List UInt8} {j : Nat} (h : DoneB cs j) (k : UpC cs ds) : DoneB ds j := fun c h1 h2 => (h c h1 h2).up (k.2 c)
/-- How many cells of a bit are stuck. -/
def stkB (cs : List UInt8) (j : Nat) : Nat := (if cl cs (3 * j) = 3 then 1 else 0) + (if cl cs (3 * j + 1) = 3 then 1 else 0) + (if cl cs (3 * j + 2) = 3 then 1 else 0)
theorem stkB_up {cs ds : List UInt8} (k : UpC cs ds) (j : Nat) : stkB ds j ≤ stkB cs j := by
  unfold stkB
  have h : ∀ c, (if cl ds c = 3 then 1 else 0) ≤ (if cl cs c = 3 then 1 else 0) := fun c => by
    by_cases h3 : cl ds c = 3
    · rw [if_pos h3, if_pos (stuck_up (k.2 c) h3)]; exact Nat.le_refl _
    · rw [if_neg h3]; exact Nat.zero_le _
  have h0 := h (3 * j)
  have h1 := h (3 * j + 1)
  have h2 := h (3 * j + 2)
  omega
/-- A bit whose cells are blown or stuck reads as 1 unless two of them are stuck. -/
theorem Lj_done {cs : List UInt8} {j : Nat} (h : DoneB cs j) (z : Bool) : Lj cs j z = decide (stkB cs j ≤ 1) := by
  have h0 := h (3 * j) (by omega) (by omega)
  have h1 := h (3 * j + 1) (by omega) (by omega)
  have h2 := h (3 * j + 2) (by omega) (by omega)
  unfold Lj stkB
  rcases h0 with h0 | h0 <;> rcases h1 with h1 | h1 <;> rcases h2 with h2 | h2 <;> rw [h0, h1, h2] <;> cases z <;> decide
def SoundC (cs : List UInt8) : Prop := ∀ j, stkB cs j ≤ 1
theorem SoundC.up {cs ds : List UInt8} (h : SoundC cs) (k : UpC cs ds) : SoundC ds := fun j => Nat.le_trans (stkB_up k j) (h j)

/-! ## Runs -/
structure RtRun where
  f : List UInt8
  n : Int
  e : Int
  done : Bool
  many : Nat
def rtRun (fl : Nat → Bool × Bool) : RtP → Nat → List UInt8 → RtRun
  | .done n e, i, cs => ⟨cs, n, e, true, i⟩
  | .rd c k, i, cs => if (fl i).1 then ⟨cs, 0, 0, false, i + 1⟩ else rtRun fl (k (fuRd (cl cs c) (fl i).2)) (i + 1) cs
  | .pu c k, i, cs => if (fl i).1 then ⟨pul1 cs c true, 0, 0, false, i + 1⟩ else rtRun fl k (i + 1) (pul1 cs c false)
def NoF (fl : Nat → Bool × Bool) : Prop := ∀ i, fl i = (false, false)
/-- Cells that a program reaches, and how many accesses it makes. -/
def rtDep : RtP → Nat → Nat → Prop
  | .done _ _, _, _ => True
  | .rd c k, m, d => c < m ∧ ∃ d', d = d' + 1 ∧ ∀ b, rtDep (k b) m d'
  | .pu c k, m, d => c < m ∧ ∃ d', d = d' + 1 ∧ rtDep k m d'
theorem rtDep_mono : ∀ {T : RtP} {m d d' : Nat}, rtDep T m d → d ≤ d' → rtDep T m d'
  | .done _ _, _, _, _, _, _ => trivial
  | .rd c k, m, d, d', ⟨h1, e, h2, h3⟩, h => ⟨h1, d' - 1, by omega, fun b => rtDep_mono (h3 b) (by omega)⟩
  | .pu c k, m, d, d', ⟨h1, e, h2, h3⟩, h => ⟨h1, d' - 1, by omega, rtDep_mono h3 (by omega)⟩
theorem rtBit_dep {b m d : Nat} {k : Bool → RtP} (h : ∀ x, rtDep (k x) m d) (hb : 3 * b + 3 ≤ m) : rtDep (rtBit b k) m (d + 3) :=
  ⟨by omega, d + 2, rfl, fun _ => ⟨by omega, d + 1, rfl, fun _ => ⟨by omega, d, rfl, fun _ => h _⟩⟩⟩
theorem rtPul_dep {b m d : Nat} {k : RtP} (h : rtDep k m d) (hb : 3 * b + 3 ≤ m) : rtDep (rtPul b k) m (d + 3) :=
  ⟨by omega, d + 2, rfl, by omega, d + 1, rfl, by omega, d, rfl, h⟩
theorem rtRead_dep {k : Nat → RtP} {m d : Nat} : ∀ (r b : Nat), (∀ n, n ≤ b + r → rtDep (k n) m d) → 3 * (b + r) ≤ m → rtDep (rtRead b r k) m (d + 3 * r)
  | 0, b, h, hb => h b (by omega)
  | r + 1, b, h, hb => by
    rw [rtRead, show d + 3 * (r + 1) = d + 3 * r + 3 by omega]
    refine rtBit_dep (fun x => ?_) (by omega)
    cases x with
    | true => exact rtRead_dep r (b + 1) (fun n hn => h n (by omega)) (by omega)
    | false => exact rtDep_mono (h b (by omega)) (by omega)
theorem rtPuls_dep {k : RtP} {m d : Nat} : ∀ (r b : Nat), rtDep k m d → 3 * (b + r) ≤ m → rtDep (rtPuls b r k) m (d + 3 * r)
  | 0, b, h, hb => h
  | r + 1, b, h, hb => by
    rw [rtPuls, show d + 3 * (r + 1) = d + 3 * r + 3 by omega]
    exact rtPul_dep (rtPuls_dep r (b + 1) h (by omega)) (by omega)
theorem rtUp_dep {k : Nat → RtP} {m d : Nat} : ∀ (r b : Nat), (∀ n, n ≤ b + r → rtDep (k n) m d) → 3 * (b + r) ≤ m → rtDep (rtUp b r k) m (d + 6 * r)
  | 0, b, h, hb => h b (by omega)
  | r + 1, b, h, hb => by
    rw [rtUp, show d + 6 * (r + 1) = d + 6 * r + 3 + 3 by omega]
    refine rtPul_dep (rtBit_dep (fun x => ?_) (by omega)) (by omega)
    cases x with
    | true => exact rtUp_dep r (b + 1) (fun n hn => h n (by omega)) (by omega)
    | false => exact rtDep_mono (h b (by omega)) (by omega)
theorem rtLev_dep {k : Nat → RtP} {m d bits : Nat} (h : ∀ n, n ≤ bits → rtDep (k n) m d) (hb : 3 * bits ≤ m) : rtDep (rtLev bits k) m (d + 6 * bits) := by
  unfold rtLev
  rw [show d + 6 * bits = d + 3 * bits + 3 * bits by omega]
  exact rtRead_dep bits 0 (fun n hn => rtDep_mono (rtPuls_dep n 0 (h n (by omega)) (by omega)) (by omega)) (by omega)
theorem rtLevel_dep (bits : Nat) : rtDep (rtLevel bits) (3 * bits) (12 * bits) := rtDep_mono (rtLev_dep (d := 0) (fun _ _ => trivial) (Nat.le_refl _)) (by omega)
theorem rtRaise_dep {bits target : Nat} (ht : target ≤ bits) : rtDep (rtRaise bits target) (3 * bits) (12 * bits) :=
  rtDep_mono (rtLev_dep (d := 6 * bits) (fun n hn => rtDep_mono (rtUp_dep (d := 0) (target - n) n (fun _ _ => trivial) (by omega)) (by omega)) (Nat.le_refl _)) (by omega)

/-! ## Phases of a run -/
section
variable {fl : Nat → Bool × Bool}
theorem run_rd (c : Nat) (k : Bool → RtP) (i : Nat) (cs : List UInt8) : (¬ NoF fl ∧ ∃ q, rtRun fl (.rd c k) i cs = ⟨cs, 0, 0, false, q⟩) ∨ rtRun fl (.rd c k) i cs = rtRun fl (k (fuRd (cl cs c) (fl i).2)) (i + 1) cs := by
  rw [rtRun]
  cases h : (fl i).1 with
  | true => exact .inl ⟨fun hn => (by rw [hn i] at h; exact absurd h (by decide)), i + 1, by rw [if_pos rfl]⟩
  | false => exact .inr (by rw [if_neg (by decide)])
theorem run_pu (c : Nat) (k : RtP) (i : Nat) (cs : List UInt8) : (¬ NoF fl ∧ ∃ q, rtRun fl (.pu c k) i cs = ⟨pul1 cs c true, 0, 0, false, q⟩) ∨ rtRun fl (.pu c k) i cs = rtRun fl k (i + 1) (pul1 cs c false) := by
  rw [rtRun]
  cases h : (fl i).1 with
  | true => exact .inl ⟨fun hn => (by rw [hn i] at h; exact absurd h (by decide)), i + 1, by rw [if_pos rfl]⟩
  | false => exact .inr (by rw [if_neg (by decide)])
theorem run_bit (b : Nat) (k : Bool → RtP) (i : Nat) (cs : List UInt8) : (¬ NoF fl ∧ ∃ q, rtRun fl (rtBit b k) i cs = ⟨cs, 0, 0, false, q⟩) ∨
    ∃ one, rtRun fl (rtBit b k) i cs = rtRun fl (k one) (i + 3) cs ∧ (Lj cs b false = true → one = true) ∧ (one = true → Lj cs b true = true) ∧ (NoF fl → one = Lj cs b false) := by
  unfold rtBit
  rcases run_rd (fl := fl) (3 * b) (fun x => .rd (3 * b + 1) fun y => .rd (3 * b + 2) fun z => k (maj3 x y z)) i cs with h | h
  · exact .inl h
  rw [h]
  rcases run_rd (fl := fl) (3 * b + 1) (fun y => .rd (3 * b + 2) fun z => k (maj3 (fuRd (cl cs (3 * b)) (fl i).2) y z)) (i + 1) cs with h | h
  · exact .inl h
  rw [h]
  rcases run_rd (fl := fl) (3 * b + 2) (fun z => k (maj3 (fuRd (cl cs (3 * b)) (fl i).2) (fuRd (cl cs (3 * b + 1)) (fl (i + 1)).2) z)) (i + 1 + 1) cs with h | h
  · exact .inl h
  rw [h]
  refine .inr ⟨_, rfl, Lj_lo _ _ _, Lj_hi, fun hn => ?_⟩
  rw [hn i, hn (i + 1), hn (i + 1 + 1)]
  rfl
theorem run_pul (b : Nat) (k : RtP) (i : Nat) (cs : List UInt8) : (¬ NoF fl ∧ ∃ ds q, rtRun fl (rtPul b k) i cs = ⟨ds, 0, 0, false, q⟩ ∧ UpC cs ds ∧ OutC (3 * b) (3 * b + 3) cs ds) ∨
    ∃ ds, rtRun fl (rtPul b k) i cs = rtRun fl k (i + 3) ds ∧ UpC cs ds ∧ OutC (3 * b) (3 * b + 3) cs ds ∧ (Small3 cs → 3 * b + 3 ≤ cs.length → DoneB ds b) := by
  unfold rtPul
  have u1 := fun z => UpC.pul1 cs (3 * b) z
  have o1 := fun z => OutC.pul1 cs (3 * b) z
  rcases run_pu (fl := fl) (3 * b) (.pu (3 * b + 1) (.pu (3 * b + 2) k)) i cs with ⟨hn, q, h⟩ | h
  · exact .inl ⟨hn, _, q, h, u1 _, (o1 _).mono (by omega) (by omega)⟩
  rw [h]
  have u2 := fun z => (u1 false).trans (UpC.pul1 (pul1 cs (3 * b) false) (3 * b + 1) z)
  have o2 := fun z => ((o1 false).mono (lo' := 3 * b) (hi' := 3 * b + 3) (by omega) (by omega)).trans ((OutC.pul1 (pul1 cs (3 * b) false) (3 * b + 1) z).mono (by omega) (by omega))
  rcases run_pu (fl := fl) (3 * b + 1) (.pu (3 * b + 2) k) (i + 1) (pul1 cs (3 * b) false) with ⟨hn, q, h⟩ | h
  · exact .inl ⟨hn, _, q, h, u2 _, o2 _⟩
  rw [h]
  have u3 := fun z => (u2 false).trans (UpC.pul1 (pul1 (pul1 cs (3 * b) false) (3 * b + 1) false) (3 * b + 2) z)
  have o3 := fun z => (o2 false).trans ((OutC.pul1 (pul1 (pul1 cs (3 * b) false) (3 * b + 1) false) (3 * b + 2) z).mono (lo' := 3 * b) (hi' := 3 * b + 3) (by omega) (by omega))
  rcases run_pu (fl := fl) (3 * b + 2) k (i + 1 + 1) (pul1 (pul1 cs (3 * b) false) (3 * b + 1) false) with ⟨hn, q, h⟩ | h
  · exact .inl ⟨hn, _, q, h, u3 _, o3 _⟩
  rw [h]
  refine .inr ⟨_, rfl, u3 _, o3 _, fun hs hl c h1 h2 => ?_⟩
  have hs1 := hs.up (u1 false)
  have hs2 := hs.up (u2 false)
  have l1 : (pul1 cs (3 * b) false).length = cs.length := pul1_len ..
  have l2 : (pul1 (pul1 cs (3 * b) false) (3 * b + 1) false).length = cs.length := (pul1_len ..).trans l1
  rcases (show c = 3 * b ∨ c = 3 * b + 1 ∨ c = 3 * b + 2 by omega) with rfl | rfl | rfl
  · exact ((pul1_done hs (by omega)).up ((UpC.pul1 _ (3 * b + 1) false).2 _)).up ((UpC.pul1 _ (3 * b + 2) false).2 _)
  · exact (pul1_done hs1 (by omega)).up ((UpC.pul1 _ (3 * b + 2) false).2 _)
  · exact pul1_done hs2 (by omega)
theorem run_read {k : Nat → RtP} (cs : List UInt8) : ∀ (r b i : Nat), (¬ NoF fl ∧ ∃ q, rtRun fl (rtRead b r k) i cs = ⟨cs, 0, 0, false, q⟩) ∨
    ∃ n, b ≤ n ∧ n ≤ b + r ∧ (∀ j, b ≤ j → j < n → Lj cs j true = true) ∧ (n < b + r → Lj cs n false = false) ∧ (NoF fl → ∀ j, b ≤ j → j < n → Lj cs j false = true) ∧
      rtRun fl (rtRead b r k) i cs = rtRun fl (k n) (i + 3 * (n - b) + (if n < b + r then 3 else 0)) cs
  | 0, b, i => .inr ⟨b, Nat.le_refl _, Nat.le_refl _, fun j h1 h2 => by omega, fun h => by omega, fun _ j h1 h2 => by omega, by rw [rtRead, if_neg (by omega), Nat.sub_self]; rfl⟩
  | r + 1, b, i => by
    rw [rtRead]
    rcases run_bit (fl := fl) b (fun one => if one then rtRead (b + 1) r k else k b) i cs with h | ⟨one, h, h1, h2, h3⟩
    · exact .inl h
    rw [h]
    cases one with
    | false =>
      refine .inr ⟨b, Nat.le_refl _, by omega, fun j h1 h2 => by omega, fun _ => ?_, fun _ j h1 h2 => by omega, ?_⟩
      · cases hl : Lj cs b false with
        | false => rfl
        | true => exact (h1 hl).symm ▸ rfl
      · rw [if_pos (show b < b + (r + 1) by omega), Nat.sub_self]; rfl
    | true =>
      simp only [↓reduceIte]
      rcases run_read (k := k) cs r (b + 1) (i + 3) with h | ⟨n, n1, n2, n3, n4, n5, n6⟩
      · exact .inl h
      refine .inr ⟨n, by omega, by omega, fun j j1 j2 => ?_, fun hn => n4 (by omega), fun hn j j1 j2 => ?_, ?_⟩
      · rcases Nat.eq_or_lt_of_le j1 with rfl | j1
        · exact h2 rfl
        · exact n3 j j1 j2
      · rcases Nat.eq_or_lt_of_le j1 with rfl | j1
        · exact (h3 hn).symm
        · exact n5 hn j j1 j2
      · rw [n6]
        by_cases hlt : n < b + (r + 1)
        · rw [if_pos hlt, if_pos (by omega)]; congr 1; omega
        · rw [if_neg hlt, if_neg (by omega)]; congr 1; omega
theorem run_puls {k : RtP} : ∀ (r b i : Nat) (cs : List UInt8), (¬ NoF fl ∧ ∃ ds q, rtRun fl (rtPuls b r k) i cs = ⟨ds, 0, 0, false, q⟩ ∧ UpC cs ds ∧ OutC (3 * b) (3 * (b + r)) cs ds) ∨
    ∃ ds, rtRun fl (rtPuls b r k) i cs = rtRun fl k (i + 3 * r) ds ∧ UpC cs ds ∧ OutC (3 * b) (3 * (b + r)) cs ds ∧ (Small3 cs → 3 * (b + r) ≤ cs.length → ∀ j, b ≤ j → j < b + r → DoneB ds j)
  | 0, b, i, cs => .inr ⟨cs, rfl, UpC.refl _, OutC.refl _ _ _, fun _ _ j h1 h2 => by omega⟩
  | r + 1, b, i, cs => by
    rw [rtPuls]
    rcases run_pul (fl := fl) b (rtPuls (b + 1) r k) i cs with ⟨hn, ds, q, h, u, o⟩ | ⟨ds, h, u, o, hd⟩
    · exact .inl ⟨hn, ds, q, h, u, o.mono (Nat.le_refl _) (by omega)⟩
    rw [h]
    have o' := o.mono (lo' := 3 * b) (hi' := 3 * (b + (r + 1))) (Nat.le_refl _) (by omega)
    rcases run_puls (k := k) r (b + 1) (i + 3) ds with ⟨hn, es, q, h, u2, o2⟩ | ⟨es, h, u2, o2, hd2⟩
    · exact .inl ⟨hn, es, q, h, u.trans u2, o'.trans (o2.mono (by omega) (by omega))⟩
    refine .inr ⟨es, by rw [h]; congr 1; omega, u.trans u2, o'.trans (o2.mono (by omega) (by omega)), fun hs hl j j1 j2 => ?_⟩
    rcases Nat.eq_or_lt_of_le j1 with rfl | j1
    · exact (hd hs (by omega)).up u2
    · exact hd2 (hs.up u) (by rw [← u.1]; omega) j j1 (by omega)
theorem run_up {k : Nat → RtP} : ∀ (r b i : Nat) (cs : List UInt8), (¬ NoF fl ∧ ∃ ds q, rtRun fl (rtUp b r k) i cs = ⟨ds, 0, 0, false, q⟩ ∧ UpC cs ds ∧ OutC (3 * b) (3 * (b + r)) cs ds) ∨
    ∃ n ds, b ≤ n ∧ n ≤ b + r ∧ rtRun fl (rtUp b r k) i cs = rtRun fl (k n) (i + 6 * (n - b) + (if n < b + r then 6 else 0)) ds ∧ UpC cs ds ∧ OutC (3 * b) (3 * (b + r)) cs ds ∧
      (Small3 cs → 3 * (b + r) ≤ cs.length → (∀ j, b ≤ j → j < n → DoneB ds j) ∧ (n < b + r → 2 ≤ stkB ds n))
  | 0, b, i, cs => .inr ⟨b, cs, Nat.le_refl _, Nat.le_refl _, (by rw [rtUp, if_neg (by omega), Nat.sub_self]; rfl), UpC.refl _, OutC.refl _ _ _, fun _ _ => ⟨fun j h1 h2 => by omega, fun h => by omega⟩⟩
  | r + 1, b, i, cs => by
    rw [rtUp]
    rcases run_pul (fl := fl) b (rtBit b fun one => if one then rtUp (b + 1) r k else k b) i cs with ⟨hn, ds, q, h, u, o⟩ | ⟨ds, h, u, o, hd⟩
    · exact .inl ⟨hn, ds, q, h, u, o.mono (Nat.le_refl _) (by omega)⟩
    rw [h]
    have o' := o.mono (lo' := 3 * b) (hi' := 3 * (b + (r + 1))) (Nat.le_refl _) (by omega)
    rcases run_bit (fl := fl) b (fun one => if one then rtUp (b + 1) r k else k b) (i + 3) ds with ⟨hn, q, h⟩ | ⟨one, h, h1, h2, h3⟩
    · exact .inl ⟨hn, ds, q, h, u, o'⟩
    rw [h]
    cases one with
    | false =>
      refine .inr ⟨b, ds, Nat.le_refl _, by omega, by rw [if_pos (show b < b + (r + 1) by omega), Nat.sub_self]; rfl, u, o', fun hs hl => ⟨fun j h1 h2 => by omega, fun _ => ?_⟩⟩
      have hL : Lj ds b false = false := by
        cases hl : Lj ds b false with
        | false => rfl
        | true => exact (h1 hl).symm ▸ rfl
      rw [Lj_done (hd hs (by omega))] at hL
      have := of_decide_eq_false hL
      omega
    | true =>
      simp only [↓reduceIte]
      rcases run_up (k := k) r (b + 1) (i + 3 + 3) ds with ⟨hn, es, q, h, u2, o2⟩ | ⟨n, es, n1, n2, h, u2, o2, hd2⟩
      · exact .inl ⟨hn, es, q, h, u.trans u2, o'.trans (o2.mono (by omega) (by omega))⟩
      refine .inr ⟨n, es, by omega, by omega, ?_, u.trans u2, o'.trans (o2.mono (by omega) (by omega)), fun hs hl => ⟨fun j j1 j2 => ?_, fun hn => (hd2 (hs.up u) (by rw [← u.1]; omega)).2 (by omega)⟩⟩
      · rw [h]
        by_cases hlt : n < b + (r + 1)
        · rw [if_pos hlt, if_pos (by omega)]; congr 1; omega
        · rw [if_neg hlt, if_neg (by omega)]; congr 1; omega
      · rcases Nat.eq_or_lt_of_le j1 with rfl | j1
        · exact (hd hs (by omega)).up u2
        · exact (hd2 (hs.up u) (by rw [← u.1]; omega)).1 j j1 j2
end
end Go.Proofs.Ytfcbcclcmgheeaa
