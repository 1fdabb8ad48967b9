/-
  Devices: the plain functions of layer 9 over banks, sectors and a root key, and their laws: numbers and lists alone. No condition.
-/
import Derived.Test.YtfcbcclcmgheeaaFuMM
import Derived.Test.YtfcbcclcmgheeaaFlG
namespace Go.Proofs.Ytfcbcclcmgheeaa

structure DvS where
  bs : List (List UInt8)
  fs : List ByteArray
  rt : List UInt8
structure DvA where
  k : Int
  b : Int
  c : Int
  s : ByteArray
structure DvF where
  cut : Bool
  n : Int
  noise : Bool
structure DvR where
  x : Int
  s : ByteArray
def noB : ByteArray := ⟨#[]⟩
def noF : DvF := ⟨false, 0, false⟩
def noR : DvR := ⟨0, noB⟩
/-- An access whose kind is unknown, or with a field that its kind doesn't use. -/
def dvBad (a : DvA) : Bool :=
  if a.k = 1 ∨ a.k = 2 then decide (a.s ≠ noB) else if a.k = 3 then decide (a.s ≠ noB) || decide (a.b ≠ 0) else if a.k = 4 then decide (a.b ≠ 0) else true
def dvCut (f : DvF) : Int := if f.cut then max 0 (min 256 f.n) else -1
def dvErr (s : DvS) (a : DvA) : Int :=
  if dvBad a then 1 else if a.k = 1 ∨ a.k = 2 then fuErr s.bs a.b a.c else if a.k = 3 then flErr s.fs a.c else flWErr s.fs a.c a.s
def dvSt (s : DvS) (a : DvA) (f : DvF) : DvS :=
  if dvBad a then s else if a.k = 2 then { s with bs := fuPulse s.bs a.b a.c f.cut } else if a.k = 4 then { s with fs := flWrite s.fs a.c a.s (dvCut f) } else s
def dvRs (s : DvS) (a : DvA) (f : DvF) : DvR :=
  if dvBad a || f.cut then noR else if a.k = 1 then ⟨fuRead s.bs a.b a.c f.noise, noB⟩ else if a.k = 3 then ⟨0, flRead s.fs a.c⟩ else noR
def dvAll : DvS → List DvR → List DvA → List DvF → DvS × List DvR × Int
  | s, rs, [], _ => (s, rs, 0)
  | s, rs, a :: l, fl =>
    if dvErr s a = 0 then (if (fl.headD noF).cut then (dvSt s a (fl.headD noF), rs, 0) else dvAll (dvSt s a (fl.headD noF)) (rs ++ [dvRs s a (fl.headD noF)]) l fl.tail) else (s, rs, dvErr s a)
def dvSame (s t : DvS) : Bool := decide (s.rt = t.rt) && (decide (s.bs = t.bs) && decide (s.fs = t.fs))
def dvSmall (s : DvS) : Bool :=
  fuValid s.bs && (decide (s.fs.length ≤ 200) && !s.fs.any flBig)
/-- What the walks want to know of sizes. -/
def dvSm (s : DvS) : Prop := s.bs.length ≤ 100 ∧ (∀ l ∈ s.bs, l.length ≤ 1000) ∧ s.fs.length ≤ 1000000
def dvNewE (bits : List Int) : Int := fuNewE bits
def dvNew (rt : List UInt8) (bits : List Int) : DvS := if fuNewBad bits then ⟨[], [], List.replicate 16 0⟩ else ⟨fuNew bits, flNew 128, rt⟩

section
variable {s : DvS} {a : DvA} {f : DvF}
theorem dvErr_bad (h : dvBad a = true) : dvErr s a = 1 := by unfold dvErr; rw [if_pos h]
theorem dvSt_bad (h : dvBad a = true) : dvSt s a f = s := by unfold dvSt; rw [if_pos h]
theorem dvRs_bad (h : dvBad a = true) : dvRs s a f = noR := by unfold dvRs; rw [h]; rfl
theorem dvRs_cut (h : f.cut = true) : dvRs s a f = noR := by unfold dvRs; rw [h, Bool.or_true]; rfl
theorem nb (h : ¬ (dvBad a = true)) : dvBad a = false := by simpa using h
theorem dvErr_fuse (h : dvBad a = false) (hk : a.k = 1 ∨ a.k = 2) : dvErr s a = fuErr s.bs a.b a.c := by unfold dvErr; rw [h, if_neg (by decide), if_pos hk]
theorem dvErr_read (h : dvBad a = false) (hk : a.k = 3) : dvErr s a = flErr s.fs a.c := by unfold dvErr; rw [h, if_neg (by decide), if_neg (by omega), if_pos hk]
theorem dvErr_write (h : dvBad a = false) (hk : a.k = 4) : dvErr s a = flWErr s.fs a.c a.s := by unfold dvErr; rw [h, if_neg (by decide), if_neg (by omega), if_neg (by omega)]
theorem dvSt_keep (hk : a.k = 1 ∨ a.k = 3) : dvSt s a f = s := by unfold dvSt; split; rfl; rw [if_neg (by omega), if_neg (by omega)]
theorem dvSt_pulse (h : dvBad a = false) (hk : a.k = 2) : dvSt s a f = { s with bs := fuPulse s.bs a.b a.c f.cut } := by unfold dvSt; rw [h, if_neg (by decide), if_pos hk]
theorem dvSt_write (h : dvBad a = false) (hk : a.k = 4) : dvSt s a f = { s with fs := flWrite s.fs a.c a.s (dvCut f) } := by unfold dvSt; rw [h, if_neg (by decide), if_neg (by omega), if_pos hk]
theorem dvRs_fuse (h : dvBad a = false) (hk : a.k = 1) (hf : f.cut = false) : dvRs s a f = ⟨fuRead s.bs a.b a.c f.noise, noB⟩ := by unfold dvRs; rw [h, hf, Bool.false_or, if_neg (by decide), if_pos hk]
theorem dvRs_read (h : dvBad a = false) (hk : a.k = 3) (hf : f.cut = false) : dvRs s a f = ⟨0, flRead s.fs a.c⟩ := by unfold dvRs; rw [h, hf, Bool.false_or, if_neg (by decide), if_neg (by omega), if_pos hk]
theorem dvRs_none (hk : a.k = 2 ∨ a.k = 4) : dvRs s a f = noR := by unfold dvRs; split; rfl; rw [if_neg (by omega), if_neg (by omega)]
theorem dvBad_no (h : dvBad a = false) : a.k = 1 ∨ a.k = 2 ∨ a.k = 3 ∨ a.k = 4 := by
  unfold dvBad at h
  by_cases h1 : a.k = 1
  · exact .inl h1
  · by_cases h2 : a.k = 2
    · exact .inr (.inl h2)
    · by_cases h3 : a.k = 3
      · exact .inr (.inr (.inl h3))
      · by_cases h4 : a.k = 4
        · exact .inr (.inr (.inr h4))
        · rw [if_neg (by omega), if_neg h3, if_neg h4] at h
          cases h
theorem dvBad_far (h1 : a.k ≠ 1) (h2 : a.k ≠ 2) (h3 : a.k ≠ 3) (h4 : a.k ≠ 4) : dvBad a = true := by unfold dvBad; rw [if_neg (by omega), if_neg h3, if_neg h4]
theorem dvBad_fuse (hk : a.k = 1 ∨ a.k = 2) : dvBad a = decide (a.s ≠ noB) := by unfold dvBad; rw [if_pos hk]
theorem dvBad_read (hk : a.k = 3) : dvBad a = (decide (a.s ≠ noB) || decide (a.b ≠ 0)) := by unfold dvBad; rw [if_neg (by omega), if_pos hk]
theorem dvBad_write (hk : a.k = 4) : dvBad a = decide (a.b ≠ 0) := by unfold dvBad; rw [if_neg (by omega), if_neg (by omega), if_pos hk]
theorem dvBad_s (h : dvBad a = false) (hk : a.k = 1 ∨ a.k = 2 ∨ a.k = 3) : a.s = noB := by
  rcases hk with hk | hk | hk
  · rw [dvBad_fuse (.inl hk)] at h; simpa using h
  · rw [dvBad_fuse (.inr hk)] at h; simpa using h
  · rw [dvBad_read hk] at h
    simp at h
    exact h.1
/-- An access that fails changes nothing and has no result. -/
theorem dvSt_err (h : dvErr s a ≠ 0) : dvSt s a f = s := by
  cases hb : dvBad a with
  | true => exact dvSt_bad hb
  | false =>
    rcases dvBad_no hb with hk | hk | hk | hk
    · exact dvSt_keep (.inl hk)
    · rw [dvErr_fuse hb (.inr hk)] at h
      rw [dvSt_pulse hb hk]
      cases hx : fuEx s.bs a.b a.c with
      | false => rw [fuPulse_out hx]
      | true => exact absurd (fuErr_in hx) h
    · exact dvSt_keep (.inr hk)
    · rw [dvErr_write hb hk] at h
      rw [dvSt_write hb hk]
      cases hx : flIn s.fs a.c with
      | false => rw [flWrite_no hx]
      | true =>
        by_cases hz : a.s.size = 256
        · exact absurd (flWErr_yes hx hz) h
        · rw [flWrite_len hz]
theorem dvRs_err (h : dvErr s a ≠ 0) : dvRs s a f = noR := by
  cases hb : dvBad a with
  | true => exact dvRs_bad hb
  | false =>
    cases hf : f.cut with
    | true => exact dvRs_cut hf
    | false =>
      rcases dvBad_no hb with hk | hk | hk | hk
      · rw [dvErr_fuse hb (.inl hk)] at h
        rw [dvRs_fuse hb hk hf]
        cases hx : fuEx s.bs a.b a.c with
        | false => rw [fuRead_out hx]; rfl
        | true => exact absurd (fuErr_in hx) h
      · exact dvRs_none (.inl hk)
      · rw [dvErr_read hb hk] at h
        rw [dvRs_read hb hk hf]
        cases hx : flIn s.fs a.c with
        | false => rw [flRead_no hx]; rfl
        | true =>
          obtain ⟨j, hj, hl⟩ := flIn_iff.1 hx
          rw [hj] at h
          exact absurd (flErr_nat hl) h
      · exact dvRs_none (.inr hk)
theorem dvSt_rt : (dvSt s a f).rt = s.rt := by unfold dvSt; split; rfl; split; rfl; split <;> rfl
theorem dvSt_flen : (dvSt s a f).fs.length = s.fs.length := by
  unfold dvSt
  split
  · rfl
  · split
    · rfl
    · split
      · exact flWrite_length _
      · rfl
/-- One cell's way: it stays, or goes from intact to weak or blown, or from weak to blown. -/
def Up1 (s s' : UInt8) : Prop := s = s' ∨ (s.toNat ≤ 1 ∧ s.toNat ≤ s'.toNat ∧ s'.toNat ≤ 2)
theorem Up1.refl (s : UInt8) : Up1 s s := .inl rfl
theorem Up1.trans (a b c : UInt8) (h1 : Up1 a b) (h2 : Up1 b c) : Up1 a c := by
  rcases h1 with rfl | ⟨h1, h2', h3⟩
  · exact h2
  · rcases h2 with rfl | ⟨k1, k2, k3⟩
    · exact .inr ⟨h1, h2', h3⟩
    · exact .inr ⟨h1, by omega, k3⟩
theorem Up1.pl (s : UInt8) (cut : Bool) : Up1 s (fuPl s cut) := by
  unfold fuPl
  by_cases h0 : s = 0
  · subst h0; cases cut <;> exact .inr (by decide)
  · by_cases h1 : s = 1
    · subst h1; cases cut <;> exact .inr (by decide)
    · rw [beq_eq_false_iff_ne.2 h0, beq_eq_false_iff_ne.2 h1]
      exact .inl rfl
theorem dvSt_rel {P : UInt8 → UInt8 → Prop} (hr : ∀ s, P s s) (hp : ∀ s cut, P s (fuPl s cut)) : Rel P s.bs (dvSt s a f).bs := by
  unfold dvSt
  split
  · exact Rel.refl hr _
  · split
    · exact Rel.pulse hr _ _ _ _ (fun s => hp s _)
    · split <;> exact Rel.refl hr _
theorem Rel.lens {P : UInt8 → UInt8 → Prop} {bs cs : List (List UInt8)} (h : Rel P bs cs) (m : Nat) (hl : ∀ l ∈ bs, l.length ≤ m) : ∀ l ∈ cs, l.length ≤ m := by
  intro l hm
  obtain ⟨k, hk, rfl⟩ := List.mem_iff_getElem.1 hm
  have hk' : k < bs.length := by rw [h.1]; exact hk
  obtain ⟨l', h1, h2, _⟩ := h.bank (List.getElem?_eq_getElem hk')
  rw [List.getElem?_eq_getElem hk] at h1
  cases h1
  rw [← h2]
  exact hl _ (List.getElem_mem hk')
theorem dvSt_sm (h : dvSm s) : dvSm (dvSt s a f) := by
  have hR := dvSt_rel (s := s) (a := a) (f := f) (P := Up1) Up1.refl Up1.pl
  exact ⟨by rw [← hR.1]; exact h.1, hR.lens 1000 h.2.1, by rw [dvSt_flen]; exact h.2.2⟩
theorem dvSmall_sm (h : dvSmall s = true) : dvSm s := by
  unfold dvSmall at h
  rw [Bool.and_eq_true, Bool.and_eq_true, decide_eq_true_eq] at h
  refine ⟨by have := valid_len h.1; omega, fun l hl => ?_, by omega⟩
  obtain ⟨k, hk, rfl⟩ := List.mem_iff_getElem.1 hl
  have := (valid_bank h.1 (List.getElem?_eq_getElem hk)).2.1
  omega
theorem dvSame_refl : dvSame s s = true := by simp [dvSame]
end
theorem dvSame_eq {s t : DvS} : dvSame s t = true ↔ s = t := by
  constructor
  · intro h
    unfold dvSame at h
    simp only [Bool.and_eq_true, decide_eq_true_eq] at h
    obtain ⟨bs, fs, rt⟩ := s
    obtain ⟨bs', fs', rt'⟩ := t
    obtain ⟨rfl, rfl, rfl⟩ := h
    rfl
  · rintro rfl
    exact dvSame_refl
/-! ## Several accesses -/
section
variable {s : DvS} {rs : List DvR} {a : DvA} {l : List DvA} {fl : List DvF}
theorem dvAll_nil : dvAll s rs [] fl = (s, rs, 0) := rfl
theorem dvAll_err (h : dvErr s a ≠ 0) : dvAll s rs (a :: l) fl = (s, rs, dvErr s a) := by rw [dvAll, if_neg h]
theorem dvAll_cut (h : dvErr s a = 0) (hc : (fl.headD noF).cut = true) : dvAll s rs (a :: l) fl = (dvSt s a (fl.headD noF), rs, 0) := by rw [dvAll, if_pos h, if_pos hc]
theorem dvAll_go (h : dvErr s a = 0) (hc : (fl.headD noF).cut = false) : dvAll s rs (a :: l) fl = dvAll (dvSt s a (fl.headD noF)) (rs ++ [dvRs s a (fl.headD noF)]) l fl.tail := by rw [dvAll, if_pos h, if_neg (by rw [hc]; decide)]
end
/-- The fault of access i. -/
def dvFl (fl : List DvF) (i : Nat) : DvF := (fl.drop i).headD noF
theorem dvFl_in {fl : List DvF} {i : Nat} {f : DvF} (h : fl[i]? = some f) : dvFl fl i = f := by
  unfold dvFl
  rw [List.headD_eq_head?_getD, List.head?_drop, h]; rfl
theorem dvFl_out {fl : List DvF} {i : Nat} (h : fl.length ≤ i) : dvFl fl i = noF := by
  unfold dvFl
  rw [List.drop_of_length_le h]; rfl
theorem drop_at {α : Type} {l : List α} {i : Nat} {a : α} (h : l[i]? = some a) : l.drop i = a :: l.drop (i + 1) := by
  have hi := (List.getElem?_eq_some_iff.1 h).1
  rw [List.drop_eq_getElem_cons hi, (List.getElem?_eq_some_iff.1 h).2]
section
variable {s : DvS} {rs : List DvR} {a : DvA} {l : List DvA} {fl : List DvF} {i : Nat}
theorem dvAt_end (h : l.length ≤ i) : dvAll s rs (l.drop i) (fl.drop i) = (s, rs, 0) := by rw [List.drop_of_length_le h]; exact dvAll_nil
theorem dvAt_err (ha : l[i]? = some a) (h : dvErr s a ≠ 0) : dvAll s rs (l.drop i) (fl.drop i) = (s, rs, dvErr s a) := by rw [drop_at ha]; exact dvAll_err h
theorem dvAt_cut (ha : l[i]? = some a) (h : dvErr s a = 0) (hc : (dvFl fl i).cut = true) : dvAll s rs (l.drop i) (fl.drop i) = (dvSt s a (dvFl fl i), rs, 0) := by rw [drop_at ha]; exact dvAll_cut h hc
theorem dvAt_go (ha : l[i]? = some a) (h : dvErr s a = 0) (hc : (dvFl fl i).cut = false) : dvAll s rs (l.drop i) (fl.drop i) = dvAll (dvSt s a (dvFl fl i)) (rs ++ [dvRs s a (dvFl fl i)]) (l.drop (i + 1)) (fl.drop (i + 1)) := by
  rw [drop_at ha, dvAll_go h hc, List.tail_drop]; rfl
end
/-- What holds of a device's cells and levels behind several accesses. -/
theorem dvAll_rel {P : UInt8 → UInt8 → Prop} (hr : ∀ s, P s s) (ht : ∀ a b c, P a b → P b c → P a c) (hp : ∀ s cut, P s (fuPl s cut)) :
    ∀ (l : List DvA) (s : DvS) (rs : List DvR) (fl : List DvF), Rel P s.bs (dvAll s rs l fl).1.bs
  | [], s, _, _ => Rel.refl hr _
  | a :: l, s, rs, fl => by
    by_cases he : dvErr s a = 0
    · cases hc : (fl.headD noF).cut with
      | true => rw [dvAll_cut he hc]; exact dvSt_rel hr hp
      | false =>
        rw [dvAll_go he hc]
        exact Rel.trans ht (dvSt_rel hr hp) (dvAll_rel hr ht hp l _ _ _)
    · rw [dvAll_err he]
      exact Rel.refl hr _
theorem dvAll_level (l : List DvA) (s : DvS) (rs : List DvR) (fl : List DvF) (b : Int) (z : Bool) : fuLevel s.bs b z ≤ fuLevel (dvAll s rs l fl).1.bs b z :=
  fuLevel_le (dvAll_rel (P := Hit1) Hit1.refl Hit1.trans Hit1.pl l s rs fl) (fun _ _ h => h.1 z) b
end Go.Proofs.Ytfcbcclcmgheeaa
