/-
  One access of a program on a device: what the reference's Do gives, and what is left of the program. No condition.
-/
import Derived.Test.YtfcbcclcmgheeaaRtX
set_option linter.unusedSimpArgs false
set_option linter.unusedVariables false
namespace Go.Proofs.Ytfcbcclcmgheeaa
open Go.RowKit

def rtNd : RtP → Bool
  | .done _ _ => false
  | _ => true
theorem rtP_cases (T : RtP) : (∃ n e, T = .done n e) ∨ rtNd T = true := by
  cases T with
  | done n e => exact .inl ⟨n, e, rfl⟩
  | rd c k => exact .inr rfl
  | pu c k => exact .inr rfl
/-- A device with one bank and no flash memory. -/
def rtHs (cs : List UInt8) : DvS := ⟨[cs], [], List.replicate 16 0⟩
theorem rtHs_sm {cs : List UInt8} (h : cs.length ≤ 1000) : dvSm (rtHs cs) := ⟨by show 1 ≤ 100; omega, fun l hl => by obtain rfl := List.mem_singleton.1 hl; exact h, by show 0 ≤ 1000000; omega⟩
theorem acA_bad {k c : Int} (hk : k = 1 ∨ k = 2) : dvBad (acA 0 k c) = false := by
  rw [dvBad_fuse (a := acA 0 k c) hk]
  exact decide_eq_false (fun h => h rfl)
theorem bit01 (b : Bool) : ((if b then (1 : Int) else 0) != 0) = b := by cases b <;> rfl
theorem do_step (fl : Nat → Bool × Bool) {T : RtP} {m d i : Nat} {cs : List UInt8} (hd : rtDep T m d) (hm : cs.length = m) (hm2 : m ≤ 1000) (hnd : rtNd T = true) :
    ∃ (a : DvA) (T' : RtP) (cs' : List UInt8) (r : DvR), 0 < d ∧ cs'.length = m ∧ rtAns 0 T [] = (a, noO, false) ∧ ((fl i).1 = true → rtRun fl T i cs = ⟨cs', 0, 0, false, i + 1⟩) ∧
      ((fl i).1 = false → rtRun fl T i cs = rtRun fl T' (i + 1) cs' ∧ rtDep T' m (d - 1) ∧ ∀ vs, rtAns 0 T (r.x :: vs) = rtAns 0 T' vs) ∧
      (∀ (X : Nat → Prop) (h : Hw) (W : World), h.s = rtHs cs → HwIn X h → HwOK W h → Calls Try.prog 28 #[h.v, a.v, (rtDvF (fl i)).v] W (GivesD X (rtHs cs') r 0 W)) := by
  subst hm
  cases T with
  | done n e => cases hnd
  | rd c k =>
    obtain ⟨hc, d', rfl, hk⟩ := hd
    have he : dvErr (rtHs cs) (acA 0 1 c) = 0 := by
      rw [dvErr_fuse (acA_bad (.inl rfl)) (.inl rfl)]
      exact fuErr_in (by show fuEx [cs] ((0 : Nat) : Int) (c : Int) = true; rw [fuEx_nat (l := cs) rfl]; exact decide_eq_true hc)
    have hst : dvSt (rtHs cs) (acA 0 1 c) (rtDvF (fl i)) = rtHs cs := dvSt_keep (.inl rfl)
    refine ⟨acA 0 1 c, k (fuRd (cl cs c) (fl i).2), cs, dvRs (rtHs cs) (acA 0 1 c) (rtDvF (fl i)), by omega, rfl, rfl, fun h => by rw [rtRun, if_pos h], fun h => ⟨by rw [rtRun, if_neg (by rw [h]; decide)], by have := hk (fuRd (cl cs c) (fl i).2); rw [show d' + 1 - 1 = d' by omega]; exact this, fun vs => ?_⟩, fun X h W hs hX hok => ?_⟩
    · have hr : dvRs (rtHs cs) (acA 0 1 c) (rtDvF (fl i)) = ⟨if fuRd (cl cs c) (fl i).2 then 1 else 0, noB⟩ := by
        rw [dvRs_fuse (acA_bad (.inl rfl)) rfl h]
        show DvR.mk (fuRead [cs] ((0 : Nat) : Int) (c : Int) (fl i).2) noB = _
        rw [rd_cl hc]
      rw [hr, rtAns]
      simp only
      rw [bit01]
    · have h1 := rdo1_any X h 0 (c : Int) noB (rtDvF (fl i)) W hX hok (by rw [hs]; exact rtHs_sm hm2)
      rw [hs] at h1
      rw [show (⟨1, 0, (c : Int), noB⟩ : DvA) = acA 0 1 c from rfl, hst, he] at h1
      exact h1
  | pu c k =>
    obtain ⟨hc, d', rfl, hk⟩ := hd
    have hx : fuEx [cs] ((0 : Nat) : Int) (c : Int) = true := by rw [fuEx_nat (l := cs) rfl]; exact decide_eq_true hc
    have he : dvErr (rtHs cs) (acA 0 2 c) = 0 := by
      rw [dvErr_fuse (acA_bad (.inr rfl)) (.inr rfl)]
      exact fuErr_in hx
    have hst : ∀ f : DvF, dvSt (rtHs cs) (acA 0 2 c) f = rtHs (pul1 cs c f.cut) := fun f => by
      rw [dvSt_pulse (acA_bad (.inr rfl)) rfl]
      show DvS.mk (fuPulse [cs] ((0 : Nat) : Int) (c : Int) f.cut) [] _ = _
      rw [fuPulse_nat (l := cs) rfl (cl_get hc)]
      rfl
    refine ⟨acA 0 2 c, k, pul1 cs c (fl i).1, noR, by omega, pul1_len .., rfl, fun h => by rw [rtRun, if_pos h, h], fun h => ⟨by rw [rtRun, if_neg (by rw [h]; decide), h], by rw [show d' + 1 - 1 = d' by omega]; exact hk, fun vs => rfl⟩, fun X h W hs hX hok => ?_⟩
    have h1 := rdo2_any X h 0 (c : Int) noB (rtDvF (fl i)) W hX hok (by rw [hs]; exact rtHs_sm hm2)
    rw [hs] at h1
    rw [show (⟨2, 0, (c : Int), noB⟩ : DvA) = acA 0 2 c from rfl, hst, he, dvRs_none (a := acA 0 2 c) (.inl rfl)] at h1
    exact h1
/-! ## Runs in memory -/
structure Rn where
  A : Option Addr
  n : Nat
  c : Nat
  o : RtO
  done : Bool
  many : Int
  bad : Bool
def Rn.cs (r : Rn) : List Value := [.slice r.A r.n r.c, .int .i64 r.o.n, .int .i64 r.o.e, .bool r.done, .int .i64 r.many, .bool r.bad]
def Rn.v (r : Rn) : Value := .agg r.cs.toArray
theorem Rn.cs_one (r : Rn) : ∀ u ∈ r.cs, u.oneCell' = true := by intro u hu; unfold Rn.cs at hu; simp at hu; rcases hu with rfl | rfl | rfl | rfl | rfl | rfl <;> rfl
def zeroRN : List Value := [.slice none 0 0, .int .i64 0, .int .i64 0, .bool false, .int .i64 0, .bool false]
theorem zero_rn : (Try.prog.info? 44).map (fun i => i.zero.map (·.cells)) = some (some zeroRN.toArray) := by kernel_rfl
theorem load_rn {w : World} {g : Nat} {e : TypeId} {r : Rn} (hr : Row w g e r.cs) : (loadVar 44 ⟨g, 0, none⟩).run Try.prog w = .ok r.v w := run_loadVar_at (P := Try.prog) w _ ⟨g, 0, none⟩ r.cs hr.cells _ Try.underlying44 rfl (by kernel_rfl)
theorem exec_loadSe {ρ : Operand → Value} {o : Oper} (w : World) (x : Operand) (ho : o.op = .load 47 x) (g : Nat) (hx : ρ x = .pointer (some ⟨g, 0, none⟩)) (s : Se) {e : TypeId} (hr : Row w g e s.cs) :
    (execOp ρ o).run Try.prog w = .ok (.value s.v) w := exec_load w _ x ho ⟨g, 0, none⟩ hx s.cs hr.cells _ Try.underlying47 rfl (by kernel_rfl)
theorem exec_loadF1 {ρ : Operand → Value} {o : Oper} (w : World) (x : Operand) (ho : o.op = .load 40 x) (g : Nat) (hx : ρ x = .pointer (some ⟨g, 0, none⟩)) (A : Option Addr) (n c : Nat) {e : TypeId} (hr : Row w g e [.slice A n c]) :
    (execOp ρ o).run Try.prog w = .ok (.value (.agg #[.slice A n c])) w := exec_load w _ x ho ⟨g, 0, none⟩ hx [.slice A n c] hr.cells _ Try.underlying40 rfl (by kernel_rfl)
theorem exec_loadHFx {ρ : Operand → Value} {o : Oper} (w : World) (x : Operand) (ho : o.op = .load 40 x) (g : Nat) (hx : ρ x = .pointer (some ⟨g, 0, none⟩)) (h : Hw) {e : TypeId} (hr : Row w g e h.cs) :
    (execOp ρ o).run Try.prog w = .ok (.value (.agg #[.slice h.A h.n h.c])) w := exec_loadHF w x ho g hx h hr
theorem exec_loadLOx {ρ : Operand → Value} {o : Oper} (w : World) (x : Operand) (ho : o.op = .load 30 x) (g : Nat) (hx : ρ x = .pointer (some ⟨g, 0, none⟩)) (a : RtO) {e : TypeId} (hr : Row w g e a.cs) :
    (execOp ρ o).run Try.prog w = .ok (.value (.agg #[.int .i64 a.n, .int .i64 a.e])) w := exec_loadLO w x ho g hx a hr
/-- A run comes back: its fuses lie in blocks of X or in new ones. -/
def GivesRn (X : Nat → Prop) (R : RtRun) (w : World) (e : Ending) (w' : World) : Prop :=
  ∃ (A : Option Addr) (n c : Nat) (ps : List Part), e = .returned (⟨A, n, c, ⟨R.n, R.e⟩, R.done, (R.many : Int), false⟩ : Rn).v ∧ FuOK w' A n c ps ∧ bk ps = [R.f] ∧ FuIn (fun b => X b ∨ w.heap.size ≤ b) A n ps ∧ Below w.heap.size w w'
end Go.Proofs.Ytfcbcclcmgheeaa
