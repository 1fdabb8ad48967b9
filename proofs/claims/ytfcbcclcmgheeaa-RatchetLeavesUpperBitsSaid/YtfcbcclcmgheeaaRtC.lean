/-
  What ratchet's cells returns: a contract by a walk. No condition but the bit's range.
-/
import Derived.Test.YtfcbcclcmgheeaaRtB
set_option linter.unusedSimpArgs false
set_option linter.unusedVariables false
namespace Go.Proofs.Ytfcbcclcmgheeaa
open Go.RowKit

/-- The state behind i of three accesses, and their values. -/
def accS (bank : Int) (s : RtS) (kind : Int) (b : Nat) : Nat → RtS
  | 0 => s
  | i + 1 => (rtAcc bank (accS bank s kind b i) kind (3 * (b : Int) + (i : Int))).1
def accV (bank : Int) (s : RtS) (kind : Int) (b i : Nat) : Int := (rtAcc bank (accS bank s kind b i) kind (3 * (b : Int) + (i : Int))).2
theorem accS_ok {bank : Int} {s : RtS} {kind : Int} {b : Nat} (h : s.OK) (hk : kind ≠ 0) : ∀ i, (accS bank s kind b i).OK
  | 0 => h
  | i + 1 => rtAcc_ok (accS_ok h hk i) hk
theorem acc3_eq (bank : Int) (s : RtS) (kind : Int) (b : Nat) : rtAcc3 bank s kind b = (accS bank s kind b 3, accV bank s kind b 0, accV bank s kind b 1, accV bank s kind b 2) := by
  unfold rtAcc3 accV accS accS accS accS
  have e0 : ((3 * b : Nat) : Int) = 3 * (b : Int) + ((0 : Nat) : Int) := by omega
  have e1 : ((3 * b + 1 : Nat) : Int) = 3 * (b : Int) + ((1 : Nat) : Int) := by omega
  have e2 : ((3 * b + 2 : Nat) : Int) = 3 * (b : Int) + ((2 : Nat) : Int) := by omega
  rw [e0, e1, e2]
def vN (V : Nat → Int) (i : Nat) : List Value := c3 (if 0 < i then V 0 else 0) (if 1 < i then V 1 else 0) (if 2 < i then V 2 else 0)
theorem vN_set (V : Nat → Int) {i : Nat} (h : i < 3) : (vN V i).set i (.int .i64 (V i)) = vN V (i + 1) := by
  rcases (show i = 0 ∨ i = 1 ∨ i = 2 by omega) with rfl | rfl | rfl <;> rfl
theorem vN_one (V : Nat → Int) (i : Nat) : ∀ u ∈ vN V i, u.oneCell' = true := c3_one _ _ _
def zero3i : List Value := c3 0 0 0
theorem zero_3i : (Try.prog.info? 86).map (fun i => i.zero.map (·.cells)) = some (some zero3i.toArray) := by kernel_rfl
theorem exec_load3 {ρ : Operand → Value} {o : Oper} (w : World) (x : Operand) (ho : o.op = .load 86 x) (g : Nat) (hx : ρ x = .pointer (some ⟨g, 0, none⟩)) (V : Nat → Int) (i : Nat) {e : TypeId} (hr : Row w g e (vN V i)) :
    (execOp ρ o).run Try.prog w = .ok (.value (.agg (vN V i).toArray)) w := exec_load w _ x ho ⟨g, 0, none⟩ hx _ hr.cells _ Try.underlying86 rfl (by kernel_rfl)
set_option maxRecDepth 100000 in
set_option maxHeartbeats 4000000 in
theorem rcells_any (g B : Nat) (bank : Int) (s : RtS) (hs : s.OK) (kind : Int) (hk : kind ≠ 0) (b : Nat) (hb : b ≤ 1000) (w : World) (hp : RpOK w g B bank s) :
    Calls Try.prog 32 #[.pointer (some ⟨g, 0, none⟩), .int .i64 kind, .int .i64 (b : Int)] w (GivesP g B bank (rtAcc3 bank s kind b).1 (.agg (c3 (rtAcc3 bank s kind b).2.1 (rtAcc3 bank s kind b).2.2.1 (rtAcc3 bank s kind b).2.2.2).toArray) w) := by
  rw [acc3_eq]
  have HA : ∀ (i : Nat) (W : World), RpOK W g B bank (accS bank s kind b i) → Hid (Calls Try.prog 41 #[.pointer (some ⟨g, 0, none⟩), .int .i64 kind, .int .i64 (3 * (b : Int) + (i : Int))] W (GivesP g B bank (accS bank s kind b (i + 1)) (.int .i64 (accV bank s kind b i)) W)) :=
    fun i W h => Lib.hid (raccess_any g B bank _ (accS_ok hs hk i) kind _ W h)
  have h0 : RpOK w g B bank (accS bank s kind b 0) := hp
  generalize accS bank s kind b = AS at *
  generalize accV bank s kind b = AV at *
  have HV0 : Hid (vN AV 0 = zero3i) := Lib.hid rfl
  have HVS := fun (i : Nat) (h : i < 3) => Lib.hid (vN_set AV h)
  have hgl := h0.lt
  have hBg := h0.le
  clear hp hs hk
  go_enter Try.func32, Try.ntmps32
  go_wp2_with (first
    | (with_reducible refine wpList_alloc_row (o := ⟨some 6, _, _, _, _, _⟩) rfl _ rfl zero3i zero_3i ?_; intro w1 z1 s1 g1; have b1 := grown_below g1 (Nat.le_refl _) (by simp); have p1 := h0.on b1)
    | (with_reducible refine wpList_alloc_row (o := ⟨some 7, _, _, _, _, _⟩) rfl _ rfl zero3i zero_3i ?_; intro w2 v2 s2 g2; have b2 := grown_below g2 (Nat.le_refl _) (by simp); have p2 := p1.on b2; have z2 := z1.on b2; have G2 := below_grownBy (b1.trans (b2.mono b1.size)) (some g)))
  rw [← HV0.out] at v2
  go_loopg [8, 9] 3 (fun gh s8 s9 wr => ∃ i : Nat, Hid (i + gh = 3) ∧ i ≤ 3 ∧ s9 = .int .i64 (i : Int) ∧ Row wr w.heap.size 86 zero3i ∧ Row wr w1.heap.size 86 (vN AV i) ∧ RpOK wr g B bank (AS i) ∧ w.grownBy wr (some g))
  case atStart => exact ⟨0, by show _ = _; omega, by omega, rfl, z2, v2, p2, G2⟩
  case round =>
    obtain ⟨i, HI, hi, rfl, z3, v3, p3, G3⟩ := hrel
    by_cases hlt : i < 3
    · have HAI := HA i wr p3
      have HVI := HVS i hlt
      have lv := v3.lt
      go_wp2_with fail
      refine HAI.out.mono ?_
      rintro e w4 ⟨rfl, p4, g4⟩
      have z4 := z3.kept g4 (by simp; omega)
      have v4 := v3.kept g4 (by simp; omega)
      have G4 := grown_trans G3 g4
      go_wp2_with ((with_reducible refine wpList_at ⟨none, .store _ (.tmp 20) _, _, _, _, _⟩ ?_); refine wpList_store_elem rfl _ _ _ rfl w1.heap.size i rfl _ _ v4 (.int .i64 (AV i)) rfl rfl hlt (by kernel_rfl) ?_; intro w5 v5 g5; rw [HVI.out] at v5; have z5 := z4.kept g5 (by simp; omega); have p5 := p4.kept g5 (by omega) (by omega); have G5 := grown_new G4 g5 (by omega))
      go_roundg (gk - 1)
      case measure => have := HI.out; omega
      case rel => exact ⟨i + 1, by have := HI.out; show _ = _; omega, by omega, by go_num, z5, v5, p5, G5⟩
    · obtain rfl : i = 3 := by omega
      have lv := v3.lt
      go_wp2_with (first
        | ((with_reducible refine wpList_at ⟨some 22, _, _, _, _, _⟩ ?_); refine wpList_valueG rfl _ (by exact exec_load3 _ _ rfl w1.heap.size rfl AV 3 v3) ?_)
        | ((with_reducible refine wpList_at ⟨none, .store _ (.tmp 6) _, _, _, _, _⟩ ?_); refine wpList_store_all rfl _ _ _ rfl w.heap.size rfl _ _ z3 (vN AV 3) rfl (vN_one _ _) rfl (by kernel_rfl) ?_; intro w5 z5 g5; have p5 := p3.kept g5 (by omega) (by omega); have G5 := grown_new G3 g5 (by omega)))
      exact bodyPost_ret (results_cell1 Try.results32 _ _ _ _ rfl (run_loadVar_at (P := Try.prog) _ 86 ⟨w.heap.size, 0, none⟩ _ z5.cells _ Try.underlying86 rfl (by kernel_rfl))) rfl ⟨rfl, p5, G5⟩
end Go.Proofs.Ytfcbcclcmgheeaa
