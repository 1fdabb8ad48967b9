/-
  What ratchet's end, exists, majority and cells return: contracts by walks. No condition.
-/
import Derived.Test.YtfcbcclcmgheeaaRtA
set_option linter.unusedSimpArgs false
set_option linter.unusedVariables false
namespace Go.Proofs.Ytfcbcclcmgheeaa
open Go.RowKit

set_option maxRecDepth 100000 in
set_option maxHeartbeats 4000000 in
theorem rend_any (g B : Nat) (bank : Int) (s : RtS) (hs : s.OK) (o : RtO) (w : World) (hp : RpOK w g B bank s) :
    Calls Try.prog 20 #[.pointer (some ⟨g, 0, none⟩), o.v] w (GivesS (rtEnd s o.n o.e) w) := by
  obtain ⟨l, A, n, d, hl, hnd, hBg, hrow, hr⟩ := hp
  obtain ⟨sl, a⟩ := s
  simp only at hl hrow
  have hgl := hrow.lt
  clear hl hr hBg
  by_cases h0 : a.k ≠ 0
  · have hne : (!acEq a noAc) = true := by rw [acEq_no h0]; rfl
    have HE : Hid (rtEnd ⟨sl, a⟩ o.n o.e = (a, noO, false)) := Lib.hid (if_neg h0)
    rw [HE.out]
    have HNE : ∀ (w : World) (ρ : Operand → Value) (o : Oper) (x y : Operand), o.op = .binOp .neq 27 x y 27 → ρ x = .agg a.cs.toArray → ρ y = .agg noAc.cs.toArray → (execOp ρ o).run Try.prog w = .ok (.value (.bool true)) w := fun w ρ o x y h1 h2 h3 => by
      rw [← hne]; exact exec_neqA w x y h1 a noAc h2 h3
    clear hs h0 hne HE
    go_enter Try.func20, Try.ntmps20
    go_wp2_with (first
      | ((with_reducible refine wpList_at ⟨some 3, _, _, _, _, _⟩ ?_); refine wpList_box_row rfl _ _ rfl (o.cs) rfl ?_; intro w1 ro_1 s1 g1; have k1 : Below w.heap.size w w1 := grown_below g1 (Nat.le_refl _) (by simp); have B1 : Below w.heap.size w w1 := k1; have rp_1 := hrow.on k1)
      | (with_reducible refine wpList_alloc_row (o := ⟨some 4, _, _, _, _, _⟩) rfl _ rfl zeroA zero_ac ?_; intro w2 z4_2 s2 g2; have k2 : Below w1.heap.size w1 w2 := grown_below g2 (Nat.le_refl _) (by simp); have B2 := B1.trans (k2.mono B1.size); have rp_2 := rp_1.on k2; have ro_2 := ro_1.on k2; clear rp_1 ro_1)
      | (with_reducible refine wpList_alloc_row (o := ⟨some 5, _, _, _, _, _⟩) rfl _ rfl zeroLO zero_lo ?_; intro w3 z5_3 s3 g3; have k3 : Below w2.heap.size w2 w3 := grown_below g3 (Nat.le_refl _) (by simp); have B3 := B2.trans (k3.mono B2.size); have rp_3 := rp_2.on k3; have ro_3 := ro_2.on k3; have z4_3 := z4_2.on k3; clear rp_2 ro_2 z4_2)
      | ((with_reducible refine wpList_at ⟨some 10, _, _, _, _, _⟩ ?_); refine wpList_valueG rfl _ (by exact exec_load _ 27 _ rfl ⟨g, 2, none⟩ rfl a.cs (Row.part rp_3 (pre := [.int .i64 bank, .slice A n d]) (post := []) (by rw [List.append_nil]; rfl) rfl) _ Try.underlying27 rfl (by kernel_rfl)) ?_)
      | ((with_reducible refine wpList_at ⟨some 12, _, _, _, _, _⟩ ?_); refine wpList_valueG rfl _ (by exact HNE _ _ _ _ _ rfl rfl rfl) ?_)
      | ((with_reducible refine wpList_at ⟨some 16, _, _, _, _, _⟩ ?_); refine wpList_valueG rfl _ (by exact exec_load _ 27 _ rfl ⟨g, 2, none⟩ rfl a.cs (Row.part rp_3 (pre := [.int .i64 bank, .slice A n d]) (post := []) (by rw [List.append_nil]; rfl) rfl) _ Try.underlying27 rfl (by kernel_rfl)) ?_)
      | ((with_reducible refine wpList_at ⟨none, .store _ (.tmp 4) _, _, _, _, _⟩ ?_); refine wpList_store_all rfl _ _ _ rfl (w1.heap.size) rfl _ _ z4_3 (a.cs) rfl (a.cs_one) rfl (by kernel_rfl) ?_; intro w4 z4_4 g4; have rp_4 := rp_3.kept g4 (by simp; omega); have ro_4 := ro_3.kept g4 (by simp; omega); have z5_4 := z5_3.kept g4 (by simp; omega); have B4 := below_kept B3 g4 B3.size (by rintro q hq; cases hq; omega); have sz4 := g4.size; clear rp_3 ro_3 z5_3)
      | ((with_reducible refine wpList_at ⟨none, .store _ (.tmp 5) _, _, _, _, _⟩ ?_); refine wpList_store_all rfl _ _ _ rfl (w2.heap.size) rfl _ _ z5_4 (noO.cs) rfl (noO.cs_one) rfl (by kernel_rfl) ?_; intro w5 z5_5 g5; have rp_5 := rp_4.kept g5 (by simp; omega); have ro_5 := ro_4.kept g5 (by simp; omega); have z4_5 := z4_4.kept g5 (by simp; omega); have B5 := below_kept B4 g5 B4.size (by rintro q hq; cases hq; omega); have sz5 := g5.size; clear rp_4 ro_4 z4_4))
    exact bodyPost_ret (results_cells2 Try.results20 _ _ _ _ _ _ rfl rfl (load_ac z4_5) (load_lo z5_5)) rfl ⟨rfl, B5⟩
  · have hne : (!acEq a noAc) = false := by rw [show a = noAc from (hs.resolve_right (fun h => h0 h.1)), acEq_self]; rfl
    have HE : Hid (rtEnd ⟨sl, a⟩ o.n o.e = (noAc, o, true)) := Lib.hid (if_pos (Decidable.not_not.1 h0))
    rw [HE.out]
    have HNE : ∀ (w : World) (ρ : Operand → Value) (o : Oper) (x y : Operand), o.op = .binOp .neq 27 x y 27 → ρ x = .agg a.cs.toArray → ρ y = .agg noAc.cs.toArray → (execOp ρ o).run Try.prog w = .ok (.value (.bool false)) w := fun w ρ o x y h1 h2 h3 => by
      rw [← hne]; exact exec_neqA w x y h1 a noAc h2 h3
    clear hs h0 hne HE
    go_enter Try.func20, Try.ntmps20
    go_wp2_with (first
      | ((with_reducible refine wpList_at ⟨some 3, _, _, _, _, _⟩ ?_); refine wpList_box_row rfl _ _ rfl (o.cs) rfl ?_; intro w1 ro_1 s1 g1; have k1 : Below w.heap.size w w1 := grown_below g1 (Nat.le_refl _) (by simp); have B1 : Below w.heap.size w w1 := k1; have rp_1 := hrow.on k1)
      | (with_reducible refine wpList_alloc_row (o := ⟨some 4, _, _, _, _, _⟩) rfl _ rfl zeroA zero_ac ?_; intro w2 z4_2 s2 g2; have k2 : Below w1.heap.size w1 w2 := grown_below g2 (Nat.le_refl _) (by simp); have B2 := B1.trans (k2.mono B1.size); have rp_2 := rp_1.on k2; have ro_2 := ro_1.on k2; clear rp_1 ro_1)
      | (with_reducible refine wpList_alloc_row (o := ⟨some 5, _, _, _, _, _⟩) rfl _ rfl zeroLO zero_lo ?_; intro w3 z5_3 s3 g3; have k3 : Below w2.heap.size w2 w3 := grown_below g3 (Nat.le_refl _) (by simp); have B3 := B2.trans (k3.mono B2.size); have rp_3 := rp_2.on k3; have ro_3 := ro_2.on k3; have z4_3 := z4_2.on k3; clear rp_2 ro_2 z4_2)
      | ((with_reducible refine wpList_at ⟨some 10, _, _, _, _, _⟩ ?_); refine wpList_valueG rfl _ (by exact exec_load _ 27 _ rfl ⟨g, 2, none⟩ rfl a.cs (Row.part rp_3 (pre := [.int .i64 bank, .slice A n d]) (post := []) (by rw [List.append_nil]; rfl) rfl) _ Try.underlying27 rfl (by kernel_rfl)) ?_)
      | ((with_reducible refine wpList_at ⟨some 12, _, _, _, _, _⟩ ?_); refine wpList_valueG rfl _ (by exact HNE _ _ _ _ _ rfl rfl rfl) ?_))
    try simp only [Act.put, List.setIfInBounds_toArray, List.set_cons_zero, List.set_cons_succ]
    have b0 : Below w.heap.size w w3.drew := B3.drew
    have z0 : w3.drew.heap.size = w3.heap.size := rfl
    have roe := ro_3.drew
    have rol := roe.lt
    have z4e := z4_3.drew
    have z4l := z4e.lt
    have z5e := z5_3.drew
    have z5l := z5e.lt
    refine wp_region_plan (fun w' => Row w' (w.heap.size) 30 o.cs) (.take 0 <| .take 1 <| .one 2 <| .one 3 <| .take 4 <| .done) (by kernel_rfl) (by kernel_rfl) (by kernel_rfl) (fun _ _ _ _ _ h => h) roe ?_
    repeat (refine plan_take _ rfl ?_; (first | ((with_reducible refine wpQuiet_at ⟨some 19, _, _, _, _, _⟩ ?_); refine wpQuiet_valueG rfl _ (by intro _ hS; exact exec_loadLO _ _ rfl (w.heap.size) rfl o hS) (wpQuiet_nil ?_); simp only [Act.put, List.setIfInBounds_toArray, List.set_cons_zero, List.set_cons_succ]) | (go_big_quiet_step ((intros; rfl)); refine wpQuiet_nil ?_)))
    refine plan_one _ rfl fun K hK => ?_
    refine step_store_all rfl _ _ _ rfl (w1.heap.size) rfl _ _ z4e (noAc.cs) rfl (noAc.cs_one) rfl (by kernel_rfl) ?_
    intro wu1 z4u1 gu1
    have rou1 := roe.kept gu1 (by simp; omega)
    have z5u1 := z5e.kept gu1 (by simp; omega)
    have bu1 := below_kept b0 gu1 b0.size (by rintro q hq; cases hq; omega)
    have su1 := gu1.size
    refine hK _ _ rou1 ?_
    clear hK K
    simp only [Act.put, List.setIfInBounds_toArray, List.set_cons_zero, List.set_cons_succ]
    refine plan_one _ rfl fun K hK => ?_
    refine step_store_all rfl _ _ _ rfl (w2.heap.size) rfl _ _ z5u1 (o.cs) rfl (o.cs_one) rfl (by kernel_rfl) ?_
    intro wu2 z5u2 gu2
    have rou2 := rou1.kept gu2 (by simp; omega)
    have z4u2 := z4u1.kept gu2 (by simp; omega)
    have bu2 := below_kept bu1 gu2 bu1.size (by rintro q hq; cases hq; omega)
    have su2 := gu2.size
    refine hK _ _ rou2 ?_
    clear hK K
    simp only [Act.put, List.setIfInBounds_toArray, List.set_cons_zero, List.set_cons_succ]
    repeat (refine plan_take _ rfl ?_; (first | ((with_reducible refine wpQuiet_at ⟨some 19, _, _, _, _, _⟩ ?_); refine wpQuiet_valueG rfl _ (by intro _ hS; exact exec_loadLO _ _ rfl (w.heap.size) rfl o hS) (wpQuiet_nil ?_); simp only [Act.put, List.setIfInBounds_toArray, List.set_cons_zero, List.set_cons_succ]) | (go_big_quiet_step ((intros; rfl)); refine wpQuiet_nil ?_)))
    refine plan_done ?_
    go_wp2_with fail
    exact bodyPost_ret (results_cells2 Try.results20 _ _ _ _ _ _ rfl rfl (load_ac (a := noAc) z4u2) (load_lo (a := o) z5u2)) rfl ⟨rfl, bu2⟩
set_option maxRecDepth 100000 in
set_option maxHeartbeats 4000000 in
theorem rexists11_any (bank bits : Int) (w : World) : Calls Try.prog 19 #[.int .i64 bank, .int .i64 bits] w (fun e w' => e = .returned (.bool (rtIn bank bits)) ∧ w = w') := by
  unfold rtIn
  by_cases h0 : 0 ≤ bank
  · by_cases h1 : bank < 4
    · by_cases h2 : 0 ≤ bits
      · by_cases h3 : bits ≤ 16
        · rw [decide_eq_true h0, decide_eq_true h1, decide_eq_true h2, decide_eq_true h3]
          go_enter Try.func19, Try.ntmps19
          go_wp2_with fail
          go_ret
          exact ⟨rfl, rfl⟩
        · rw [decide_eq_true h0, decide_eq_true h1, decide_eq_true h2, decide_eq_false h3]
          go_enter Try.func19, Try.ntmps19
          go_wp2_with fail
          go_ret
          exact ⟨rfl, rfl⟩
      · rw [decide_eq_true h0, decide_eq_true h1, decide_eq_false h2]
        go_enter Try.func19, Try.ntmps19
        go_wp2_with fail
        go_ret
        exact ⟨rfl, rfl⟩
    · rw [decide_eq_true h0, decide_eq_false h1]
      go_enter Try.func19, Try.ntmps19
      go_wp2_with fail
      go_ret
      exact ⟨rfl, rfl⟩
  · rw [decide_eq_false h0]
    go_enter Try.func19, Try.ntmps19
    go_wp2_with fail
    go_ret
    exact ⟨rfl, rfl⟩
/-- Three cells. -/
def c3 (x y z : Int) : List Value := [.int .i64 x, .int .i64 y, .int .i64 z]
theorem c3_one (x y z : Int) : ∀ u ∈ c3 x y z, u.oneCell' = true := by intro u hu; unfold c3 at hu; simp at hu; rcases hu with rfl | rfl | rfl <;> rfl
def b01 (x : Int) : Nat := if x != 0 then 1 else 0
theorem b01_le (x : Int) : b01 x ≤ 1 := by unfold b01; split <;> omega
theorem b01_t {x : Int} (h : (x != 0) = true) : b01 x = 1 := by unfold b01; rw [if_pos h]
theorem b01_f {x : Int} (h : (x != 0) = false) : b01 x = 0 := by unfold b01; rw [h]; rfl
theorem majI_sum (x y z : Int) : majI x y z = decide (1 < b01 x + b01 y + b01 z) := by
  unfold majI b01
  cases (x != 0) <;> cases (y != 0) <;> cases (z != 0) <;> rfl
def nth3 (x y z : Int) (k : Nat) : Int := if k = 0 then x else if k = 1 then y else z
def sum3 (x y z : Int) : Nat → Nat
  | 0 => 0
  | k + 1 => sum3 x y z k + b01 (nth3 x y z k)
theorem sum3_le (x y z : Int) : ∀ k, sum3 x y z k ≤ k
  | 0 => Nat.le_refl _
  | k + 1 => by have := sum3_le x y z k; have := b01_le (nth3 x y z k); rw [sum3]; omega
theorem sum3_3 (x y z : Int) : sum3 x y z 3 = b01 x + b01 y + b01 z := by simp [sum3, nth3]
theorem c3_get (x y z : Int) {k : Nat} (h : k < 3) : (c3 x y z)[k]? = some (.int .i64 (nth3 x y z k)) := by
  rcases (show k = 0 ∨ k = 1 ∨ k = 2 by omega) with rfl | rfl | rfl <;> rfl
set_option maxRecDepth 100000 in
set_option maxHeartbeats 4000000 in
theorem rmajority_any (ad : Addr) (c : Nat) (x y z : Int) (w : World) (hr : Reads w w.heap.size 1 (some ad) 3 (c3 x y z)) :
    Calls Try.prog 33 #[.slice (some ad) 3 c] w (fun e w' => e = .returned (.bool (majI x y z)) ∧ w = w') := by
  have HM := Lib.hid (majI_sum x y z)
  have H3 := Lib.hid (sum3_3 x y z)
  have HL := fun k => Lib.hid (sum3_le x y z k)
  have HC : ∀ k, k < 3 → w.cell? (ad.add k) = some (.int .i64 (nth3 x y z k)) := fun k hk => by
    obtain ⟨ad', e, _, hc⟩ := hr.2 (by decide)
    cases e
    exact hc k _ (c3_get x y z hk)
  have HS : ∀ k v, nth3 x y z k = v → Hid (sum3 x y z (k + 1) = sum3 x y z k + b01 v) := fun k v h => Lib.hid (by rw [sum3, h])
  have H0 : Hid (sum3 x y z 0 = 0) := Lib.hid rfl
  generalize majI x y z = M at *
  generalize sum3 x y z = sm at *
  obtain ⟨nth, hnth⟩ : ∃ f, f = nth3 x y z := ⟨_, rfl⟩
  rw [← hnth] at HC HS
  clear hr hnth
  go_enter Try.func33, Try.ntmps33
  go_wp2_with fail
  go_loopg [3, 8] 3 (fun gh s3 s8 wr => ∃ k : Nat, Hid (k + gh = 3) ∧ k ≤ 3 ∧ s3 = .int .i64 (sm k : Int) ∧ s8 = .int .i64 (k : Int) ∧ wr = w)
  case atStart => exact ⟨0, by show _ = _; omega, by omega, by rw [H0.out]; rfl, rfl, rfl⟩
  case round =>
    obtain ⟨k, HK, hk, rfl, rfl, rfl⟩ := hrel
    by_cases hlt : k < 3
    · have hck := HC k hlt
      obtain ⟨v, hv⟩ : ∃ v, v = nth k := ⟨_, rfl⟩
      have HSK := HS k v hv.symm
      rw [← hv] at hck
      have hle := (HL k).out
      obtain ⟨S, hS⟩ : ∃ S, S = sm k := ⟨_, rfl⟩
      rw [← hS] at HSK hle ⊢
      clear hv hS HS HC HL
      cases hz : (v != 0) with
      | true =>
        have h1 := Lib.hid (b01_t hz)
        go_wp2_with fail
        go_roundg (gk - 1)
        case measure => have := HK.out; omega
        case rel => exact ⟨k + 1, by have := HK.out; show _ = _; omega, by omega, by rw [HSK.out, h1.out]; go_num, by go_num, rfl⟩
      | false =>
        have h1 := Lib.hid (b01_f hz)
        go_wp2_with fail
        go_roundg (gk - 1)
        case measure => have := HK.out; omega
        case rel => exact ⟨k + 1, by have := HK.out; show _ = _; omega, by omega, by rw [HSK.out, h1.out]; rfl, by go_num, rfl⟩
    · obtain rfl : k = 3 := by omega
      have hle := (HL 3).out
      have HE : Hid (M = decide ((1 : Int) < (sm 3 : Int))) := Lib.hid (by rw [HM.out, ← H3.out]; exact decide_eq_decide.2 (by omega))
      clear HM H3 HS HC HL
      go_wp2_with fail
      go_ret
      exact ⟨by rw [HE.out]; rfl, rfl⟩
end Go.Proofs.Ytfcbcclcmgheeaa
