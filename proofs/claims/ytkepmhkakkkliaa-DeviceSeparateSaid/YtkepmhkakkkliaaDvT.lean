/-
  What the reference's Small returns, and its Results at equal lists: contracts by walks. Condition: bounded lengths.
-/
import Derived.Test.YtkepmhkakkkliaaDvS
namespace Go.Proofs.Ytkepmhkakkkliaa
open Go.RowKit

section
variable {P : Program} (w : World)
theorem eqFields_cons (d : Nat) (xs ys : Array Value) (f : Field) (fs : List Field) (u v : Value) (b : Bool) (hx : (part f.type xs f.offset).run P w = .ok u w) (hy : (part f.type ys f.offset).run P w = .ok v w)
    (he : (Op.equalIn d f.type u v).run P w = .ok true w) (hr : (Op.eqFields d xs ys fs).run P w = .ok b w) : (Op.eqFields d xs ys (f :: fs)).run P w = .ok b w := by
  rw [Op.eqFields]
  by_cases hn : f.name = "_"
  · simp [hn, hr]
  · simp [hn, hx, hy, he, hr]
theorem part_one (e : TypeId) (cs : Array Value) (i : Nat) (v : Value) (ha : (isAgg e).run P w = .ok false w) (hv : cs[i]? = some v) : (part e cs i).run P w = .ok v w := by
  simp [part, ha, hv]
end
theorem fields_rs : (Try.prog.fieldsOf 40).toList.map (fun f => (f.type, f.offset)) = [(3, 0), (9, 1)] := by kernel_rfl
theorem eq_rs (w : World) (r : DvR) : (Op.equalIn 10000 40 (.agg r.cs.toArray) (.agg r.cs.toArray)).run Try.prog w = .ok true w := by
  obtain ⟨n, s⟩ := r
  have hu : Try.prog.underlying 40 = some (.struct (Try.prog.fieldsOf 40)) := by kernel_rfl
  have hp : Try.prog.stoodInHeld 40 = false := by kernel_rfl
  have hf := fields_rs
  rw [run_equalIn_agg w 9999 _ _ _ hu hp]
  generalize (Try.prog.fieldsOf 40).toList = fs at hf
  rcases fs with _ | ⟨f0, _ | ⟨f1, _ | ⟨f2, r⟩⟩⟩
  · simp at hf
  · simp at hf
  rotate_left
  · simp at hf
  · simp only [List.map_cons, List.map_nil, List.cons.injEq, Prod.mk.injEq, and_true] at hf
    obtain ⟨⟨h0, o0⟩, h1, o1⟩ := hf
    have ha0 : ∀ w, (isAgg 3).run Try.prog w = .ok false w := fun w => by kernel_rfl
    have ha1 : ∀ w, (isAgg 9).run Try.prog w = .ok false w := fun w => by kernel_rfl
    exact eqFields_cons w 9999 _ _ f0 [f1] (.int .i64 n) (.int .i64 n) true (by rw [h0, o0]; exact part_one w _ _ 0 _ (ha0 w) rfl) (by rw [h0, o0]; exact part_one w _ _ 0 _ (ha0 w) rfl) (by rw [h0]; rw [run_equalIn_int w 9998 3 .i64 .i64 n n Try.underlying3]; simp)
      (eqFields_cons w 9999 _ _ f1 [] (.string s) (.string s) true (by rw [h1, o1]; exact part_one w _ _ 1 _ (ha1 w) rfl) (by rw [h1, o1]; exact part_one w _ _ 1 _ (ha1 w) rfl) (by rw [h1]; rw [run_equalIn_string w 9998 9 s s Try.underlying9]; simp) (by simp [Op.eqFields]))
theorem exec_eql_rs {ρ : Operand → Value} {o : Oper} (w : World) (x y : Operand) (ho : o.op = .binOp .eql 40 x y 40) (r : DvR) (h1 : ρ x = .agg r.cs.toArray) (h2 : ρ y = .agg r.cs.toArray) :
    (execOp ρ o).run Try.prog w = .ok (.value (.bool true)) w := by
  have hg : Try.prog.eqGuardType Try.prog.depth 40 = false := by kernel_rfl
  unfold execOp
  simp only [ho, h1, h2, Sem.run_bind, run_eqGuard_agg w _ _ _ _ _ _ hg, Result.andThen_ok, run_eql_struct, eq_rs w r]
  rfl
theorem exec_neq_rs {ρ : Operand → Value} {o : Oper} (w : World) (x y : Operand) (ho : o.op = .binOp .neq 40 x y 40) (r : DvR) (h1 : ρ x = .agg r.cs.toArray) (h2 : ρ y = .agg r.cs.toArray) :
    (execOp ρ o).run Try.prog w = .ok (.value (.bool false)) w := by
  have hg : Try.prog.eqGuardType Try.prog.depth 40 = false := by kernel_rfl
  unfold execOp
  simp only [ho, h1, h2, Sem.run_bind, run_eqGuard_agg w _ _ _ _ _ _ hg, Result.andThen_ok, run_neq_struct, eq_rs w r]
  rfl
set_option maxRecDepth 100000 in
set_option maxHeartbeats 4000000 in
theorem results_any9 (A B : Option Addr) (n c m d : Nat) (rs : List DvR) (w : World) (hr : Reads w w.heap.size 2 A n (rs.flatMap DvR.cs)) (hq : Reads w w.heap.size 2 B m (rs.flatMap DvR.cs)) (hn : n ≤ 1000000) :
    Calls Try.prog 18 #[.slice A n c, .slice B m d] w (TellsB true w) := by
  have hln := hr.len_of (by decide) DvR.cs_len
  have hlm := hq.len_of (by decide) DvR.cs_len
  obtain rfl : m = n := by omega
  have HLN := Lib.hid hln
  clear hln hlm
  go_enter Try.func18, Try.ntmps18
  go_wp2_with fail
  go_loopg [5] m (fun g s5 wr => ∃ i : Nat, Hid (i + g = m) ∧ i ≤ m ∧ s5 = .int .i64 (i : Int) ∧ Below w.heap.size w wr)
  case atStart => exact ⟨0, by show _ = _; omega, by omega, rfl, Below.refl _ _⟩
  case round =>
    obtain ⟨i, HI, hi, rfl, hB⟩ := hrel
    by_cases hlt : i < m
    · obtain ⟨r, hri⟩ : ∃ r, rs[i]? = some r := ⟨_, List.getElem?_eq_getElem (by rw [HLN.out]; exact hlt)⟩
      obtain ⟨ad, rfl, hb1, hc1⟩ := hr.elem DvR.cs_len hri hlt
      obtain ⟨bd, rfl, hb2, hc2⟩ := hq.elem DvR.cs_len hri hlt
      have HC1 := Lib.hid hc1
      have HC2 := Lib.hid hc2
      clear hri hc1 hc2
      go_wp2_with fail
      have B0 : Below w.heap.size w wr.drew := hB.drew
      refine wp_region_plan (fun w' => (∀ j u, r.cs[j]? = some u → w'.cell? ((ad.add (i * 2)).add j) = some u) ∧ (∀ j u, r.cs[j]? = some u → w'.cell? ((bd.add (i * 2)).add j) = some u)) (.take 0 <| .take 1 <| .take 2 <| .take 3 <| .take 4 <| .take 5 <| .take 6 <| .take 7 <| .take 8 <| .done) (by kernel_rfl) (by kernel_rfl) (by kernel_rfl) (fun _ _ _ _ _ h => h) ⟨fun j u hu => (B0.cell (by rw [block_of_add, block_of_add]; exact hb1)).trans (HC1.out j u hu), fun j u hu => (B0.cell (by rw [block_of_add, block_of_add]; exact hb2)).trans (HC2.out j u hu)⟩ ?_
      repeat (refine plan_take _ rfl ?_; (first | ((with_reducible refine wpQuiet_at ⟨some 20, _, _, _, _, _⟩ ?_); refine wpQuiet_valueG rfl _ (by intro _ hS; exact exec_load _ 40 _ rfl (ad.add (i * 2)) rfl r.cs hS.1 _ Try.underlying40 rfl (by kernel_rfl)) (wpQuiet_nil ?_); simp only [Act.put, List.setIfInBounds_toArray, List.set_cons_zero, List.set_cons_succ]) | ((with_reducible refine wpQuiet_at ⟨some 24, _, _, _, _, _⟩ ?_); refine wpQuiet_valueG rfl _ (by intro _ hS; exact exec_load _ 40 _ rfl (bd.add (i * 2)) rfl r.cs hS.2 _ Try.underlying40 rfl (by kernel_rfl)) (wpQuiet_nil ?_); simp only [Act.put, List.setIfInBounds_toArray, List.set_cons_zero, List.set_cons_succ]) | ((with_reducible refine wpQuiet_at ⟨some 25, _, _, _, _, _⟩ ?_); refine wpQuiet_valueG rfl _ (by intro _ hS; exact exec_neq_rs _ _ _ rfl r rfl rfl) (wpQuiet_nil ?_); simp only [Act.put, List.setIfInBounds_toArray, List.set_cons_zero, List.set_cons_succ]) | (go_big_quiet_step ((intros; rfl)); refine wpQuiet_nil ?_)))
      refine plan_done ?_
      go_wp2_with fail
      go_roundg (gk - 1)
      case measure => have := HI.out; omega
      case rel => exact ⟨i + 1, by have := HI.out; show _ = _; omega, by omega, by go_num, B0⟩
    · obtain rfl : i = m := by omega
      go_wp2_with fail
      go_ret
      exact ⟨rfl, hB⟩
/-- A bool comes back; if it is true, the device is small. -/
def TellsSm (h : Hw) (w : World) (e : Ending) (w' : World) : Prop := ∃ v, e = .returned (.bool v) ∧ (v = true → dvSm h.s ∧ fuValid h.s.bs = true) ∧ Below w.heap.size w w'
set_option maxRecDepth 100000 in
set_option maxHeartbeats 4000000 in
theorem small_any9 (h : Hw) (w : World) (hok : HwOK w h) : Calls Try.prog 9 #[h.v] w (TellsSm h w) := by
  have HV := fun W h1 => Lib.hid (rvalid_any h.A h.n h.c h.ps W h1)
  have hln := hok.1.1.len
  have hlm := hok.2.1.len
  have hr := hok.1.1
  have hrl := hok.2.1.1
  have HPN := Lib.hid hok.1.2.2
  have HSZ := Lib.hid hok.2.1.2.2.2
  cases hv : fuValid (bk h.ps) with
  | false =>
    rw [hv] at HV
    clear hln hlm hr hrl hv
    go_enter Try.func9, Try.ntmps9
    go_wp2_with (first
      | ((with_reducible refine wpList_at ⟨some 1, _, _, _, _, _⟩ ?_); refine wpList_box_row rfl _ _ rfl (h.cs) rfl ?_; intro w1 rh_1 s1 g1; have k1 : Below w.heap.size w w1 := grown_below g1 (Nat.le_refl _) (by simp); have B1 : Below w.heap.size w w1 := k1; have okh_1 := hok.on k1; have crh0 := rh_1.cell (j := 0) rfl; have crh1 := rh_1.cell (j := 1) rfl)
      | ((with_reducible refine wpList_at ⟨some 7, _, _, _, _, _⟩ ?_); refine wpList_valueG rfl _ (by exact exec_loadHF _ _ rfl (w.heap.size) rfl h rh_1) ?_))
    refine ((HV _ okh_1.1.1).out).mono ?_
    rintro e w2 ⟨rfl, h2⟩
    have B2 := B1.trans (h2.mono B1.size)
    have okh_2 := okh_1.on h2
    have rh_2 := rh_1.on h2
    clear okh_1 rh_1
    have crh0 := rh_2.cell (j := 0) rfl
    have crh1 := rh_2.cell (j := 1) rfl
    go_wp2_with fail
    go_ret
    exact ⟨false, rfl, fun h => (by cases h), B2⟩
  | true =>
    have HVL := Lib.hid hv
    rw [hv] at HV
    by_cases h6 : 6 < h.n
    · clear hln hlm hr hrl hv
      go_enter Try.func9, Try.ntmps9
      go_wp2_with (first
        | ((with_reducible refine wpList_at ⟨some 1, _, _, _, _, _⟩ ?_); refine wpList_box_row rfl _ _ rfl (h.cs) rfl ?_; intro w1 rh_1 s1 g1; have k1 : Below w.heap.size w w1 := grown_below g1 (Nat.le_refl _) (by simp); have B1 : Below w.heap.size w w1 := k1; have okh_1 := hok.on k1; have crh0 := rh_1.cell (j := 0) rfl; have crh1 := rh_1.cell (j := 1) rfl)
        | ((with_reducible refine wpList_at ⟨some 7, _, _, _, _, _⟩ ?_); refine wpList_valueG rfl _ (by exact exec_loadHF _ _ rfl (w.heap.size) rfl h rh_1) ?_))
      refine ((HV _ okh_1.1.1).out).mono ?_
      rintro e w2 ⟨rfl, h2⟩
      have B2 := B1.trans (h2.mono B1.size)
      have okh_2 := okh_1.on h2
      have rh_2 := rh_1.on h2
      clear okh_1 rh_1
      have crh0 := rh_2.cell (j := 0) rfl
      have crh1 := rh_2.cell (j := 1) rfl
      go_wp2_with fail
      go_ret
      exact ⟨false, rfl, fun h => (by cases h), B2⟩
    by_cases h200 : 200 < h.m
    · clear hln hlm hr hrl hv
      go_enter Try.func9, Try.ntmps9
      go_wp2_with (first
        | ((with_reducible refine wpList_at ⟨some 1, _, _, _, _, _⟩ ?_); refine wpList_box_row rfl _ _ rfl (h.cs) rfl ?_; intro w1 rh_1 s1 g1; have k1 : Below w.heap.size w w1 := grown_below g1 (Nat.le_refl _) (by simp); have B1 : Below w.heap.size w w1 := k1; have okh_1 := hok.on k1; have crh0 := rh_1.cell (j := 0) rfl; have crh1 := rh_1.cell (j := 1) rfl)
        | ((with_reducible refine wpList_at ⟨some 7, _, _, _, _, _⟩ ?_); refine wpList_valueG rfl _ (by exact exec_loadHF _ _ rfl (w.heap.size) rfl h rh_1) ?_))
      refine ((HV _ okh_1.1.1).out).mono ?_
      rintro e w2 ⟨rfl, h2⟩
      have B2 := B1.trans (h2.mono B1.size)
      have okh_2 := okh_1.on h2
      have rh_2 := rh_1.on h2
      clear okh_1 rh_1
      have crh0 := rh_2.cell (j := 0) rfl
      have crh1 := rh_2.cell (j := 1) rfl
      go_wp2_with fail
      go_ret
      exact ⟨false, rfl, fun h => (by cases h), B2⟩
    · have HSM : Hid (dvSm h.s) := Lib.hid ⟨by rw [show h.s.bs = bk h.ps from rfl, bk_len]; omega, fun l hl => by
        obtain ⟨k, hk, rfl⟩ := List.mem_iff_getElem.1 hl
        have := (valid_bank hv (List.getElem?_eq_getElem hk)).2.1
        omega, by show h.fs.length ≤ _; omega⟩
      clear hln hlm hv
      go_enter Try.func9, Try.ntmps9
      go_wp2_with (first
        | ((with_reducible refine wpList_at ⟨some 1, _, _, _, _, _⟩ ?_); refine wpList_box_row rfl _ _ rfl (h.cs) rfl ?_; intro w1 rh_1 s1 g1; have k1 : Below w.heap.size w w1 := grown_below g1 (Nat.le_refl _) (by simp); have B1 : Below w.heap.size w w1 := k1; have okh_1 := hok.on k1; have crh0 := rh_1.cell (j := 0) rfl; have crh1 := rh_1.cell (j := 1) rfl)
        | ((with_reducible refine wpList_at ⟨some 7, _, _, _, _, _⟩ ?_); refine wpList_valueG rfl _ (by exact exec_loadHF _ _ rfl (w.heap.size) rfl h rh_1) ?_))
      refine ((HV _ okh_1.1.1).out).mono ?_
      rintro e w2 ⟨rfl, h2⟩
      have B2 := B1.trans (h2.mono B1.size)
      have okh_2 := okh_1.on h2
      have rh_2 := rh_1.on h2
      clear okh_1 rh_1
      have crh0 := rh_2.cell (j := 0) rfl
      have crh1 := rh_2.cell (j := 1) rfl
      go_wp2_with fail
      clear g1 k1 crh0 crh1
      go_loopg [4] h.n (fun g s4 wr => ∃ i : Nat, Hid (i + g = h.n) ∧ i ≤ h.n ∧ s4 = .int .i64 (i : Int) ∧ Row wr w.heap.size 31 h.cs ∧ Below w.heap.size w wr)
      case atStart => exact ⟨0, by show _ = _; omega, by omega, rfl, rh_2, B2⟩
      case round =>
        obtain ⟨i, HI, hi, rfl, e1, hB⟩ := hrel
        have c1 := e1.cell (j := 0) (u := .slice h.A h.n h.c) rfl
        by_cases hlt : i < h.n
        · obtain ⟨ad, p, hA, hlta, hp, hc0, _, _⟩ := hr.at_ hlt
          have hpm := HPN.out p (List.mem_of_getElem? hp)
          unfold maxLen at hpm
          have hc := (hB.cell (by rw [block_of_add]; exact hlta)).trans hc0
          rw [hA] at c1
          clear hc0 hp
          by_cases h60 : 60 < p.n
          · go_wp2_with fail
            go_ret
            exact ⟨false, rfl, fun h => (by cases h), hB⟩
          · go_wp2_with fail
            go_roundg (gk - 1)
            case measure => have := HI.out; omega
            case rel => exact ⟨i + 1, by have := HI.out; show _ = _; omega, by omega, by go_num, e1, hB⟩
        · have hin : i = h.n := by omega
          have HIN := Lib.hid hin
          clear hin
          go_wp2_with fail
          go_loopg [5] h.m (fun g s5 wr => ∃ i : Nat, Hid (i + g = h.m) ∧ i ≤ h.m ∧ s5 = .int .i64 (i : Int) ∧ Row wr w.heap.size 31 h.cs ∧ Below w.heap.size w wr)
          case atStart => exact ⟨0, by show _ = _; omega, by omega, rfl, e1, hB⟩
          case round =>
            clear e1 c1 hB HI HIN hlt hi
            rename_i wq gq _ _
            obtain ⟨i2, HI, hi, rfl, e1, hB⟩ := hrel
            have c1 := e1.cell (j := 1) (u := .slice h.B h.m h.d) rfl
            by_cases hlt : i2 < h.m
            · obtain ⟨ad, s, hA, hlta, hss, hc0⟩ := hrl.str_at hlt
              have hc := (hB.cell (by rw [block_of_add]; exact hlta)).trans hc0
              have hsz := HSZ.out s (List.mem_of_getElem? hss)
              rw [hA] at c1
              clear hc0 hss
              by_cases h300 : 300 < s.size
              · go_wp2_with fail
                go_ret
                exact ⟨false, rfl, fun h => (by cases h), hB⟩
              · go_wp2_with fail
                go_roundg (gk - 1)
                case measure => have := HI.out; omega
                case rel => exact ⟨i2 + 1, by have := HI.out; show _ = _; omega, by omega, by go_num, e1, hB⟩
            · have hin : i2 = h.m := by omega
              go_wp2_with fail
              go_ret
              exact ⟨true, rfl, fun _ => ⟨HSM.out, HVL.out⟩, hB⟩
end Go.Proofs.Ytkepmhkakkkliaa
