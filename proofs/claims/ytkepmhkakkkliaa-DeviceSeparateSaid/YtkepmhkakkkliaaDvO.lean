/-
  What device.readCell, pulseCell and readSector return: contracts by walks. Condition: bounded lengths.
-/
import Derived.Test.YtkepmhkakkkliaaDvC
namespace Go.Proofs.Ytkepmhkakkkliaa
open Go.RowKit

section
variable {P : Program}
theorem run_store_part (w : World) (ty : TypeId) (g j : Nat) (e : TypeId) (cs : List Value) (hr : Row w g e cs) (vs : List Value) (h1 : ∀ u ∈ vs, u.oneCell' = true) (hj : j + vs.length ≤ cs.length) (hi : (P.info? ty).map (·.size) = some vs.length) :
    ∃ w', (storeVar ty ⟨g, j, none⟩ (.agg vs.toArray)).run P w = .ok () w' ∧ Row w' g e (cs.take j ++ vs ++ cs.drop (j + vs.length)) ∧ w'.heap.size = w.heap.size ∧ w.grownBy w' (some g) := by
  have hst := run_storeCells_at P g j e vs 0 cs.toArray w hr (by simpa using hj) h1
  refine ⟨w.setRow g (cs.take j ++ vs ++ cs.drop (j + vs.length)).toArray, ?_, setRow_heap w g _ _ e _ hr, by simp, ⟨rfl, rfl, rfl, by simp, fun k _ hk => setRow_other w g k _ (fun he => hk (by rw [he]))⟩⟩
  cases hq : P.info? ty with
  | none => simp [hq] at hi
  | some i =>
    have hs : i.size = vs.length := by simpa [hq] using hi
    simp only [Nat.add_zero] at hst
    simp [storeVar, Sem.run_bind, sizeOf, typeInfo, hq, hs, Value.cells, hst]
theorem wpList_store_part {ops : Array Oper} {rest : List Oper} {o : Oper} {a : Act} {w : World} {Q : Exit → Act → World → Prop} (hgd : o.guard = none) (ty : TypeId) (x v : Operand) (ho : o.op = .store ty x v) (g j : Nat) (hx : a.eval x = .pointer (some ⟨g, j, none⟩)) (e : TypeId) (cs : List Value) (hr : Row w g e cs) (vs : List Value) (hv : a.eval v = .agg vs.toArray)
    (h1 : ∀ u ∈ vs, u.oneCell' = true) (hj : j + vs.length ≤ cs.length) (hi : (P.info? ty).map (·.size) = some vs.length)
    (h : ∀ w', Row w' g e (cs.take j ++ vs ++ cs.drop (j + vs.length)) → w.grownBy w' (some g) → wpList P ops Q rest (a.put o.dst undef) w') : wpList P ops Q (o :: rest) a w := by
  obtain ⟨w', hrun, h2, h3, h4⟩ := run_store_part (P := P) w ty g j e cs hr vs h1 hj hi
  refine wpList_plain hgd fun K hK => ?_
  unfold Oper.wp execOp
  simp only [ho, hx, hv, Instr.storeAt, Instr.sureAddr, Sem.run_bind, Sem.run_pure, Result.andThen_ok, hrun]
  exact hK _ _ (h _ h2 h4)
/-- Three results, the first two of them in memory. -/
theorem results_cells2 {fn : Func} {p q t : Tmp} {ty tz : TypeId} (h : fn.results = #[.cell p ty, .cell q tz, .tmp t]) (tmps : Array Value) (w : World) (ad bd : Addr) (x y : Value) (hp : tmps.getD p undef = .pointer (some ad)) (hq : tmps.getD q undef = .pointer (some bd))
    (hl : (loadVar ty ad).run P w = .ok x w) (hm : (loadVar tz bd).run P w = .ok y w) : (results fn tmps).run P w = .ok (.tuple #[x, y, tmps.getD t undef]) w := by
  have hp' : tmps[p]?.getD undef = .pointer (some ad) := by simpa using hp
  have hq' : tmps[q]?.getD undef = .pointer (some bd) := by simpa using hq
  simp [results, h, hp', hq', asAddr, hl, hm]
end
theorem load_hw {w : World} {g : Nat} {e : TypeId} {h : Hw} (hr : Row w g e h.cs) (h16 : h.rt.length = 16) : (loadVar 31 ⟨g, 0, none⟩).run Try.prog w = .ok h.v w := run_loadVar_at (P := Try.prog) w 31 ⟨g, 0, none⟩ h.cs hr.cells _ Try.underlying31 rfl (hw_size h16)
theorem load_rs {w : World} {g : Nat} {e : TypeId} {r : DvR} (hr : Row w g e r.cs) : (loadVar 40 ⟨g, 0, none⟩).run Try.prog w = .ok r.v w := run_loadVar_at (P := Try.prog) w 40 ⟨g, 0, none⟩ r.cs hr.cells _ Try.underlying40 rfl (by kernel_rfl)
set_option maxRecDepth 100000 in
set_option maxHeartbeats 4000000 in
theorem readCell_any (X : Nat → Prop) (h : Hw) (a : DvA) (f : DvF) (w : World) (hX : HwIn X h) (hok : HwOK w h) :
    Calls Try.prog 51 #[h.v, a.v, f.v] w (GivesD X h.s ⟨fuRead h.s.bs a.b a.c f.noise, noB⟩ (fuErr h.s.bs a.b a.c) w) := by
  obtain ⟨k, b, c, s⟩ := a
  obtain ⟨cut, n, nz⟩ := f
  have HC := fun W hW => Lib.hid (fread_any h.A h.n h.c h.ps b c nz W hW)
  have H16 := Lib.hid hok.h16
  have HXI := Lib.hid hX
  have HI0 := Lib.hid hok.in_
  clear hX
  show Calls _ _ _ _ (GivesD X h.s ⟨fuRead (bk h.ps) b c nz, noB⟩ (fuErr (bk h.ps) b c) w)
  generalize fuRead (bk h.ps) b c nz = V at *
  generalize fuErr (bk h.ps) b c = E at *
  go_enter Try.func51, Try.ntmps51
  go_wp2_with (first
    | ((with_reducible refine wpList_at ⟨some 3, _, _, _, _, _⟩ ?_); refine wpList_box_row rfl _ _ rfl (h.cs) rfl ?_; intro w1 rh_1 s1 g1; have k1 : Below w.heap.size w w1 := grown_below g1 (Nat.le_refl _) (by simp); have B1 : Below w.heap.size w w1 := k1; have okh_1 := hok.on k1)
    | ((with_reducible refine wpList_at ⟨some 4, _, _, _, _, _⟩ ?_); refine wpList_box_row rfl _ _ rfl ((⟨k, b, c, s⟩ : DvA).cs) rfl ?_; intro w2 ra_2 s2 g2; have k2 : Below w1.heap.size w1 w2 := grown_below g2 (Nat.le_refl _) (by simp); have B2 := B1.trans (k2.mono B1.size); have okh_2 := okh_1.on k2; have rh_2 := rh_1.on k2; clear okh_1 rh_1; have cra0 := ra_2.cell (j := 0) rfl; have cra1 := ra_2.cell (j := 1) rfl; have cra2 := ra_2.cell (j := 2) rfl; have cra3 := ra_2.cell (j := 3) rfl)
    | ((with_reducible refine wpList_at ⟨some 5, _, _, _, _, _⟩ ?_); refine wpList_box_row rfl _ _ rfl ((⟨cut, n, nz⟩ : DvF).cs) rfl ?_; intro w3 rf_3 s3 g3; have k3 : Below w2.heap.size w2 w3 := grown_below g3 (Nat.le_refl _) (by simp); have B3 := B2.trans (k3.mono B2.size); have okh_3 := okh_2.on k3; have rh_3 := rh_2.on k3; have ra_3 := ra_2.on k3; clear okh_2 rh_2 ra_2; have cra0 := ra_3.cell (j := 0) rfl; have cra1 := ra_3.cell (j := 1) rfl; have cra2 := ra_3.cell (j := 2) rfl; have cra3 := ra_3.cell (j := 3) rfl; have crf0 := rf_3.cell (j := 0) rfl; have crf1 := rf_3.cell (j := 1) rfl; have crf2 := rf_3.cell (j := 2) rfl)
    | (with_reducible refine wpList_alloc_row (o := ⟨some 6, _, _, _, _, _⟩) rfl _ rfl zeroH zero_hw ?_; intro w4 z6_4 s4 g4; have k4 : Below w3.heap.size w3 w4 := grown_below g4 (Nat.le_refl _) (by simp); have B4 := B3.trans (k4.mono B3.size); have okh_4 := okh_3.on k4; have rh_4 := rh_3.on k4; have ra_4 := ra_3.on k4; have rf_4 := rf_3.on k4; clear okh_3 rh_3 ra_3 rf_3; have cra0 := ra_4.cell (j := 0) rfl; have cra1 := ra_4.cell (j := 1) rfl; have cra2 := ra_4.cell (j := 2) rfl; have cra3 := ra_4.cell (j := 3) rfl; have crf0 := rf_4.cell (j := 0) rfl; have crf1 := rf_4.cell (j := 1) rfl; have crf2 := rf_4.cell (j := 2) rfl)
    | (with_reducible refine wpList_alloc_row (o := ⟨some 7, _, _, _, _, _⟩) rfl _ rfl zeroR zero_rs ?_; intro w5 z7_5 s5 g5; have k5 : Below w4.heap.size w4 w5 := grown_below g5 (Nat.le_refl _) (by simp); have B5 := B4.trans (k5.mono B4.size); have okh_5 := okh_4.on k5; have rh_5 := rh_4.on k5; have ra_5 := ra_4.on k5; have rf_5 := rf_4.on k5; have z6_5 := z6_4.on k5; clear okh_4 rh_4 ra_4 rf_4 z6_4; have cra0 := ra_5.cell (j := 0) rfl; have cra1 := ra_5.cell (j := 1) rfl; have cra2 := ra_5.cell (j := 2) rfl; have cra3 := ra_5.cell (j := 3) rfl; have crf0 := rf_5.cell (j := 0) rfl; have crf1 := rf_5.cell (j := 1) rfl; have crf2 := rf_5.cell (j := 2) rfl)
    | (refine wpList_valueG (o := ⟨some 13, _, _, _, _, _⟩) rfl _ (by exact exec_loadHF _ _ rfl (w.heap.size) rfl h rh_5) ?_))
  refine ((HC _ okh_5.1.1).out).mono ?_
  rintro e w6 ⟨rfl, h6⟩
  have B6 := B5.trans (h6.mono B5.size)
  have okh_6 := okh_5.on h6
  have rh_6 := rh_5.on h6
  have ra_6 := ra_5.on h6
  have rf_6 := rf_5.on h6
  have z6_6 := z6_5.on h6
  have z7_6 := z7_5.on h6
  clear okh_5 rh_5 ra_5 rf_5 z6_5 z7_5
  have cra0 := ra_6.cell (j := 0) rfl
  have cra1 := ra_6.cell (j := 1) rfl
  have cra2 := ra_6.cell (j := 2) rfl
  have cra3 := ra_6.cell (j := 3) rfl
  have crf0 := rf_6.cell (j := 0) rfl
  have crf1 := rf_6.cell (j := 1) rfl
  have crf2 := rf_6.cell (j := 2) rfl
  go_wp2_with (first
    | (refine wpList_valueG (o := ⟨some 23, _, _, _, _, _⟩) rfl _ (by exact exec_loadH _ _ rfl (w.heap.size) rfl h H16.out rh_6) ?_)
    | ((with_reducible refine wpList_at ⟨none, .store _ (.tmp 6) _, _, _, _, _⟩ ?_); refine wpList_store_all rfl _ _ _ rfl (w3.heap.size) rfl _ _ z6_6 (h).cs rfl (Hw.cs_one _) (hw_zl H16.out) (hw_size H16.out) ?_; intro wx rx gx; have z7x := z7_6.kept gx (by simp; omega))
    | ((with_reducible refine wpList_at ⟨none, .store _ (.tmp 7) _, _, _, _, _⟩ ?_); refine wpList_store_all rfl _ _ _ rfl (w4.heap.size) rfl _ _ z7x ((⟨V, noB⟩ : DvR)).cs rfl (DvR.cs_one _) rfl (by kernel_rfl) ?_; intro wy ry gy))
  have l6 := z6_6.lt
  have l7 := z7_6.lt
  have rxy := rx.kept gy (by simp; omega)
  have okx := okh_6.apart HI0.out gx (by omega)
  have oky := okx.apart HI0.out gy (by omega)
  refine bodyPost_ret (results_cells2 Try.results51 _ _ _ _ _ _ rfl rfl (load_hw rxy H16.out) (load_rs ry)) rfl ⟨h, rfl, oky, HXI.out.weak (fun _ h => .inl h), rfl, ?_⟩
  exact below_kept (below_kept B6 gx B6.size (by rintro q hq; cases hq; omega)) gy (Nat.le_trans B6.size gx.size) (by rintro q hq; cases hq; omega)

set_option maxRecDepth 100000 in
set_option maxHeartbeats 4000000 in
theorem readSector_any (X : Nat → Prop) (h : Hw) (a : DvA) (f : DvF) (w : World) (hX : HwIn X h) (hok : HwOK w h) :
    Calls Try.prog 53 #[h.v, a.v, f.v] w (GivesD X h.s ⟨0, flRead h.s.fs a.c⟩ (flErr h.s.fs a.c) w) := by
  obtain ⟨k, b, c, s⟩ := a
  obtain ⟨cut, n, nz⟩ := f
  have HC := fun W hW => Lib.hid (lread_any h.B h.m h.d h.fs c W hW)
  have H16 := Lib.hid hok.h16
  have HXI := Lib.hid hX
  have HI0 := Lib.hid hok.in_
  clear hX
  show Calls _ _ _ _ (GivesD X h.s ⟨0, flRead h.fs c⟩ (flErr h.fs c) w)
  generalize flRead h.fs c = V at *
  generalize flErr h.fs c = E at *
  go_enter Try.func53, Try.ntmps53
  go_wp2_with (first
    | ((with_reducible refine wpList_at ⟨some 3, _, _, _, _, _⟩ ?_); refine wpList_box_row rfl _ _ rfl (h.cs) rfl ?_; intro w1 rh_1 s1 g1; have k1 : Below w.heap.size w w1 := grown_below g1 (Nat.le_refl _) (by simp); have B1 : Below w.heap.size w w1 := k1; have okh_1 := hok.on k1)
    | ((with_reducible refine wpList_at ⟨some 4, _, _, _, _, _⟩ ?_); refine wpList_box_row rfl _ _ rfl ((⟨k, b, c, s⟩ : DvA).cs) rfl ?_; intro w2 ra_2 s2 g2; have k2 : Below w1.heap.size w1 w2 := grown_below g2 (Nat.le_refl _) (by simp); have B2 := B1.trans (k2.mono B1.size); have okh_2 := okh_1.on k2; have rh_2 := rh_1.on k2; clear okh_1 rh_1; have cra0 := ra_2.cell (j := 0) rfl; have cra1 := ra_2.cell (j := 1) rfl; have cra2 := ra_2.cell (j := 2) rfl; have cra3 := ra_2.cell (j := 3) rfl)
    | ((with_reducible refine wpList_at ⟨some 5, _, _, _, _, _⟩ ?_); refine wpList_box_row rfl _ _ rfl ((⟨cut, n, nz⟩ : DvF).cs) rfl ?_; intro w3 rf_3 s3 g3; have k3 : Below w2.heap.size w2 w3 := grown_below g3 (Nat.le_refl _) (by simp); have B3 := B2.trans (k3.mono B2.size); have okh_3 := okh_2.on k3; have rh_3 := rh_2.on k3; have ra_3 := ra_2.on k3; clear okh_2 rh_2 ra_2; have cra0 := ra_3.cell (j := 0) rfl; have cra1 := ra_3.cell (j := 1) rfl; have cra2 := ra_3.cell (j := 2) rfl; have cra3 := ra_3.cell (j := 3) rfl; have crf0 := rf_3.cell (j := 0) rfl; have crf1 := rf_3.cell (j := 1) rfl; have crf2 := rf_3.cell (j := 2) rfl)
    | (with_reducible refine wpList_alloc_row (o := ⟨some 6, _, _, _, _, _⟩) rfl _ rfl zeroH zero_hw ?_; intro w4 z6_4 s4 g4; have k4 : Below w3.heap.size w3 w4 := grown_below g4 (Nat.le_refl _) (by simp); have B4 := B3.trans (k4.mono B3.size); have okh_4 := okh_3.on k4; have rh_4 := rh_3.on k4; have ra_4 := ra_3.on k4; have rf_4 := rf_3.on k4; clear okh_3 rh_3 ra_3 rf_3; have cra0 := ra_4.cell (j := 0) rfl; have cra1 := ra_4.cell (j := 1) rfl; have cra2 := ra_4.cell (j := 2) rfl; have cra3 := ra_4.cell (j := 3) rfl; have crf0 := rf_4.cell (j := 0) rfl; have crf1 := rf_4.cell (j := 1) rfl; have crf2 := rf_4.cell (j := 2) rfl)
    | (with_reducible refine wpList_alloc_row (o := ⟨some 7, _, _, _, _, _⟩) rfl _ rfl zeroR zero_rs ?_; intro w5 z7_5 s5 g5; have k5 : Below w4.heap.size w4 w5 := grown_below g5 (Nat.le_refl _) (by simp); have B5 := B4.trans (k5.mono B4.size); have okh_5 := okh_4.on k5; have rh_5 := rh_4.on k5; have ra_5 := ra_4.on k5; have rf_5 := rf_4.on k5; have z6_5 := z6_4.on k5; clear okh_4 rh_4 ra_4 rf_4 z6_4; have cra0 := ra_5.cell (j := 0) rfl; have cra1 := ra_5.cell (j := 1) rfl; have cra2 := ra_5.cell (j := 2) rfl; have cra3 := ra_5.cell (j := 3) rfl; have crf0 := rf_5.cell (j := 0) rfl; have crf1 := rf_5.cell (j := 1) rfl; have crf2 := rf_5.cell (j := 2) rfl)
    | (refine wpList_valueG (o := ⟨some 13, _, _, _, _, _⟩) rfl _ (by exact exec_loadHL _ _ rfl (w.heap.size) rfl h rh_5) ?_))
  refine ((HC _ okh_5.2.1).out).mono ?_
  rintro e w6 ⟨rfl, h6⟩
  have B6 := B5.trans (h6.mono B5.size)
  have okh_6 := okh_5.on h6
  have rh_6 := rh_5.on h6
  have ra_6 := ra_5.on h6
  have rf_6 := rf_5.on h6
  have z6_6 := z6_5.on h6
  have z7_6 := z7_5.on h6
  clear okh_5 rh_5 ra_5 rf_5 z6_5 z7_5
  have cra0 := ra_6.cell (j := 0) rfl
  have cra1 := ra_6.cell (j := 1) rfl
  have cra2 := ra_6.cell (j := 2) rfl
  have cra3 := ra_6.cell (j := 3) rfl
  have crf0 := rf_6.cell (j := 0) rfl
  have crf1 := rf_6.cell (j := 1) rfl
  have crf2 := rf_6.cell (j := 2) rfl
  go_wp2_with (first
    | (refine wpList_valueG (o := ⟨some 19, _, _, _, _, _⟩) rfl _ (by exact exec_loadH _ _ rfl (w.heap.size) rfl h H16.out rh_6) ?_)
    | ((with_reducible refine wpList_at ⟨none, .store _ (.tmp 6) _, _, _, _, _⟩ ?_); refine wpList_store_all rfl _ _ _ rfl (w3.heap.size) rfl _ _ z6_6 (h).cs rfl (Hw.cs_one _) (hw_zl H16.out) (hw_size H16.out) ?_; intro wx rx gx; have z7x := z7_6.kept gx (by simp; omega))
    | ((with_reducible refine wpList_at ⟨none, .store _ (.tmp 7) _, _, _, _, _⟩ ?_); refine wpList_store_all rfl _ _ _ rfl (w4.heap.size) rfl _ _ z7x ((⟨0, V⟩ : DvR)).cs rfl (DvR.cs_one _) rfl (by kernel_rfl) ?_; intro wy ry gy))
  have l6 := z6_6.lt
  have l7 := z7_6.lt
  have rxy := rx.kept gy (by simp; omega)
  have okx := okh_6.apart HI0.out gx (by omega)
  have oky := okx.apart HI0.out gy (by omega)
  refine bodyPost_ret (results_cells2 Try.results53 _ _ _ _ _ _ rfl rfl (load_hw rxy H16.out) (load_rs ry)) rfl ⟨h, rfl, oky, HXI.out.weak (fun _ h => .inl h), rfl, ?_⟩
  exact below_kept (below_kept B6 gx B6.size (by rintro q hq; cases hq; omega)) gy (Nat.le_trans B6.size gx.size) (by rintro q hq; cases hq; omega)

set_option maxRecDepth 100000 in
set_option maxHeartbeats 4000000 in
theorem pulseCell_any (X : Nat → Prop) (h : Hw) (a : DvA) (f : DvF) (w : World) (hX : HwIn X h) (hok : HwOK w h) (hs : dvSm h.s) :
    Calls Try.prog 52 #[h.v, a.v, f.v] w (GivesD X { h.s with bs := fuPulse h.s.bs a.b a.c f.cut } noR (fuErr h.s.bs a.b a.c) w) := by
  obtain ⟨k, b, c, s⟩ := a
  obtain ⟨cut, n, nz⟩ := f
  have HN1 := Lib.hid (hok.sm1 hs)
  have HN2 := Lib.hid (hok.sm2 hs)
  have HC := fun W hW h1 h2 => Lib.hid (fpulse_own h.A h.n h.c h.ps b c cut W hW h1 h2)
  have H16 := Lib.hid hok.h16
  have HXI := Lib.hid hX
  have HI0 := Lib.hid hok.in_
  clear hX hs
  show Calls _ _ _ _ (GivesD X ⟨fuPulse (bk h.ps) b c cut, h.fs, h.rt⟩ noR (fuErr (bk h.ps) b c) w)
  generalize fuPulse (bk h.ps) b c cut = V at *
  generalize fuErr (bk h.ps) b c = E at *
  go_enter Try.func52, Try.ntmps52
  go_wp2_with (first
    | ((with_reducible refine wpList_at ⟨some 3, _, _, _, _, _⟩ ?_); refine wpList_box_row rfl _ _ rfl (h.cs) rfl ?_; intro w1 rh_1 s1 g1; have k1 : Below w.heap.size w w1 := grown_below g1 (Nat.le_refl _) (by simp); have B1 : Below w.heap.size w w1 := k1; have okh_1 := hok.on k1)
    | ((with_reducible refine wpList_at ⟨some 4, _, _, _, _, _⟩ ?_); refine wpList_box_row rfl _ _ rfl ((⟨k, b, c, s⟩ : DvA).cs) rfl ?_; intro w2 ra_2 s2 g2; have k2 : Below w1.heap.size w1 w2 := grown_below g2 (Nat.le_refl _) (by simp); have B2 := B1.trans (k2.mono B1.size); have okh_2 := okh_1.on k2; have rh_2 := rh_1.on k2; clear okh_1 rh_1; have cra0 := ra_2.cell (j := 0) rfl; have cra1 := ra_2.cell (j := 1) rfl; have cra2 := ra_2.cell (j := 2) rfl; have cra3 := ra_2.cell (j := 3) rfl)
    | ((with_reducible refine wpList_at ⟨some 5, _, _, _, _, _⟩ ?_); refine wpList_box_row rfl _ _ rfl ((⟨cut, n, nz⟩ : DvF).cs) rfl ?_; intro w3 rf_3 s3 g3; have k3 : Below w2.heap.size w2 w3 := grown_below g3 (Nat.le_refl _) (by simp); have B3 := B2.trans (k3.mono B2.size); have okh_3 := okh_2.on k3; have rh_3 := rh_2.on k3; have ra_3 := ra_2.on k3; clear okh_2 rh_2 ra_2; have cra0 := ra_3.cell (j := 0) rfl; have cra1 := ra_3.cell (j := 1) rfl; have cra2 := ra_3.cell (j := 2) rfl; have cra3 := ra_3.cell (j := 3) rfl; have crf0 := rf_3.cell (j := 0) rfl; have crf1 := rf_3.cell (j := 1) rfl; have crf2 := rf_3.cell (j := 2) rfl)
    | (with_reducible refine wpList_alloc_row (o := ⟨some 6, _, _, _, _, _⟩) rfl _ rfl zeroH zero_hw ?_; intro w4 z6_4 s4 g4; have k4 : Below w3.heap.size w3 w4 := grown_below g4 (Nat.le_refl _) (by simp); have B4 := B3.trans (k4.mono B3.size); have okh_4 := okh_3.on k4; have rh_4 := rh_3.on k4; have ra_4 := ra_3.on k4; have rf_4 := rf_3.on k4; clear okh_3 rh_3 ra_3 rf_3; have cra0 := ra_4.cell (j := 0) rfl; have cra1 := ra_4.cell (j := 1) rfl; have cra2 := ra_4.cell (j := 2) rfl; have cra3 := ra_4.cell (j := 3) rfl; have crf0 := rf_4.cell (j := 0) rfl; have crf1 := rf_4.cell (j := 1) rfl; have crf2 := rf_4.cell (j := 2) rfl)
    | (with_reducible refine wpList_alloc_row (o := ⟨some 7, _, _, _, _, _⟩) rfl _ rfl zeroR zero_rs ?_; intro w5 z7_5 s5 g5; have k5 : Below w4.heap.size w4 w5 := grown_below g5 (Nat.le_refl _) (by simp); have B5 := B4.trans (k5.mono B4.size); have okh_5 := okh_4.on k5; have rh_5 := rh_4.on k5; have ra_5 := ra_4.on k5; have rf_5 := rf_4.on k5; have z6_5 := z6_4.on k5; clear okh_4 rh_4 ra_4 rf_4 z6_4; have cra0 := ra_5.cell (j := 0) rfl; have cra1 := ra_5.cell (j := 1) rfl; have cra2 := ra_5.cell (j := 2) rfl; have cra3 := ra_5.cell (j := 3) rfl; have crf0 := rf_5.cell (j := 0) rfl; have crf1 := rf_5.cell (j := 1) rfl; have crf2 := rf_5.cell (j := 2) rfl)
    | (refine wpList_valueG (o := ⟨some 13, _, _, _, _, _⟩) rfl _ (by exact exec_loadHF _ _ rfl (w.heap.size) rfl h rh_5) ?_))
  refine ((HC _ okh_5.1.1 HN1.out HN2.out).out).mono ?_
  rintro e w6 ⟨A6, n6, c6, ps6, rfl, own6, hbk6, h6⟩
  have B6 := B5.trans (h6.mono B5.size)
  have okh_6 := okh_5.on h6
  have rh_6 := rh_5.on h6
  have ra_6 := ra_5.on h6
  have rf_6 := rf_5.on h6
  have z6_6 := z6_5.on h6
  have z7_6 := z7_5.on h6
  clear okh_5 rh_5 ra_5 rf_5 z6_5 z7_5
  have cra0 := ra_6.cell (j := 0) rfl
  have cra1 := ra_6.cell (j := 1) rfl
  have cra2 := ra_6.cell (j := 2) rfl
  have cra3 := ra_6.cell (j := 3) rfl
  have crf0 := rf_6.cell (j := 0) rfl
  have crf1 := rf_6.cell (j := 1) rfl
  have crf2 := rf_6.cell (j := 2) rfl
  unfold fuv
  have HBK := Lib.hid hbk6
  clear hbk6
  have fok6 := own6.ok
  have fin6 := own6.in_
  go_wp2_with (first
    | (with_reducible refine wpList_alloc_row (o := ⟨some 9, _, _, _, _, _⟩) rfl _ rfl [.slice none 0 0] (by kernel_rfl) ?_; intro w7 r7 s7 g7)
    | ((with_reducible refine wpList_at ⟨none, .store _ (.tmp 9) _, _, _, _, _⟩ ?_); refine wpList_store_all rfl _ _ _ rfl w6.heap.size rfl _ _ r7 [.slice A6 n6 c6] rfl (slice_one _ _ _) rfl (by kernel_rfl) ?_; intro w8 rv_8 g8; have k8 : Below w6.heap.size w6 w8 := below_kept (grown_below g7 (Nat.le_refl _) (by simp)) g8 (Nat.le_of_lt s7) (by rintro q hq; cases hq; exact Nat.le_refl _); have B8 := B6.trans (k8.mono B6.size); have okh_8 := okh_6.on k8; have rh_8 := rh_6.on k8; have ra_8 := ra_6.on k8; have rf_8 := rf_6.on k8; have z6_8 := z6_6.on k8; have z7_8 := z7_6.on k8; have fok_8 := fok6.on k8; clear okh_6 rh_6 ra_6 rf_6 z6_6 z7_6; have cra0 := ra_8.cell (j := 0) rfl; have cra1 := ra_8.cell (j := 1) rfl; have cra2 := ra_8.cell (j := 2) rfl; have cra3 := ra_8.cell (j := 3) rfl; have crf0 := rf_8.cell (j := 0) rfl; have crf1 := rf_8.cell (j := 1) rfl; have crf2 := rf_8.cell (j := 2) rfl; clear r7 g7 g8)
    | (refine wpList_valueG (o := ⟨some 23, _, _, _, _, _⟩) rfl _ (by exact exec_load _ 24 _ rfl ⟨w6.heap.size, 0, none⟩ rfl [.slice A6 n6 c6] rv_8.cells _ Try.underlying24 rfl (by kernel_rfl)) ?_)
    | ((with_reducible refine wpList_at ⟨none, .store _ (.tmp 24) _, _, _, _, _⟩ ?_); refine wpList_store_part rfl _ _ _ rfl (w.heap.size) 0 rfl _ _ rh_8 [.slice A6 n6 c6] rfl (slice_one _ _ _) (by show 0 + 1 ≤ _ + 2; omega) (by kernel_rfl) ?_; intro ws rs gs; have z6s := z6_8.kept gs (by simp; omega); have z7s := z7_8.kept gs (by simp; omega))
    | (refine wpList_valueG (o := ⟨some 25, _, _, _, _, _⟩) rfl _ (by exact exec_loadH _ _ rfl (w.heap.size) rfl (⟨A6, n6, c6, ps6, h.B, h.m, h.d, h.fs, h.rt⟩ : Hw) H16.out rs) ?_)
    | ((with_reducible refine wpList_at ⟨none, .store _ (.tmp 6) _, _, _, _, _⟩ ?_); refine wpList_store_all rfl _ _ _ rfl (w3.heap.size) rfl _ _ z6s ((⟨A6, n6, c6, ps6, h.B, h.m, h.d, h.fs, h.rt⟩ : Hw)).cs rfl (Hw.cs_one _) (hw_zl H16.out) (hw_size H16.out) ?_; intro wx rx gx; have z7x := z7s.kept gx (by simp; omega))
    | ((with_reducible refine wpList_at ⟨none, .store _ (.tmp 7) _, _, _, _, _⟩ ?_); refine wpList_store_all rfl _ _ _ rfl (w4.heap.size) rfl _ _ z7x (noR).cs rfl (DvR.cs_one _) rfl (by kernel_rfl) ?_; intro wy ry gy))
  have lh := rh_8.lt
  have l6 := z6s.lt
  have l7 := z7s.lt
  have ls := gs.size
  have lx := gx.size
  have ok2 : HwOK w8 (⟨A6, n6, c6, ps6, h.B, h.m, h.d, h.fs, h.rt⟩ : Hw) := ⟨fok_8, okh_8.2.1, H16.out⟩
  have in2 : HwIn (fun q => q < w.heap.size ∨ w5.heap.size ≤ q) (⟨A6, n6, c6, ps6, h.B, h.m, h.d, h.fs, h.rt⟩ : Hw) := ⟨fin6.weak (fun _ h => .inr h), HI0.out.2.weak (fun _ h => .inl h)⟩
  have nx : ∀ q, w.heap.size ≤ q → q < w5.heap.size → ¬ (q < w.heap.size ∨ w5.heap.size ≤ q) := fun q h1 h2 => by omega
  have oks := ok2.apart in2 gs (nx _ (by omega) (by omega))
  have okx := oks.apart in2 gx (nx _ (by omega) (by omega))
  have oky := okx.apart in2 gy (nx _ (by omega) (by omega))
  have rxy := rx.kept gy (by simp; omega)
  refine bodyPost_ret (results_cells2 Try.results52 _ _ _ _ _ _ rfl rfl (load_hw rxy H16.out) (load_rs ry)) rfl ⟨(⟨A6, n6, c6, ps6, h.B, h.m, h.d, h.fs, h.rt⟩ : Hw), rfl, oky, ⟨fin6.weak (fun q hq => .inr (by omega)), HXI.out.2.weak (fun _ h => .inl h)⟩, by show DvS.mk _ _ _ = _; rw [HBK.out], ?_⟩
  exact below_kept (below_kept (below_kept B8 gs B8.size (by rintro q hq; cases hq; omega)) gx (Nat.le_trans B8.size gs.size) (by rintro q hq; cases hq; omega)) gy (Nat.le_trans (Nat.le_trans B8.size gs.size) gx.size) (by rintro q hq; cases hq; omega)

end Go.Proofs.Ytkepmhkakkkliaa
