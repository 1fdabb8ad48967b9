/-
  What store.Put returns: a contract by a walk, the range over a function inside a fence. Conditions: the table of constants as laid; bounded lengths.
-/
import Derived.Test.YtfclifolniefpaaDoorStK
import Derived.Test.YtfclifolniefpaaDoorFen
set_option linter.unusedSimpArgs false
set_option linter.unusedVariables false
namespace Go.Proofs.YtfclifolniefpaaDoor
open Go.RowKit Go.Shelf
attribute [local go_sem] Oper.semAt_some

theorem zip_two (t : Array Value) (q r : Nat) (u v : Value) : Array.foldl (fun t (x : Nat × Value) => match x with | (p, v) => t.setIfInBounds p v) t #[(q, u), (r, v)] = (t.setIfInBounds q u).setIfInBounds r v := by simp
theorem wI_bd (b : List UInt8) (j : Nat) (h : j ≤ 1000000) : 0 ≤ wI b j ∧ wI b j ≤ 1000000 := by
  unfold wI
  split
  · omega
  · split <;> omega
theorem last_of {m : Nat} {p : List (Upto m)} {x : Upto m} (h : (p ++ [x]).map (·.1) = List.range (p ++ [x]).length) : x.1 = p.length := by
  rw [List.map_append, List.length_append, List.length_singleton, List.range_succ] at h
  have h2 := (List.append_inj' h rfl).2
  simpa using h2
theorem act_name {C : Act → Prop} {t : Array Value} {ds : _} (h : ∀ T, Hid (T = t) → C { tmps := T, defers := ds }) : C { tmps := t, defers := ds } := h t (Lib.hid rfl)
theorem stTgt_01 (rec : Int) (l : List ByteArray) : 0 ≤ stTgt rec l ∧ stTgt rec l ≤ 1 := by
  unfold stTgt
  split
  · decide
  · split <;> decide
theorem Row.grown {w w' : World} {g : Nat} {e : TypeId} {cs : List Value} (h : Row w g e cs) {row : Option Nat} (hg : w.grownBy w' row) (hrow : ∀ r, row = some r → ∃ o : Obj, w.heap[r]? = some o ∧ o.isCells = false) : Row w' g e cs :=
  Row.kept h hg fun e' => by
    obtain ⟨o, ho, hc⟩ := hrow g e'.symm
    have h2 : w.heap[g]? = some (.cells cs.toArray e (0, 0)) := h
    rw [h2] at ho
    cases ho
    cases hc
theorem keeps_store {w w' : World} {g : Nat} {e : TypeId} {cs : List Value} (h : Row w g e cs) (hg : w.grownBy w' (some g)) : KeepsOthers w w' := KeepsOthers.of_grownBy hg fun j o ej hj => by
  cases ej
  have h2 : w.heap[g]? = some (.cells _ _ _) := h
  rw [h2] at hj
  cases hj
  rfl
theorem keeps_call {w w' : World} (hb : Below w.heap.size w w') : KeepsOthers w w' := KeepsOthers.of_grownBy (below_grownBy hb none) (fun j o ej _ => by cases ej)
set_option maxRecDepth 100000 in
set_option maxHeartbeats 4000000 in
theorem sput_in (n0 : Nat) (hn0 : 4 ≤ n0) (rec : Int) (c : ByteArray) (A : Option Addr) (n d : Nat) (l : List StR) (w : World) (hK : Consts w) (hr : Reads w w.heap.size 2 A n (rcs l)) (hc : n ≤ d) (hn : n ≤ 1000) (hs : ∀ r ∈ l, r.s.size ≤ 400)
    (hin : stIn rec = true) (h2000 : c.size ≤ 2000) (h16 : ¬ n < 16) (hS : (stCur rec (l.map StR.s)).1 < 1099511627776) :
    CallsIn Fence.wide n0 Tryd.prog 28 #[.int .i64 rec, .string c, .slice A n d] w (GivesS (stPut rec c (l.map StR.s)) w) := by
  have h1 : 1 ≤ n0 := by omega
  have h1' : 1 ≤ n0 - 1 - 1 := by omega
  have HX := fun W => Lib.hid (sexists_any rec W)
  rw [hin] at HX
  have HLN := Lib.hid (hr.len_of (by decide) StR.cs_len)
  have HML : Hid ((l.map StR.s).length = n) := Lib.hid (by rw [List.length_map, HLN.out])
  have HLD := fun (W : World) (hW : Below w.heap.size w W) => Lib.hid (sload_any rec A n d l W hin (hK.on hW) (hr.on hW) hc hn (by omega) hs)
  have HSU := fun W => Lib.hid (ssucc_any (stE rec (l.map StR.s)) W (stE_nn _ _).1 (stE_nn _ _).2)
  rw [seCur_of, seTgt_of] at HSU
  have hnn := (stCur_nn rec (l.map StR.s)).1
  have hTG := stTgt_01 rec (l.map StR.s)
  have HE := Lib.hid (stPut_go (c := c) (l := l.map StR.s) hin h2000 (by rw [HML.out]; exact h16) hS)
  rw [HML.out] at HE
  have HEC := fun (W : World) (hW : Below w.heap.size w W) => Lib.hid (sencode_any rec ((stCur rec (l.map StR.s)).1 + 1) c W hin (hK.on hW) (by omega) (by omega) h2000)
  have hBB : 16 ≤ (stBytes rec c (l.map StR.s)).length ∧ (stBytes rec c (l.map StR.s)).length ≤ 2024 := ⟨stEnc_pos _ _ _, stEnc_le (by omega) (by omega) (by rw [tl_len]; exact h2000)⟩
  have HBP := Lib.hid hBB.1
  have HBQ := Lib.hid hBB.2
  have HF := fun W => Lib.hid (sfirst_any rec (stTgt rec (l.map StR.s)) W)
  rw [stFirst_ok hin hTG.1 hTG.2] at HF
  have HWR := fun A n c W => Lib.hid (swrites_any A n c W)
  have HNX := fun a W => Lib.hid (snext_any a W)
  have HEN := fun W => Lib.hid (send_any ⟨c, (stCur rec (l.map StR.s)).1 + 1, 0⟩ W)
  have hrb := stIn_iff.1 hin
  change ∀ (W : World) (_ : Below w.heap.size w W), Hid (Calls _ _ _ W (Gives (stBytes rec c (l.map StR.s)) W)) at HEC
  generalize stBytes rec c (l.map StR.s) = BS at *
  generalize stPut rec c (l.map StR.s) = R at *
  generalize (stCur rec (l.map StR.s)).1 = S at *
  generalize stTgt rec (l.map StR.s) = TG at *
  generalize stE rec (l.map StR.s) = x0 at *
  obtain ⟨hr0, hr3⟩ := hrb
  obtain ⟨hT0, hT1⟩ := hTG
  clear hin hs hr hBB
  refine callsIn_of_wp_marks Tryd.func28 rfl trivial ?_ rfl
  simp only [Tryd.ntmps28, List.size_toArray, List.length_cons, List.length_nil, Nat.reduceAdd, Nat.reduceSub, Array.replicate_succ, Array.replicate_zero, List.push_toArray, List.append_toArray, List.nil_append, List.cons_append]
  gi_wp2_with (first
    | ((with_reducible refine wpListIn_at ⟨some 3, _, _, _, _, _⟩ ?_); refine wpListIn_box_row rfl (fun _ => trivial) _ _ rfl [.int .i64 rec] rfl ?_; intro w1 r3_1 s1 g1; have k1 : Below w.heap.size w w1 := grown_below g1 (Nat.le_refl _) (by simp); have B1 : Below w.heap.size w w1 := k1; have cr30 := r3_1.cell (j := 0) rfl)
    | ((with_reducible refine wpListIn_at ⟨some 5, _, _, _, _, _⟩ ?_); refine wpListIn_box_row rfl (fun _ => trivial) _ _ rfl [.slice A n d] rfl ?_; intro w2 r5_2 s2 g2; have k2 : Below w1.heap.size w1 w2 := grown_below g2 (Nat.le_refl _) (by simp); have B2 := B1.trans (k2.mono B1.size); have r3_2 := r3_1.on k2; clear r3_1; have cr30 := r3_2.cell (j := 0) rfl; have cr50 := r5_2.cell (j := 0) rfl)
    | ((with_reducible refine wpListIn_at ⟨some 6, _, _, _, _, _⟩ ?_); refine wpListIn_alloc_row rfl (fun _ => trivial) _ rfl zeroA zero_ac ?_; intro w3 z6_3 s3 g3; have k3 : Below w2.heap.size w2 w3 := grown_below g3 (Nat.le_refl _) (by simp); have B3 := B2.trans (k3.mono B2.size); have r3_3 := r3_2.on k3; have r5_3 := r5_2.on k3; clear r3_2 r5_2; have cr30 := r3_3.cell (j := 0) rfl; have cr50 := r5_3.cell (j := 0) rfl)
    | ((with_reducible refine wpListIn_at ⟨some 7, _, _, _, _, _⟩ ?_); refine wpListIn_alloc_row rfl (fun _ => trivial) _ rfl zeroO zero_so ?_; intro w4 z7_4 s4 g4; have k4 : Below w3.heap.size w3 w4 := grown_below g4 (Nat.le_refl _) (by simp); have B4 := B3.trans (k4.mono B3.size); have r3_4 := r3_3.on k4; have r5_4 := r5_3.on k4; have z6_4 := z6_3.on k4; clear r3_3 r5_3 z6_3; have cr30 := r3_4.cell (j := 0) rfl; have cr50 := r5_4.cell (j := 0) rfl)
    | ((with_reducible refine wpListIn_at ⟨some 8, _, _, _, _, _⟩ ?_); refine wpListIn_alloc_row rfl (fun _ => trivial) _ rfl [.bool false] (by kernel_rfl) ?_; intro w5 z8_5 s5 g5; have l5r3 := r3_4.lt; have l5r5 := r5_4.lt; have l5z6 := z6_4.lt; have l5z7 := z7_4.lt; have lB5 := B4.size; have k5 : Below w4.heap.size w4 w5 := grown_below g5 (Nat.le_refl _) (by simp); have B5 := B4.trans (k5.mono B4.size); have r3_5 := r3_4.on k5; have r5_5 := r5_4.on k5; have z6_5 := z6_4.on k5; have z7_5 := z7_4.on k5; clear r3_4 r5_4 z6_4 z7_4; have cr30 := r3_5.cell (j := 0) rfl; have cr50 := r5_5.cell (j := 0) rfl)
    | (refine ⟨trivial, ?_⟩; gi_at_call 22; refine (callsIn_wide.2 ((HX _).out)).mono ?_; rintro e _ ⟨rfl, rfl⟩)
    | (refine ⟨trivial, ?_⟩; gi_at_call 32; refine (callsIn_wide.2 ((HLD _ B5).out)).mono ?_; rintro e w6 ⟨rfl, h6⟩; have B6 := B5.trans (h6.mono B5.size); have r3_6 := r3_5.on h6; have r5_6 := r5_5.on h6; have z6_6 := z6_5.on h6; have z7_6 := z7_5.on h6; have z8_6 := z8_5.on h6; clear r3_5 r5_5 z6_5 z7_5 z8_5; have cr30 := r3_6.cell (j := 0) rfl; have cr50 := r5_6.cell (j := 0) rfl; have cr30 := r3_6.cell (j := 0) rfl; have cr50 := r5_6.cell (j := 0) rfl)
    | (refine ⟨trivial, ?_⟩; gi_at_call 44; refine (callsIn_wide.2 ((HSU _).out)).mono ?_; rintro e w7 ⟨rfl, h7⟩; have B7 := B6.trans (h7.mono B6.size); have r3_7 := r3_6.on h7; have r5_7 := r5_6.on h7; have z6_7 := z6_6.on h7; have z7_7 := z7_6.on h7; have z8_7 := z8_6.on h7; clear r3_6 r5_6 z6_6 z7_6 z8_6; have cr30 := r3_7.cell (j := 0) rfl; have cr50 := r5_7.cell (j := 0) rfl; have cr30 := r3_7.cell (j := 0) rfl; have cr50 := r5_7.cell (j := 0) rfl)
    | ((with_reducible refine wpListIn_at ⟨some 9, _, _, _, _, _⟩ ?_); refine wpListIn_alloc_row rfl (fun _ => trivial) _ rfl [.int .i64 0] (by kernel_rfl) ?_; intro w8 z9_8 s8 g8; have l8r3 := r3_7.lt; have l8r5 := r5_7.lt; have l8z6 := z6_7.lt; have l8z7 := z7_7.lt; have l8z8 := z8_7.lt; have lB8 := B7.size; have k8 : Below w7.heap.size w7 w8 := grown_below g8 (Nat.le_refl _) (by simp); have B8 := B7.trans (k8.mono B7.size); have r3_8 := r3_7.on k8; have r5_8 := r5_7.on k8; have z6_8 := z6_7.on k8; have z7_8 := z7_7.on k8; have z8_8 := z8_7.on k8; clear r3_7 r5_7 z6_7 z7_7 z8_7; have cr30 := r3_8.cell (j := 0) rfl; have cr50 := r5_8.cell (j := 0) rfl)
    | ((with_reducible refine wpListIn_at ⟨none, .store _ (.tmp 9) _, _, _, _, _⟩ ?_); refine wpListIn_store_elem rfl (fun _ => trivial) _ _ _ rfl (w7.heap.size) 0 rfl _ _ z9_8 (.int .i64 TG) rfl rfl (by simp) (by kernel_rfl) ?_; intro w9 z9x_9 g9; have r3_9 := r3_8.kept g9 (by simp; omega); have r5_9 := r5_8.kept g9 (by simp; omega); have z6_9 := z6_8.kept g9 (by simp; omega); have z7_9 := z7_8.kept g9 (by simp; omega); have z8_9 := z8_8.kept g9 (by simp; omega); have z9_9 : Row w9 (w7.heap.size) _ [.int .i64 TG] := z9x_9; have B9 := below_kept B8 g9 B8.size (by rintro q hq; cases hq; omega); clear r3_8 r5_8 z6_8 z7_8 z8_8; have cr30 := r3_9.cell (j := 0) rfl; have cr50 := r5_9.cell (j := 0) rfl; have cz90 := z9_9.cell (j := 0) rfl)
    | ((with_reducible refine wpListIn_at ⟨some 11, _, _, _, _, _⟩ ?_); refine wpListIn_alloc_row rfl (fun _ => trivial) _ rfl [.int .i64 0] (by kernel_rfl) ?_; intro w10 z11_10 s10 g10; have l10r3 := r3_9.lt; have l10r5 := r5_9.lt; have l10z6 := z6_9.lt; have l10z7 := z7_9.lt; have l10z8 := z8_9.lt; have l10z9 := z9_9.lt; have lB10 := B9.size; have k10 : Below w9.heap.size w9 w10 := grown_below g10 (Nat.le_refl _) (by simp); have B10 := B9.trans (k10.mono B9.size); have r3_10 := r3_9.on k10; have r5_10 := r5_9.on k10; have z6_10 := z6_9.on k10; have z7_10 := z7_9.on k10; have z8_10 := z8_9.on k10; have z9_10 := z9_9.on k10; clear r3_9 r5_9 z6_9 z7_9 z8_9 z9_9; have cr30 := r3_10.cell (j := 0) rfl; have cr50 := r5_10.cell (j := 0) rfl; have cz90 := z9_10.cell (j := 0) rfl)
    | ((with_reducible refine wpListIn_at ⟨none, .store _ (.tmp 11) _, _, _, _, _⟩ ?_); refine wpListIn_store_elem rfl (fun _ => trivial) _ _ _ rfl (w9.heap.size) 0 rfl _ _ z11_10 (.int .i64 16) rfl rfl (by simp) (by kernel_rfl) ?_; intro w11 z11x_11 g11; have r3_11 := r3_10.kept g11 (by simp; omega); have r5_11 := r5_10.kept g11 (by simp; omega); have z6_11 := z6_10.kept g11 (by simp; omega); have z7_11 := z7_10.kept g11 (by simp; omega); have z8_11 := z8_10.kept g11 (by simp; omega); have z9_11 := z9_10.kept g11 (by simp; omega); have z11_11 : Row w11 (w9.heap.size) _ [.int .i64 16] := z11x_11; have B11 := below_kept B10 g11 B10.size (by rintro q hq; cases hq; omega); clear r3_10 r5_10 z6_10 z7_10 z8_10 z9_10; have cz90 := z9_11.cell (j := 0) rfl; have cr30 := r3_11.cell (j := 0) rfl; have cr50 := r5_11.cell (j := 0) rfl; have cz110 := z11_11.cell (j := 0) rfl; have mr3 := r3_11.lt; have mr5 := r5_11.lt; have mz6 := z6_11.lt; have mz7 := z7_11.lt; have mz8 := z8_11.lt; have mz9 := z9_11.lt; have mz11 := z11_11.lt)
    | (refine ⟨trivial, ?_⟩; gi_at_call 46; refine (callsIn_wide.2 ((HEC _ B11).out)).mono ?_; rintro e w12 ⟨ve, rfl, oe, h12⟩; have B12 := B11.trans (h12.mono B11.size); have r3_12 := r3_11.on h12; have r5_12 := r5_11.on h12; have z6_12 := z6_11.on h12; have z7_12 := z7_11.on h12; have z8_12 := z8_11.on h12; have z9_12 := z9_11.on h12; have z11_12 := z11_11.on h12; clear r3_11 r5_11 z6_11 z7_11 z8_11 z9_11 z11_11; have cr30 := r3_12.cell (j := 0) rfl; have cr50 := r5_12.cell (j := 0) rfl; have cz90 := z9_12.cell (j := 0) rfl; have cz110 := z11_12.cell (j := 0) rfl; have cr30 := r3_12.cell (j := 0) rfl; have cr50 := r5_12.cell (j := 0) rfl; have cz90 := z9_12.cell (j := 0) rfl; have cz110 := z11_12.cell (j := 0) rfl; obtain ⟨Ae, ce, rfl, hce, _, de_12⟩ := own_form oe; have hob := own_block oe; have me_ := h12.size)
    | (refine ⟨trivial, ?_⟩; gi_at_call 45; refine (callsIn_wide.2 ((HWR _ _ _ _).out)).mono ?_; rintro e w13 ⟨gw, rfl, rw_13, hgw, h13⟩; have B13 := B12.trans (h13.mono B12.size); have r3_13 := r3_12.on h13; have r5_13 := r5_12.on h13; have z6_13 := z6_12.on h13; have z7_13 := z7_12.on h13; have z8_13 := z8_12.on h13; have z9_13 := z9_12.on h13; have z11_13 := z11_12.on h13; have de_13 := de_12.on h13; clear r3_12 r5_12 z6_12 z7_12 z8_12 z9_12 z11_12 de_12; have cr30 := r3_13.cell (j := 0) rfl; have cr50 := r5_13.cell (j := 0) rfl; have cz90 := z9_13.cell (j := 0) rfl; have cz110 := z11_13.cell (j := 0) rfl; have cr30 := r3_13.cell (j := 0) rfl; have cr50 := r5_13.cell (j := 0) rfl; have cz90 := z9_13.cell (j := 0) rfl; have cz110 := z11_13.cell (j := 0) rfl))
  have lr3 := r3_13.lt
  have lr5 := r5_13.lt
  have lz6 := z6_13.lt
  have lz7 := z7_13.lt
  have lz8 := z8_13.lt
  have lz9 := z9_13.lt
  have lz11 := z11_13.lt
  have lgw := rw_13.lt
  obtain ⟨ad, rfl, hGlt, _⟩ := de_13.2 (by have := HBP.out; omega)
  have hob := hob (by have := HBP.out; omega) ad rfl
  have BWs := B13.size
  refine act_name (C := fun a => Code.wpIn _ _ _ _ _ a _) ?_
  intro T hT
  refine wpIn_rangeFunc_ownF (F := Fence.wide) rfl h1 (gf := 59) (lb := #[.pointer (some ⟨gw, 0, none⟩)]) (by rw [hT.out]; rfl) trivial (enters_of Tryd.func59 (by kernel_rfl) rfl)
    (writes_stops (n0 - 1) gw (by omega) ad ce BS hce (by have := HBP.out; omega) (by have := HBQ.out; omega) w13 rw_13 de_13) (fun h k => h.trans k) (fun W l o o' hl _ _ _ => kept2_b lgw hGlt W l o o' hl) (Below.refl _ _) (fun _ => rfl)
    (fun (pre : List (Upto (stCnt BS + 1))) W => (Row W (w.heap.size) 3 ([.int .i64 rec]) ∧ Row W (w1.heap.size) 51 ([.slice A n d]) ∧ Row W (w7.heap.size) 3 ([.int .i64 TG]) ∧ Row W (w2.heap.size) 40 (zeroA) ∧ Row W (w3.heap.size) 33 (zeroO) ∧ Row W (w4.heap.size) 4 ([.bool false]) ∧ Row W (w9.heap.size) 3 ([.int .i64 (16 + (pre.length : Int))]) ∧ pre.length ≤ n - 16 ∧ w13.heap.size ≤ W.heap.size) ∧ Below w.heap.size w W)
    (fun (k : Code) (pre : List (Upto (stCnt BS + 1))) W => (k = .ret ∧ (∃ (p : List (Upto (stCnt BS + 1))) (x : Upto (stCnt BS + 1)), pre = p ++ [x] ∧ p.length = n - 16 ∧ Row W (w2.heap.size) 40 ((⟨4, 0, 16 * rec + 8 * TG + wI BS x.1, wS BS x.1⟩ : StA).cs)) ∧ Row W (w3.heap.size) 33 (zeroO) ∧ Row W (w4.heap.size) 4 ([.bool false])) ∧ Below w.heap.size w W)
    (OwnFrom.and (Own.from (fun s X Y row hs hg hr => ⟨hs.1.grown hg hr, hs.2.1.grown hg hr, hs.2.2.1.grown hg hr, hs.2.2.2.1.grown hg hr, hs.2.2.2.2.1.grown hg hr, hs.2.2.2.2.2.1.grown hg hr, hs.2.2.2.2.2.2.1.grown hg hr, hs.2.2.2.2.2.2.2.1, Nat.le_trans hs.2.2.2.2.2.2.2.2 hg.size⟩) _) (ownFrom_below (Nat.le_refl _) BWs))
    (fun _ => OwnFrom.and (Own.from (fun s X Y row hs hg hr => ⟨hs.1, (by obtain ⟨p, x, e1, e2, e3⟩ := hs.2.1; exact ⟨p, x, e1, e2, e3.grown hg hr⟩), hs.2.2.1.grown hg hr, hs.2.2.2.grown hg hr⟩) _) (ownFrom_below (Nat.le_refl _) BWs))
    ⟨⟨r3_13, r5_13, z9_13, z6_13, z7_13, z8_13, z11_13, Nat.zero_le _, Nat.le_refl _⟩, B13⟩
    (fun x => { tmps := (((T.setIfInBounds 63 (.int .i64 (wI BS x.1))).setIfInBounds 64 (.string (wS BS x.1))).setIfInBounds 12 (.int .i64 (wI BS x.1))).setIfInBounds 13 (.string (wS BS x.1)), defers := [] }) ?assign ?body ?done ?stop
  case assign =>
    intro l' x W K hK
    rw [hT.out] at hK ⊢
    rw [show (#[(63 : Nat), 64].zip (wArgs BS x.1)) = #[(63, .int .i64 (wI BS x.1)), (64, .string (wS BS x.1))] by simp [wArgs]]
    simp only [zip_two, List.setIfInBounds_toArray, List.set_cons_succ, List.set_cons_zero] at hK ⊢
    generalize wI BS x.1 = vi at *
    generalize wS BS x.1 = vs at *
    gi_wp2
    exact hK
  case body =>
    rintro l' pre x W ⟨⟨q3, q5, q9, q6, q7, q8, q11, hle, hWW⟩, hB⟩ hlen
    have c3 := q3.cell (j := 0) rfl
    have c5 := q5.cell (j := 0) rfl
    have c9 := q9.cell (j := 0) rfl
    have c11 := q11.cell (j := 0) rfl
    rw [hT.out]
    simp only [List.setIfInBounds_toArray, List.set_cons_succ, List.set_cons_zero]
    have HNXT := fun W => HNX ⟨4, 0, 16 * rec + 8 * TG + wI BS x.1, wS BS x.1⟩ W
    have HWI : Hid (0 ≤ wI BS x.1 ∧ wI BS x.1 ≤ 1000000) := Lib.hid (wI_bd BS x.1 (by have h1 := x.2; have h2 := HBQ.out; unfold stCnt at h1; omega))
    have hwi := HWI.out
    obtain ⟨hwi0, hwi1⟩ := hwi
    have hsb := hB.size
    have lgwW : gw < W.heap.size := by omega
    have ladW : ad.block < W.heap.size := by omega
    by_cases hn' : 16 + pre.length = n
    · have he : ((16 + (pre.length : Int)) == (n : Int)) = true := beq_iff_eq.2 (by omega)
      have HP : Hid (pre.length = n - 16) := Lib.hid (by omega)
      clear hlen hle
      gi_wp2_with (first
        | (refine ⟨trivial, ?_⟩; gi_at_call 15; refine (CallsIn.inRound l' (callsIn_wide.2 ((HF _).out))).mono ?_; rintro e _ ⟨rfl, rfl⟩)
        | (refine ⟨trivial, ?_⟩; gi_at_call 30; refine (CallsIn.inRound l' (callsIn_wide.2 ((HNXT _).out))).mono ?_; rintro e w51 ⟨rfl, h51⟩; have B51 := hB.trans (h51.mono hB.size); have z6_51 := q6.on h51; have z7_51 := q7.on h51; have z8_51 := q8.on h51; have sz51 := h51.size)
        | ((with_reducible refine wpListIn_at ⟨none, .store _ (.tmp 6) _, _, _, _, _⟩ ?_); refine wpListIn_store_all rfl (fun _ => trivial) _ _ _ rfl (w2.heap.size) rfl _ _ z6_51 ((⟨4, 0, 16 * rec + 8 * TG + wI BS x.1, wS BS x.1⟩ : StA).cs) rfl ((⟨4, 0, 16 * rec + 8 * TG + wI BS x.1, wS BS x.1⟩ : StA).cs_one) rfl (by kernel_rfl) ?_; intro w52 z6_52 g52; have z7_52 := z7_51.kept g52 (by simp; omega); have z8_52 := z8_51.kept g52 (by simp; omega); have B52 := below_kept B51 g52 B51.size (by rintro q hq; cases hq; omega); clear z7_51 z8_51)
        | ((with_reducible refine wpListIn_at ⟨none, .store _ (.tmp 7) _, _, _, _, _⟩ ?_); refine wpListIn_store_all rfl (fun _ => trivial) _ _ _ rfl (w3.heap.size) rfl _ _ z7_52 (noO.cs) rfl (noO.cs_one) rfl (by kernel_rfl) ?_; intro w53 z7_53 g53; have z6_53 := z6_52.kept g53 (by simp; omega); have z8_53 := z8_52.kept g53 (by simp; omega); have B53 := below_kept B52 g53 B52.size (by rintro q hq; cases hq; omega); clear z6_52 z8_52)
        | ((with_reducible refine wpListIn_at ⟨none, .store _ (.tmp 8) _, _, _, _, _⟩ ?_); refine wpListIn_store_elem rfl (fun _ => trivial) _ _ _ rfl (w4.heap.size) 0 rfl _ _ z8_53 (.bool false) rfl rfl (by simp) (by kernel_rfl) ?_; intro w54 z8x_54 g54; have z6_54 := z6_53.kept g54 (by simp; omega); have z7_54 := z7_53.kept g54 (by simp; omega); have z8_54 : Row w54 (w4.heap.size) _ [.bool false] := z8x_54; have B54 := below_kept B53 g54 B53.size (by rintro q hq; cases hq; omega); clear z6_53 z7_53))
      exact ⟨((keeps_call h51).trans (keeps_store z6_51 g52)).trans ((keeps_store z7_52 g53).trans (keeps_store z8_53 g54)), ⟨rfl, ⟨pre, x, rfl, HP.out, z6_54⟩, z7_54, z8_54⟩, B54⟩
    · have he : ((16 + (pre.length : Int)) == (n : Int)) = false := beq_eq_false_iff_ne.2 (fun h => hn' (by omega))
      have HP : Hid ((pre ++ [x]).length ≤ n - 16) := Lib.hid (by rw [List.length_append]; show pre.length + 1 ≤ _; omega)
      have HQ : Hid ((16 : Int) + ((pre ++ [x]).length : Int) = 16 + (pre.length : Int) + 1) := Lib.hid (by rw [List.length_append]; show (16 : Int) + ((pre.length + 1 : Nat) : Int) = _; omega)
      have hlen2 : (pre.length : Int) ≤ 1000 := by omega
      gi_wp2_with (first
        | ((with_reducible refine wpListIn_at ⟨none, .store _ (.tmp 11) _, _, _, _, _⟩ ?_); refine wpListIn_store_elem rfl (fun _ => trivial) _ _ _ rfl (w9.heap.size) 0 rfl _ _ q11 (.int .i64 (16 + (pre.length : Int) + 1)) rfl rfl (by simp) (by kernel_rfl) ?_; intro w71 z11x_71 g71; have r3_71 := q3.kept g71 (by simp; omega); have r5_71 := q5.kept g71 (by simp; omega); have z9_71 := q9.kept g71 (by simp; omega); have z6_71 := q6.kept g71 (by simp; omega); have z7_71 := q7.kept g71 (by simp; omega); have z8_71 := q8.kept g71 (by simp; omega); have z11_71 : Row w71 (w9.heap.size) _ [.int .i64 (16 + (pre.length : Int) + 1)] := z11x_71; have B71 := below_kept hB g71 hB.size (by rintro q hq; cases hq; omega)))
      rw [← HQ.out] at z11_71
      exact ⟨keeps_store q11 g71, ⟨g71.size, g71.block gw lgwW (by simp; omega), g71.block ad.block ladW (by simp; omega)⟩, ⟨r3_71, r5_71, z9_71, z6_71, z7_71, z8_71, z11_71, HP.out, Nat.le_trans hWW g71.size⟩, B71⟩
  case done =>
    rintro D xs W hD hxs ⟨⟨q3, q5, q9, q6, q7, q8, q11, hle, hWW⟩, hB⟩ hK
    have hxl : xs.length = stCnt BS + 1 := by have h := congrArg List.length hxs; rwa [List.length_map, List.length_range] at h
    have HE2 : Hid (R = (noA, ⟨c, S + 1, 0⟩, true)) := Lib.hid (by rw [HE.out, if_neg (by omega)])
    rw [hT.out]
    have hDW : D < W.heap.size := (Array.getElem?_eq_some_iff.1 hK).1
    gi_wp2_with (first
      | (refine ⟨trivial, ?_⟩; gi_at_call 29; refine (callsIn_wide.2 ((HEN _).out)).mono ?_; rintro e w91 ⟨rfl, h91⟩; have B91 := hB.trans (h91.mono hB.size); have z6_91 := q6.on h91; have z7_91 := q7.on h91; have z8_91 := q8.on h91; have sz91 := h91.size; have K91 := (h91.block D hDW).trans hK)
      | ((with_reducible refine wpListIn_at ⟨none, .store _ (.tmp 6) _, _, _, _, _⟩ ?_); refine wpListIn_store_all rfl (fun _ => trivial) _ _ _ rfl (w2.heap.size) rfl _ _ z6_91 (noA.cs) rfl (noA.cs_one) rfl (by kernel_rfl) ?_; intro w92 z6_92 g92; have z7_92 := z7_91.kept g92 (by simp; omega); have z8_92 := z8_91.kept g92 (by simp; omega); have B92 := below_kept B91 g92 B91.size (by rintro q hq; cases hq; omega); clear z7_91 z8_91; have K92 := (g92.block D (by omega) (by simp; omega)).trans K91; have sz92 := g92.size)
      | ((with_reducible refine wpListIn_at ⟨none, .store _ (.tmp 7) _, _, _, _, _⟩ ?_); refine wpListIn_store_all rfl (fun _ => trivial) _ _ _ rfl (w3.heap.size) rfl _ _ z7_92 ((⟨c, S + 1, 0⟩ : StO).cs) rfl ((⟨c, S + 1, 0⟩ : StO).cs_one) rfl (by kernel_rfl) ?_; intro w93 z7_93 g93; have z6_93 := z6_92.kept g93 (by simp; omega); have z8_93 := z8_92.kept g93 (by simp; omega); have B93 := below_kept B92 g93 B92.size (by rintro q hq; cases hq; omega); clear z6_92 z8_92; have K93 := (g93.block D (by omega) (by simp; omega)).trans K92; have sz93 := g93.size)
      | ((with_reducible refine wpListIn_at ⟨none, .store _ (.tmp 8) _, _, _, _, _⟩ ?_); refine wpListIn_store_elem rfl (fun _ => trivial) _ _ _ rfl (w4.heap.size) 0 rfl _ _ z8_93 (.bool true) rfl rfl (by simp) (by kernel_rfl) ?_; intro w94 z8x_94 g94; have z6_94 := z6_93.kept g94 (by simp; omega); have z7_94 := z7_93.kept g94 (by simp; omega); have z8_94 : Row w94 (w4.heap.size) _ [.bool true] := z8x_94; have B94 := below_kept B93 g94 B93.size (by rintro q hq; cases hq; omega); clear z6_93 z7_93; have K94 := (g94.block D (by omega) (by simp; omega)).trans K93; have sz94 := g94.size))
    have hg0 := grownBy_putObj' w94 D (.deferred none)
    have hr0 : ∀ r, some D = some r → ∃ o : Obj, w94.heap[r]? = some o ∧ o.isCells = false := fun r e => by cases e; exact ⟨_, K94, rfl⟩
    refine ⟨by simp, .inl ⟨_, _, rfl, run_takeDeferred K94, ?_⟩⟩
    exact ⟨_, results_cells3 Tryd.results28 _ _ _ _ _ _ _ _ rfl rfl rfl (load_ac (z6_94.grown hg0 hr0)) (load_so (a := ⟨c, S + 1, 0⟩) (z7_94.grown hg0 hr0)) (load_one ((z8_94.grown hg0 hr0).cell (j := 0) rfl) _ Tryd.underlying4 rfl), by first | (rw [HE2.out]; done) | (rw [HE2.out]; rfl), B94.trans (belowK_b (w := w) (Nat.le_refl _) w94 D _ _ (by omega) K94 rfl rfl)⟩
  case stop =>
    rintro D k pre W hD hpre ⟨⟨rfl, ⟨p, x, rfl, hp, q6⟩, q7, q8⟩, hB⟩ hK
    have hx : x.1 = n - 16 := by rw [← hp]; exact last_of hpre
    have HE2 : Hid (R = (⟨4, 0, 16 * rec + 8 * TG + wI BS x.1, wS BS x.1⟩, noO, false)) := Lib.hid (by rw [HE.out, if_pos (by have := x.2; omega), stWrt_eq, hx])
    rw [hT.out]
    gi_wp2
    have hg0 := grownBy_putObj' W D (.deferred none)
    have hr0 : ∀ r, some D = some r → ∃ o : Obj, W.heap[r]? = some o ∧ o.isCells = false := fun r e => by cases e; exact ⟨_, hK, rfl⟩
    refine ⟨by simp, .inl ⟨_, _, rfl, run_takeDeferred hK, ?_⟩⟩
    exact ⟨_, results_cells3 Tryd.results28 _ _ _ _ _ _ _ _ rfl rfl rfl (load_ac (q6.grown hg0 hr0)) (load_so (a := noO) (q7.grown hg0 hr0)) (load_one ((q8.grown hg0 hr0).cell (j := 0) rfl) _ Tryd.underlying4 rfl), by first | (rw [HE2.out]; done) | (rw [HE2.out]; rfl), hB.trans (belowK_b (w := w) (Nat.le_refl _) W D _ _ (by omega) hK rfl rfl)⟩
set_option maxRecDepth 100000 in
set_option maxHeartbeats 4000000 in
theorem sput_any (rec : Int) (c : ByteArray) (A : Option Addr) (n d : Nat) (l : List StR) (w : World) (hK : Consts w) (hr : Reads w w.heap.size 2 A n (rcs l)) (hc : n ≤ d) (hn : n ≤ 1000) (hs : ∀ r ∈ l, r.s.size ≤ 400) (hcs : c.size ≤ 1000000) :
    Calls Tryd.prog 28 #[.int .i64 rec, .string c, .slice A n d] w (GivesS (stPut rec c (l.map StR.s)) w) :=
  sput_few rec c A n d l w hK hr hc hn hs hcs fun hin h2000 h16 hS => callsIn_wide.1 (sput_in 4 (Nat.le_refl _) rec c A n d l w hK hr hc hn hs hin h2000 h16 hS)
end Go.Proofs.YtfclifolniefpaaDoor
