/-
  What box.tag, box.Seal and box.Open return: contracts by walks. Condition: the table of constants as laid; bounded lengths.
-/
import Derived.Test.YtdgflobdnkopbaaDoorBxK
namespace Go.Proofs.YtdgflobdnkopbaaDoor
open Go.RowKit

theorem btag_eq (key : List UInt8) (n : Int) (s : List UInt8) : btag key n s = mac (authK key) (encInt n ++ encBytes s) := rfl
theorem encBytes_lt (s : ByteArray) (h : s.size ≤ 30000) : (encBytes s.data.toList).length ≤ 30010 := encBytes_le _ 30000 (by simpa using h) (by omega)

set_option maxRecDepth 100000 in
set_option maxHeartbeats 2000000 in
theorem tag_any (key : List UInt8) (hkey : key.length = 16) (n : Int) (hn1 : -9223372036854775808 ≤ n) (hn2 : n ≤ 9223372036854775807) (s : ByteArray) (hs : s.size ≤ 30000) (w : World) (hK : Consts w) :
    Calls Tryd.prog 17 #[.agg (bvs key).toArray, .int .i64 n, .string s] w (GivesV (.agg (bvs (btag key n s.data.toList)).toArray) w) := by
  have HKL := Lib.hid hkey
  have HI := fun W => Lib.hid (int_any n W hn1 hn2)
  have HIL := Lib.hid (encInt_le n hn1 hn2)
  have HB := fun W => Lib.hid (bytes_any s W (by omega))
  have HBL := Lib.hid (encBytes_lt s hs)
  have HDE := Lib.hid (drv_auth key)
  have HAL := Lib.hid (authK_len key)
  have HTE := Lib.hid (btag_eq key n s.data.toList)
  have HTL := Lib.hid (btag_len key n s.data.toList)
  have hCo := hK
  generalize btag key n s.data.toList = T at *
  generalize authK key = AK at *
  generalize encBytes s.data.toList = EB at *
  generalize encInt n = E at *
  clear hkey
  go_enter Tryd.func17, Tryd.ntmps17
  go_wp2_with (first
    | (with_reducible refine wpList_box_row (o := ⟨some 3, _, _, _, _, _⟩) rfl _ _ rfl (bvs key) rfl ?_; intro w1 hrow1 hs1 hg1)
    | (with_reducible refine wpList_alloc_row (o := ⟨some 6, _, _, _, _, _⟩) rfl _ rfl zeros16 zero_b16 ?_; intro w2 hrow2 hs2 hg2; have hrow1' := hrow1.kept hg2 (by simp)))
  have hb2 : Below w.heap.size w w2 := below_kept (grown_below hg1 (Nat.le_refl _) (by simp)) hg2 (by omega) (by simp)
  clear hrow1 hg1 hg2
  refine (derive_any (some ⟨w.heap.size, 0, none⟩) 16 key 16 ⟨#[97, 117, 116, 104, 101, 110, 116, 105, 99, 97, 116, 101]⟩ none 0 [] 0 w2 (hCo.on hb2) (hrow1'.reads16 HKL.out) (Nat.le_refl _) (by omega) (by decide) (readsP_none _ _) (by omega) (by simp)).mono ?_
  rintro e w3 ⟨rfl, hb3⟩
  rw [show drv key (⟨#[97, 117, 116, 104, 101, 110, 116, 105, 99, 97, 116, 101]⟩ : ByteArray).data.toList [] = AK from HDE.out]
  have hrO3 := hrow2.on hb3
  have B3 := hb2.trans (hb3.mono hb2.size)
  clear hrow1' hrow2
  go_wp2_with (first
    | (with_reducible refine wpList_alloc_row (o := ⟨some 7, _, _, _, _, _⟩) rfl _ rfl zeros16 zero_b16 ?_; intro w4 hrow4 hs4 hg4)
    | (with_reducible refine wpList_at ⟨none, .store _ (.tmp 7) _, _, _, _, _⟩ ?_; refine wpList_store_all rfl _ _ _ rfl w3.heap.size rfl _ _ hrow4 (bvs AK) rfl (bvs_one _) (b16_zeros _ HAL.out) (b16_size _ HAL.out) ?_; intro w5 hrow5 hg5
       have hb35 : Below w3.heap.size w3 w5 := below_kept (grown_below hg4 (Nat.le_refl _) (by simp)) hg5 (by omega) (by rintro q hq; cases hq; exact Nat.le_refl _)
       have hrO5 := hrO3.on hb35
       have B5 := B3.trans (hb35.mono B3.size)))
  simp only [Act.put, List.setIfInBounds_toArray, List.set_cons_zero, List.set_cons_succ]
  refine wp_region_plan (fun _ => True) (.take 0 <| .take 1 <| .take 3 <| .one 2 <| .one 4 <| .one 5 <| .one 6 <| .one 7 <| .one 8 <| .done) (by kernel_rfl) (by kernel_rfl) (by kernel_rfl) (fun _ _ _ _ _ h => h) trivial ?_
  repeat (refine plan_take _ rfl ?_; go_big_quiet_step ((intros; rfl)); refine wpQuiet_nil ?_)
  refine plan_one _ rfl fun K hK => ?_
  go_simp
  refine (HI _).out.mono ?_
  rintro e w6 ⟨v6, rfl, o6, hb6⟩
  obtain ⟨A6, c6, rfl, hc6, _, r6⟩ := own_form o6
  have hrA6 := hrow5.drew.on hb6
  have hrO6 := hrO5.drew.on hb6
  have B6 := B5.drew.trans (hb6.mono B5.drew.size)
  refine hK _ _ trivial ?_
  clear hK K o6
  refine plan_one _ rfl fun K hK => ?_
  go_simp
  refine (HB _).out.mono ?_
  rintro e w7 ⟨v7, rfl, o7, hb7⟩
  obtain ⟨A7, c7, rfl, hc7, _, r7⟩ := own_form o7
  have hrA7 := hrA6.on hb7
  have hrO7 := hrO6.on hb7
  have r67 := r6.on hb7
  have B7 := B6.trans (hb7.mono B6.size)
  refine hK _ _ trivial ?_
  clear hK K o7
  refine plan_one _ rfl fun K hK => ?_
  go_simp
  have hrp := readsP_two w7 34 A6 A7 E.length c6 EB.length c7 E EB r67 hc6 r7 hc7
  have hb8 : Below w7.heap.size w7 (w7.alloc (.cells #[.slice A6 E.length c6, .slice A7 EB.length c7] 34)) := (Below.refl _ _).alloc (Nat.le_refl _) _
  have hrA8 := hrA7.on hb8
  have hrO8 := hrO7.on hb8
  have B8 := B7.trans (hb8.mono B7.size)
  refine hK _ _ trivial ?_
  clear hK K
  refine plan_one _ rfl fun K hK => ?_
  go_simp
  refine (concat_any _ _ _ _ _ hrp (by omega) (parts_two_le _ _ 100000 (show E.length ≤ 100000 by have := HIL.out; omega) (show EB.length ≤ 100000 by have := HBL.out; omega))).mono ?_
  rintro e w9 ⟨v9, rfl, o9, hb9⟩
  rw [allBytes_two] at o9
  have o9 := own_len o9 List.length_append
  obtain ⟨A9, c9, rfl, hc9, _, r9⟩ := own_form o9
  have hrA9 := hrA8.on hb9
  have hrO9 := hrO8.on hb9
  have B9 := B8.trans (hb9.mono B8.size)
  refine hK _ _ trivial ?_
  clear hK K o9
  refine plan_one _ rfl fun K hK => ?_
  go_simp
  refine (mac_any (some ⟨w3.heap.size, 0, none⟩) A9 16 c9 AK (E ++ EB) 16 (E.length + EB.length) _ (hCo.on B9) (hrA9.reads16 HAL.out) (Nat.le_refl _) (by omega) r9 hc9 (by have := HIL.out; have := HBL.out; omega)).mono ?_
  rintro e w10 ⟨rfl, hb10⟩
  rw [← HTE.out]
  have hrO10 := hrO9.on hb10
  have B10 := B9.trans (hb10.mono B9.size)
  refine hK _ _ trivial ?_
  clear hK K
  refine plan_one _ rfl fun K hK => ?_
  refine step_store_all rfl _ _ _ rfl w1.heap.size rfl _ _ hrO10 (bvs T) rfl (bvs_one _) (b16_zeros _ HTL.out) (b16_size _ HTL.out) ?_
  intro w11 r11 g11
  refine hK _ _ trivial ?_
  clear hK K
  simp only [Act.put]
  refine plan_done ?_
  go_wp2_with fail
  have hload := run_loadVar_at (P := Tryd.prog) w11 23 ⟨w1.heap.size, 0, none⟩ (bvs T) r11.cells _ Tryd.underlying23 rfl (b16_size _ HTL.out)
  exact bodyPost_ret (results_cell1 Tryd.results17 _ _ _ _ rfl hload) rfl ⟨rfl, below_kept B10 g11 B10.size (by rintro q hq; cases hq; omega)⟩

/-! ## Boxes -/
def boxCs (n : Int) (s : ByteArray) (t : List UInt8) : List Value := .int .i64 n :: .string s :: bvs t
def zbox : List Value := boxCs 0 ⟨#[]⟩ (List.replicate 16 0)
theorem zero_box : (Tryd.prog.info? 25).map (fun i => i.zero.map (·.cells)) = some (some zbox.toArray) := by kernel_rfl
theorem box_one (n : Int) (s : ByteArray) (t : List UInt8) : ∀ u ∈ boxCs n s t, u.oneCell' = true := by
  intro u hu
  unfold boxCs at hu
  simp only [List.mem_cons] at hu
  rcases hu with rfl | rfl | hu
  · rfl
  · rfl
  · exact bvs_one t u hu
theorem box_len (n : Int) (s : ByteArray) (t : List UInt8) (ht : t.length = 16) : (boxCs n s t).length = 18 := by
  show (bvs t).length + 1 + 1 = 18
  rw [bvs_length, ht]
theorem zbox_len (n : Int) (s : ByteArray) (t : List UInt8) (ht : t.length = 16) : zbox.length = (boxCs n s t).length := by
  rw [box_len n s t ht]
  rfl
theorem box_size (n : Int) (s : ByteArray) (t : List UInt8) (ht : t.length = 16) : (Tryd.prog.info? 25).map (·.size) = some (boxCs n s t).length := by
  rw [box_len n s t ht]
  kernel_rfl
theorem build_box (n : Int) (s : ByteArray) : ∀ t : List UInt8, t.length = 16 → Tryd.prog.built 25 [(0, .int .i64 n), (1, .string s), (2, .agg (bvs t).toArray)] = some (boxCs n s t).toArray
  | [a, b, c, d, e, f, g, h, i, j, k, l, m, o, p, q], _ => by kernel_rfl
theorem exec_build_box {ρ : Operand → Value} {o : Oper} (w : World) (x y z : Operand) (ho : o.op = .build 25 #[(0, x), (1, y), (2, z)]) (n : Int) (s : ByteArray) (t : List UInt8) (ht : t.length = 16) (h1 : ρ x = .int .i64 n) (h2 : ρ y = .string s) (h3 : ρ z = .agg (bvs t).toArray) :
    (execOp ρ o).run Tryd.prog w = .ok (.value (.agg (boxCs n s t).toArray)) w := by
  have h := run_build (P := Tryd.prog) w 25 #[(0, .int .i64 n), (1, .string s), (2, .agg (bvs t).toArray)] _ (build_box n s t ht)
  unfold execOp
  simp [ho, h1, h2, h3, h]
theorem exec_load_box {ρ : Operand → Value} {o : Oper} (w : World) (x : Operand) (ho : o.op = .load 25 x) (ad : Addr) (hx : ρ x = .pointer (some ad)) (n : Int) (s : ByteArray) (t : List UInt8) (ht : t.length = 16) (hc : ∀ j u, (boxCs n s t)[j]? = some u → w.cell? (ad.add j) = some u) :
    (execOp ρ o).run Tryd.prog w = .ok (.value (.agg (boxCs n s t).toArray)) w := exec_load w _ x ho ad hx (boxCs n s t) hc _ Tryd.underlying25 rfl (box_size n s t ht)
/-- The tag's cells in a box. -/
theorem Row.tag {w : World} {g : Nat} {e : TypeId} {n : Int} {s : ByteArray} {t : List UInt8} (h : Row w g e (boxCs n s t)) : ∀ j u, (bvs t)[j]? = some u → w.cell? ((⟨g, 2, none⟩ : Addr).add j) = some u := by
  intro j u hj
  have hc : (boxCs n s t)[2 + j]? = some u := by rw [Nat.add_comm]; exact hj
  have e := h.cells (2 + j) u hc
  rw [Addr.add_lit] at e ⊢
  rwa [Nat.zero_add] at e
def GivesO (s : List UInt8) (err : Int) (w : World) (e : Ending) (w' : World) : Prop := e = .returned (.tuple #[.string ⟨s.toArray⟩, .int .i64 err]) ∧ Below w.heap.size w w'

set_option maxRecDepth 100000 in
set_option maxHeartbeats 1000000 in
theorem seal_any (key : List UInt8) (hkey : key.length = 16) (n : Int) (hn1 : -9223372036854775808 ≤ n) (hn2 : n ≤ 9223372036854775807) (s : ByteArray) (hs : s.size ≤ 30000) (w : World) (hK : Consts w) :
    Calls Tryd.prog 11 #[.agg (bvs key).toArray, .int .i64 n, .string s] w (GivesV (.agg (boxCs n ⟨(cryp key n s.data.toList).toArray⟩ (btag key n (cryp key n s.data.toList))).toArray) w) := by
  have HKL := Lib.hid hkey
  have HX := fun W hW => Lib.hid (crypt_any key hkey n hn1 hn2 s hs W hW)
  have hxl : (cryp key n s.data.toList).length = s.size := by rw [cryp_len]; simp
  have HT := fun W hW => Lib.hid (tag_any key hkey n hn1 hn2 ⟨(cryp key n s.data.toList).toArray⟩ (by show (cryp key n s.data.toList).toArray.size ≤ _; rw [List.size_toArray, hxl]; exact hs) W hW)
  have HTL := Lib.hid (btag_len key n (cryp key n s.data.toList))
  have hCo := hK
  generalize cryp key n s.data.toList = X at *
  simp only at HT
  generalize btag key n X = T at *
  have HZ := Lib.hid (zbox_len n ⟨X.toArray⟩ T HTL.out)
  have HBS := Lib.hid (box_size n ⟨X.toArray⟩ T HTL.out)
  clear hkey hxl
  go_enter Tryd.func11, Tryd.ntmps11
  go_wp2_with (first
    | (with_reducible refine wpList_box_row (o := ⟨some 3, _, _, _, _, _⟩) rfl _ _ rfl (bvs key) rfl ?_; intro w1 hrow1 hs1 hg1)
    | (with_reducible refine wpList_alloc_row (o := ⟨some 6, _, _, _, _, _⟩) rfl _ rfl zbox zero_box ?_; intro w2 hrow2 hs2 hg2; have hrow1' := hrow1.kept hg2 (by simp))
    | (refine wpList_valueG (o := ⟨some 8, _, _, _, _, _⟩) rfl _ (by exact exec_load16 _ _ rfl _ rfl key HKL.out hrow1'.cells) ?_))
  have hb2 : Below w.heap.size w w2 := below_kept (grown_below hg1 (Nat.le_refl _) (by simp)) hg2 (by omega) (by simp)
  clear hrow1 hg1 hg2
  refine (HX _ (hCo.on hb2)).out.mono ?_
  rintro e w3 ⟨A3, c3, rfl, hc3, hr3, hb3⟩
  have hrow3 := hrow1'.on hb3
  have hrO3 := hrow2.on hb3
  have B3 := hb2.trans (hb3.mono hb2.size)
  go_wp2_with (first
    | (refine wpList_valueW (o := ⟨some 12, _, _, _, _, _⟩) rfl _ (by exact exec_string_of _ _ _ _ _ rfl Tryd.underlying34 Tryd.underlying5 Tryd.underlying9 rfl hr3) ?_)
    | (refine wpList_valueG (o := ⟨some 15, _, _, _, _, _⟩) rfl _ (by exact exec_load16 _ _ rfl _ rfl key HKL.out hrow3.cells) ?_))
  refine (HT _ (hCo.on B3)).out.mono ?_
  rintro e w4 ⟨rfl, hb4⟩
  have hrO4 := hrO3.on hb4
  have B4 := B3.trans (hb4.mono B3.size)
  go_wp2_with (first
    | (refine wpList_valueG (o := ⟨some 19, _, _, _, _, _⟩) rfl _ (by exact exec_build_box _ _ _ _ rfl n ⟨X.toArray⟩ T HTL.out rfl rfl rfl) ?_)
    | (with_reducible refine wpList_at ⟨none, .store _ (.tmp 6) _, _, _, _, _⟩ ?_; refine wpList_store_all rfl _ _ _ rfl w1.heap.size rfl _ _ hrO4 (boxCs n ⟨X.toArray⟩ T) rfl (box_one _ _ _) HZ.out HBS.out ?_; intro w5 hrO5 hg5))
  have hload := run_loadVar_at (P := Tryd.prog) w5 25 ⟨w1.heap.size, 0, none⟩ (boxCs n ⟨X.toArray⟩ T) hrO5.cells _ Tryd.underlying25 rfl HBS.out
  exact bodyPost_ret (results_cell1 Tryd.results11 _ _ _ _ rfl hload) rfl ⟨rfl, below_kept B4 hg5 B4.size (by rintro q hq; cases hq; omega)⟩

set_option maxRecDepth 100000 in
set_option maxHeartbeats 2000000 in
theorem open_any (key : List UInt8) (hkey : key.length = 16) (n : Int) (hn1 : -9223372036854775808 ≤ n) (hn2 : n ≤ 9223372036854775807) (s : ByteArray) (hs : s.size ≤ 30000) (t : List UInt8) (ht : t.length = 16) (w : World) (hK : Consts w) :
    Calls Tryd.prog 9 #[.agg (bvs key).toArray, .agg (boxCs n s t).toArray] w (GivesO (openS key n s.data.toList t) (openE key n s.data.toList t) w) := by
  have HKL := Lib.hid hkey
  have HTL := Lib.hid ht
  have HX := fun W hW => Lib.hid (crypt_any key hkey n hn1 hn2 s hs W hW)
  have HT := fun W hW => Lib.hid (tag_any key hkey n hn1 hn2 s hs W hW)
  have HTG := Lib.hid (btag_len key n s.data.toList)
  have HO : Hid ((t == btag key n s.data.toList) = opens key n s.data.toList t) := rfl
  have HS : Hid (openS key n s.data.toList t = if opens key n s.data.toList t then cryp key n s.data.toList else []) := rfl
  have HE : Hid (openE key n s.data.toList t = if opens key n s.data.toList t then 0 else 8) := rfl
  have hCo := hK
  generalize openS key n s.data.toList t = os at *
  generalize openE key n s.data.toList t = oe at *
  generalize opens key n s.data.toList t = ob at *
  generalize cryp key n s.data.toList = X at *
  generalize btag key n s.data.toList = T at *
  clear hkey ht
  go_enter Tryd.func9, Tryd.ntmps9
  go_wp2_with (first
    | (with_reducible refine wpList_box_row (o := ⟨some 2, _, _, _, _, _⟩) rfl _ _ rfl (bvs key) rfl ?_; intro w1 hrow1 hs1 hg1)
    | (with_reducible refine wpList_box_row (o := ⟨some 3, _, _, _, _, _⟩) rfl _ _ rfl (boxCs n s t) rfl ?_; intro w2 hrow2 hs2 hg2; have hrow1' := hrow1.kept hg2 (by simp)))
  have hb2 : Below w.heap.size w w2 := below_kept (grown_below hg1 (Nat.le_refl _) (by simp)) hg2 (by omega) (by simp)
  clear hrow1 hg1 hg2
  refine wp_region_plan (fun w' => Row w' w.heap.size 23 (bvs key) ∧ Row w' w1.heap.size 25 (boxCs n s t)) (.take 0 <| .take 1 <| .take 2 <| .take 3 <| .take 4 <| .take 5 <| .take 6 <| .one 7 <| .take 8 <| .done) (by kernel_rfl) (by kernel_rfl) (by kernel_rfl) (fun _ _ _ _ _ h => h) ⟨hrow1'.drew, hrow2.drew⟩ ?_
  repeat (refine plan_take _ rfl ?_; (first | (refine wpQuiet_valueG (o := ⟨some 7, _, _, _, _, _⟩) rfl _ (by intro _ h; exact exec_load16 _ _ rfl _ rfl t HTL.out h.2.tag) (wpQuiet_nil ?_); simp only [Act.put, List.setIfInBounds_toArray, List.set_cons_zero, List.set_cons_succ]) | (refine wpQuiet_valueG (o := ⟨some 8, _, _, _, _, _⟩) rfl _ (by intro _ h; exact exec_load16 _ _ rfl _ rfl key HKL.out h.1.cells) (wpQuiet_nil ?_); simp only [Act.put, List.setIfInBounds_toArray, List.set_cons_zero, List.set_cons_succ]) | (refine wpQuiet_valueG (o := ⟨some 10, _, _, _, _, _⟩) rfl _ (by intro _ h; exact exec_load1 _ 3 _ rfl ⟨w1.heap.size, 0, none⟩ rfl _ (h.2.cell (j := 0) rfl) _ Tryd.underlying3 rfl) (wpQuiet_nil ?_); simp only [Act.put, List.setIfInBounds_toArray, List.set_cons_zero, List.set_cons_succ]) | (refine wpQuiet_valueG (o := ⟨some 12, _, _, _, _, _⟩) rfl _ (by intro _ h; exact exec_load1 _ 9 _ rfl ⟨w1.heap.size, 1, none⟩ rfl _ (h.2.cell (j := 1) rfl) _ Tryd.underlying9 rfl) (wpQuiet_nil ?_); simp only [Act.put, List.setIfInBounds_toArray, List.set_cons_zero, List.set_cons_succ]) | (go_big_quiet_step ((intros; rfl)); refine wpQuiet_nil ?_)))
  refine plan_one _ rfl fun K hK => ?_
  go_simp
  refine (HT _ (hCo.on hb2.drew)).out.mono ?_
  rintro e w3 ⟨rfl, hb3⟩
  have hrow3 := hrow1'.drew.on hb3
  have hbox3 := hrow2.drew.on hb3
  have B3 := hb2.drew.trans (hb3.mono hb2.drew.size)
  refine hK _ _ ⟨hrow3, hbox3⟩ ?_
  clear hK K
  repeat (refine plan_take _ rfl ?_; (first | (refine wpQuiet_valueG (o := ⟨some 14, _, _, _, _, _⟩) rfl _ (by intro _ h; exact exec_neq16 _ _ _ rfl t T HTL.out HTG.out rfl rfl) (wpQuiet_nil ?_); simp only [Act.put, List.setIfInBounds_toArray, List.set_cons_zero, List.set_cons_succ]) | (go_big_quiet_step ((intros; rfl)); refine wpQuiet_nil ?_)))
  refine plan_done ?_
  rw [HO.out]
  cases ob
  · have HS0 : Hid (os = []) := HS.out
    have HE0 : Hid (oe = 8) := HE.out
    go_wp2_with fail
    go_ret2
    exact ⟨by rw [HS0.out, HE0.out]; rfl, B3⟩
  · have HS1 : Hid (os = X) := HS.out
    have HE1 : Hid (oe = 0) := HE.out
    go_wp2_with (first
      | (refine wpList_valueG (o := ⟨some 15, _, _, _, _, _⟩) rfl _ (by exact exec_load16 _ _ rfl _ rfl key HKL.out hrow3.cells) ?_)
      | (refine wpList_valueG (o := ⟨some 17, _, _, _, _, _⟩) rfl _ (by exact exec_load1 _ 3 _ rfl ⟨w1.heap.size, 0, none⟩ rfl _ (hbox3.cell (j := 0) rfl) _ Tryd.underlying3 rfl) ?_)
      | (refine wpList_valueG (o := ⟨some 19, _, _, _, _, _⟩) rfl _ (by exact exec_load1 _ 9 _ rfl ⟨w1.heap.size, 1, none⟩ rfl _ (hbox3.cell (j := 1) rfl) _ Tryd.underlying9 rfl) ?_))
    refine (HX _ (hCo.on B3)).out.mono ?_
    rintro e w4 ⟨A4, c4, rfl, hc4, hr4, hb4⟩
    go_wp2_with (refine wpList_valueW (o := ⟨some 21, _, _, _, _, _⟩) rfl _ (by exact exec_string_of _ _ _ _ _ rfl Tryd.underlying34 Tryd.underlying5 Tryd.underlying9 rfl hr4) ?_)
    go_ret2
    exact ⟨by rw [HS1.out, HE1.out]; rfl, B3.trans (hb4.mono B3.size)⟩
end Go.Proofs.YtdgflobdnkopbaaDoor
