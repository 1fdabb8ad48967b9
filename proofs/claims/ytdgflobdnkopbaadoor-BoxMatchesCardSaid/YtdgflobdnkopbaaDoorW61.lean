/-
  BoxMatches' walk. Condition: the table of constants as laid.
-/
import Derived.Test.YtdgflobdnkopbaaDoorBxE
namespace Go.Proofs.YtdgflobdnkopbaaDoor
open Go.RowKit

set_option maxRecDepth 100000 in
set_option maxHeartbeats 4000000 in
theorem walk61 (key : List UInt8) (hkey : key.length = 16) (n : Int) (hn1 : -9223372036854775808 ≤ n) (hn2 : n ≤ 9223372036854775807) (s : ByteArray) (hb : s.size ≤ 140737488351232)
    (m : Int) (hm1 : -9223372036854775808 ≤ m) (hm2 : m ≤ 9223372036854775807) (c : ByteArray) (hc : c.size ≤ 9223372036854775807) (t : List UInt8) (ht : t.length = 16) (w : World) (hCo : Consts w) :
    Calls Tryd.prog 3 #[.agg (bvs key).toArray, .int .i64 n, .string s, .agg (boxCs m c t).toArray] w (TellsB true w) := by
  have HK := Lib.hid hkey
  have HT := Lib.hid ht
  have HSA := fun W hW => Lib.hid (sanity6_any W hW)
  by_cases hs : s.size ≤ 300
  rotate_left
  · have h3 : decide (300 < (s.size : Int)) = true := decide_eq_true (by omega)
    clear hkey ht
    go_enter Tryd.func3, Tryd.ntmps3
    go_wp2_with (first
      | (with_reducible refine wpList_box_row (o := ⟨some 4, _, _, _, _, _⟩) rfl _ _ rfl (bvs key) rfl ?_; intro w1 ky_1 s1 g1; have k1 : Below w.heap.size w w1 := grown_below g1 (Nat.le_refl _) (by simp); have B1 : Below w.heap.size w w1 := k1; have K_1 := hCo.on k1)
      | (with_reducible refine wpList_box_row (o := ⟨some 7, _, _, _, _, _⟩) rfl _ _ rfl (boxCs m c t) rfl ?_; intro w2 bp_2 s2 g2; have k2 : Below w1.heap.size w1 w2 := grown_below g2 (Nat.le_refl _) (by simp); have B2 := B1.trans (k2.mono B1.size); have K_2 := K_1.on k2; have ky_2 := ky_1.on k2; clear K_1 ky_1))
    refine ((HSA _ K_2).out).mono ?_
    rintro e w3 ⟨rfl, h3⟩
    have B3 := B2.trans (h3.mono B2.size)
    have K_3 := K_2.on h3
    have ky_3 := ky_2.on h3
    have bp_3 := bp_2.on h3
    clear K_2 ky_2 bp_2
    go_wp2_with fail
    go_ret
    exact ⟨rfl, B3⟩
  have h3 : decide (300 < (s.size : Int)) = false := decide_eq_false (by omega)
  by_cases hcs : c.size ≤ 300
  rotate_left
  · have h4 : decide (300 < (c.size : Int)) = true := decide_eq_true (by omega)
    clear hkey ht
    go_enter Tryd.func3, Tryd.ntmps3
    go_wp2_with (first
      | (with_reducible refine wpList_box_row (o := ⟨some 4, _, _, _, _, _⟩) rfl _ _ rfl (bvs key) rfl ?_; intro w1 ky_1 s1 g1; have k1 : Below w.heap.size w w1 := grown_below g1 (Nat.le_refl _) (by simp); have B1 : Below w.heap.size w w1 := k1; have K_1 := hCo.on k1)
      | (with_reducible refine wpList_box_row (o := ⟨some 7, _, _, _, _, _⟩) rfl _ _ rfl (boxCs m c t) rfl ?_; intro w2 bp_2 s2 g2; have k2 : Below w1.heap.size w1 w2 := grown_below g2 (Nat.le_refl _) (by simp); have B2 := B1.trans (k2.mono B1.size); have K_2 := K_1.on k2; have ky_2 := ky_1.on k2; clear K_1 ky_1))
    refine ((HSA _ K_2).out).mono ?_
    rintro e w3 ⟨rfl, h3⟩
    have B3 := B2.trans (h3.mono B2.size)
    have K_3 := K_2.on h3
    have ky_3 := ky_2.on h3
    have bp_3 := bp_2.on h3
    clear K_2 ky_2 bp_2
    go_wp2_with (refine wpList_valueG (o := ⟨some 20, _, _, _, _, _⟩) rfl _ (by exact exec_load1 _ 9 _ rfl ⟨w1.heap.size, 1, none⟩ rfl _ (bp_3.cell (j := 1) rfl) _ Tryd.underlying9 rfl) ?_)
    go_ret
    exact ⟨rfl, B3⟩
  · have h4 : decide (300 < (c.size : Int)) = false := decide_eq_false (by omega)
    have HO1 := fun W hW => Lib.hid (open_any key hkey m hm1 hm2 c (by omega) t ht W hW)
    have HO2 := fun W => Lib.hid (refOpen_any key hkey m hm1 hm2 c (by omega) t ht W)
    have HS1 := fun W hW => Lib.hid (seal_any key hkey n hn1 hn2 s (by omega) W hW)
    have HS2 := fun W => Lib.hid (refSeal_any key hkey n hn1 hn2 s (by omega) W)
    have HTL := Lib.hid (btag_len key n (cryp key n s.data.toList))
    generalize openS key m c.data.toList t = os at *
    generalize openE key m c.data.toList t = oe at *
    generalize btag key n (cryp key n s.data.toList) = T at *
    generalize (⟨(cryp key n s.data.toList).toArray⟩ : ByteArray) = C at *
    clear hkey ht
    go_enter Tryd.func3, Tryd.ntmps3
    go_wp2_with (first
      | (with_reducible refine wpList_box_row (o := ⟨some 4, _, _, _, _, _⟩) rfl _ _ rfl (bvs key) rfl ?_; intro w1 ky_1 s1 g1; have k1 : Below w.heap.size w w1 := grown_below g1 (Nat.le_refl _) (by simp); have B1 : Below w.heap.size w w1 := k1; have K_1 := hCo.on k1)
      | (with_reducible refine wpList_box_row (o := ⟨some 7, _, _, _, _, _⟩) rfl _ _ rfl (boxCs m c t) rfl ?_; intro w2 bp_2 s2 g2; have k2 : Below w1.heap.size w1 w2 := grown_below g2 (Nat.le_refl _) (by simp); have B2 := B1.trans (k2.mono B1.size); have K_2 := K_1.on k2; have ky_2 := ky_1.on k2; clear K_1 ky_1))
    refine ((HSA _ K_2).out).mono ?_
    rintro e w3 ⟨rfl, h3⟩
    have B3 := B2.trans (h3.mono B2.size)
    have K_3 := K_2.on h3
    have ky_3 := ky_2.on h3
    have bp_3 := bp_2.on h3
    clear K_2 ky_2 bp_2
    go_wp2_with (first
      | (refine wpList_valueG (o := ⟨some 20, _, _, _, _, _⟩) rfl _ (by exact exec_load1 _ 9 _ rfl ⟨w1.heap.size, 1, none⟩ rfl _ (bp_3.cell (j := 1) rfl) _ Tryd.underlying9 rfl) ?_)
      | (refine wpList_valueG (o := ⟨some 26, _, _, _, _, _⟩) rfl _ (by exact exec_load16 _ _ rfl _ rfl key HK.out ky_3.cells) ?_)
      | (refine wpList_valueG (o := ⟨some 27, _, _, _, _, _⟩) rfl _ (by exact exec_load_box _ _ rfl _ rfl m c t HT.out bp_3.cells) ?_))
    refine ((HO1 _ K_3).out).mono ?_
    rintro e w4 ⟨rfl, h4⟩
    have B4 := B3.trans (h4.mono B3.size)
    have K_4 := K_3.on h4
    have ky_4 := ky_3.on h4
    have bp_4 := bp_3.on h4
    clear K_3 ky_3 bp_3
    go_wp2_with (first
      | (refine wpList_valueG (o := ⟨some 32, _, _, _, _, _⟩) rfl _ (by exact exec_load16 _ _ rfl _ rfl key HK.out ky_4.cells) ?_)
      | (refine wpList_valueG (o := ⟨some 33, _, _, _, _, _⟩) rfl _ (by exact exec_load_box _ _ rfl _ rfl m c t HT.out bp_4.cells) ?_))
    refine ((HO2 _).out).mono ?_
    rintro e w5 ⟨rfl, h5⟩
    have B5 := B4.trans (h5.mono B4.size)
    have K_5 := K_4.on h5
    have ky_5 := ky_4.on h5
    have bp_5 := bp_4.on h5
    clear K_4 ky_4 bp_4
    go_wp2_with fail
    refine wp_region_plan (fun w' => Row w' w.heap.size 23 (bvs key)) (.take 0 <| .take 1 <| .take 2 <| .take 3 <| .take 4 <| .take 6 <| .take 7 <| .take 8 <| .one 5 <| .one 9 <| .take 10 <| .take 11 <| .take 12 <| .take 13 <| .take 14 <| .take 15 <| .take 16 <| .take 17 <| .take 18 <| .take 19 <| .take 20 <| .take 21 <| .take 22 <| .done) (by kernel_rfl) (by kernel_rfl) (by kernel_rfl) (fun _ _ _ _ _ h => h) ky_5.drew ?_
    repeat (refine plan_take _ rfl ?_; (first | (refine wpQuiet_valueG (o := ⟨some 39, _, _, _, _, _⟩) rfl _ (by intro _ h; exact exec_load16 _ _ rfl _ rfl key HK.out h.cells) (wpQuiet_nil ?_); simp only [Act.put, List.setIfInBounds_toArray, List.set_cons_zero, List.set_cons_succ]) | (refine wpQuiet_valueG (o := ⟨some 43, _, _, _, _, _⟩) rfl _ (by intro _ h; exact exec_load16 _ _ rfl _ rfl key HK.out h.cells) (wpQuiet_nil ?_); simp only [Act.put, List.setIfInBounds_toArray, List.set_cons_zero, List.set_cons_succ]) | (refine wpQuiet_valueG (o := ⟨some 47, _, _, _, _, _⟩) rfl _ (by intro _ h; exact exec_eql_box _ _ _ rfl n C T HTL.out rfl rfl) (wpQuiet_nil ?_); simp only [Act.put, List.setIfInBounds_toArray, List.set_cons_zero, List.set_cons_succ]) | (go_big_quiet_step ((intros; rfl)); refine wpQuiet_nil ?_)))
    refine plan_one _ rfl fun K hK => ?_
    go_simp
    refine (HS1 _ (hCo.on B5.drew)).out.mono ?_
    rintro e wa ⟨rfl, ha⟩
    have kya := ky_5.drew.on ha
    have Ba := B5.drew.trans (ha.mono B5.drew.size)
    refine hK _ _ kya ?_
    clear hK K
    refine plan_one _ rfl fun K hK => ?_
    go_simp
    refine (HS2 _).out.mono ?_
    rintro e wb ⟨rfl, hb⟩
    have kyb := kya.on hb
    have Bb := Ba.trans (hb.mono Ba.size)
    refine hK _ _ kyb ?_
    clear hK K
    repeat (refine plan_take _ rfl ?_; (first | (refine wpQuiet_valueG (o := ⟨some 39, _, _, _, _, _⟩) rfl _ (by intro _ h; exact exec_load16 _ _ rfl _ rfl key HK.out h.cells) (wpQuiet_nil ?_); simp only [Act.put, List.setIfInBounds_toArray, List.set_cons_zero, List.set_cons_succ]) | (refine wpQuiet_valueG (o := ⟨some 43, _, _, _, _, _⟩) rfl _ (by intro _ h; exact exec_load16 _ _ rfl _ rfl key HK.out h.cells) (wpQuiet_nil ?_); simp only [Act.put, List.setIfInBounds_toArray, List.set_cons_zero, List.set_cons_succ]) | (refine wpQuiet_valueG (o := ⟨some 47, _, _, _, _, _⟩) rfl _ (by intro _ h; exact exec_eql_box _ _ _ rfl n C T HTL.out rfl rfl) (wpQuiet_nil ?_); simp only [Act.put, List.setIfInBounds_toArray, List.set_cons_zero, List.set_cons_succ]) | (go_big_quiet_step ((intros; rfl)); refine wpQuiet_nil ?_)))
    refine plan_done ?_
    go_wp2_with fail
    go_ret
    exact ⟨rfl, Bb⟩
end Go.Proofs.YtdgflobdnkopbaaDoor
