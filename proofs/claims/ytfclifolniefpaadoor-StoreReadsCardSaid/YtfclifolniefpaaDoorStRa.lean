/-
  What the reference's First and Encode return: contracts by walks. Condition: bounded lengths.
-/
import Derived.Test.YtfclifolniefpaaDoorStWB
import Derived.Test.YtfclifolniefpaaDoorParH
import Derived.Test.YtfclifolniefpaaDoorStQA
import Derived.Deep.LoopGhost
set_option linter.unusedSimpArgs false
set_option linter.unusedVariables false
namespace Go.Proofs.YtfclifolniefpaaDoor
open Go.RowKit

theorem stFirst_cases (rec area : Int) : (rec < 0 ∧ stFirst rec area = -1) ∨ (¬ rec < 0 ∧ 3 < rec ∧ stFirst rec area = -1) ∨ (¬ rec < 0 ∧ ¬ 3 < rec ∧ area < 0 ∧ stFirst rec area = -1) ∨ (¬ rec < 0 ∧ ¬ 3 < rec ∧ ¬ area < 0 ∧ 1 < area ∧ stFirst rec area = -1) ∨ (¬ rec < 0 ∧ ¬ 3 < rec ∧ ¬ area < 0 ∧ ¬ 1 < area ∧ stFirst rec area = 16 * rec + 8 * area) := by
  unfold stFirst
  by_cases h1 : rec < 0
  · exact .inl ⟨h1, if_neg (by omega)⟩
  · by_cases h2 : 3 < rec
    · exact .inr (.inl ⟨h1, h2, if_neg (by omega)⟩)
    · by_cases h3 : area < 0
      · exact .inr (.inr (.inl ⟨h1, h2, h3, if_neg (by omega)⟩))
      · by_cases h4 : 1 < area
        · exact .inr (.inr (.inr (.inl ⟨h1, h2, h3, h4, if_neg (by omega)⟩)))
        · exact .inr (.inr (.inr (.inr ⟨h1, h2, h3, h4, if_pos (by omega)⟩)))
set_option maxRecDepth 100000 in
set_option maxHeartbeats 4000000 in
theorem rencode_any (rec seq : Int) (c : ByteArray) (w : World) (hr0 : -9223372036854775808 ≤ rec) (hr1 : rec ≤ 9223372036854775807) (h1 : 0 ≤ seq) (h2 : seq ≤ 1099511627777) (hc : c.size ≤ 2000) :
    Calls Tryd.prog 21 #[.int .i64 rec, .int .i64 seq, .string c] w (Gives (stEnc rec seq (tl c)) w) := by
  obtain ⟨i0, hi0, hz0, hz1, hz2⟩ := info_parts info_u8
  have HI := fun n W h1 h2 => Lib.hid (refInt_any n W h1 h2)
  have HB := fun W => Lib.hid (refBytes_any c W (by omega))
  have HIL : Hid ((encInt seq).length ≤ 10) := Lib.hid (leb_le10 _ (zz_lt _ (by omega) (by omega)))
  have HRL : Hid ((encInt rec).length ≤ 10) := Lib.hid (leb_le10 _ (zz_lt _ (by omega) (by omega)))
  have HBL : Hid ((encBytes (tl c)).length ≤ 2010) := Lib.hid (encBytes_le (tl c) 2000 (by rw [tl_len]; exact hc) (by omega))
  have HE : Hid (stEnc rec seq (tl c) = (encInt seq ++ encBytes (tl c)) ++ dgl 5 [encInt rec, encInt seq ++ encBytes (tl c)]) := Lib.hid rfl
  have HDL := Lib.hid (dgl_len 5 [encInt rec, encInt seq ++ encBytes (tl c)])
  have HD : ∀ ps : List Part, ps.map Part.l = [encInt rec, encInt seq ++ encBytes (tl c)] → Hid (dig 5 ps = dgl 5 [encInt rec, encInt seq ++ encBytes (tl c)]) := fun ps h => Lib.hid (by rw [dig_dgl, h])
  change ∀ W, Hid (Calls _ _ _ W (Gives (encBytes (tl c)) W)) at HB
  have HI1 := fun W => HI seq W (by omega) (by omega)
  have HI2 := fun W => HI rec W hr0 hr1
  generalize stEnc rec seq (tl c) = R at *
  generalize encInt seq = E at *
  generalize encInt rec = E0 at *
  generalize encBytes (tl c) = EB at *
  generalize dgl 5 [E0, E ++ EB] = D at *
  clear HI
  go_enter Tryd.func21, Tryd.ntmps21
  go_wp2_with fail
  refine ((HI1 _).out).mono ?_
  rintro e w1 ⟨v1, rfl, o1, B1⟩
  go_wp2_with fail
  refine ((HB _).out).mono ?_
  rintro e w2 ⟨v2, rfl, o2, b2⟩
  obtain ⟨A2, c2, rfl, hc2, _, d2⟩ := own_form o2
  have B2 := B1.trans (b2.mono B1.size)
  have o12 := own_below o1 b2
  clear o1 o2
  go_wp2_with (at_builtin; refine wpList_append_src _ rfl (.tmp 11) (.tmp 13) _ _ rfl w.heap.size 5 i0 _ 1 1 Tryd.underlying42 hi0 hz0 hz1 hz2 rfl _ _ _ rfl o12 EB.length _ (Src.ofReads _ Tryd.underlying42 d2 (bvs_one _)) (by unfold maxLen; have := HIL.out; have := HBL.out; omega) (by have := HIL.out; have := HBL.out; omega) B2.size ?_; intro v3 w3 o3 b3; have B3 := B2.trans b3; rw [← bvs_append] at o3)
  obtain ⟨A3, c3, rfl, hc3, _, d3⟩ := own_form o3
  refine ((HI2 _).out).mono ?_
  rintro e w4 ⟨v4, rfl, o4, b4⟩
  obtain ⟨A4, c4, rfl, hc4, _, d4⟩ := own_form o4
  have B4 := B3.trans (b4.mono B3.size)
  have o34 := own_below o3 b4
  have d34 := d3.on b4
  clear o3 d3 o4
  go_wp2_with fail
  have hrp := readsP_two w4 42 A4 A3 E0.length c4 (E.length + EB.length) c3 E0 (E ++ EB) d4 hc4 d34 hc3
  have b5 : Below w4.heap.size w4 (w4.alloc (.cells #[.slice A4 E0.length c4, .slice A3 (E.length + EB.length) c3] 42)) := (Below.refl _ _).alloc (Nat.le_refl _) _
  have B5 := B4.trans (b5.mono B4.size)
  refine (refDigest_big 5 _ _ _ 2 _ hrp (by omega) (parts_two_le _ _ 3000 (show E0.length ≤ 3000 by have := HRL.out; omega) (show E.length + EB.length ≤ 3000 by have := HIL.out; have := HBL.out; omega))).mono ?_
  rintro e w6 ⟨rfl, h6⟩
  rw [(HD _ rfl).out]
  have B6 := B5.trans (h6.mono B5.size)
  have o6 := own_below (own_below o34 b5) h6
  have hw6 : w3.heap.size ≤ w6.heap.size := Nat.le_trans b4.size (Nat.le_trans b5.size h6.size)
  clear o34 d34 HD
  obtain ⟨X, hX⟩ : ∃ X, X = E ++ EB := ⟨_, rfl⟩
  have HX := Lib.hid hX
  have HXL : Hid (X.length = E.length + EB.length ∧ X.length ≤ 2020) := Lib.hid (by rw [hX, List.length_append]; have := HIL.out; have := HBL.out; omega)
  rw [← hX] at o6
  rw [← HXL.out.1] at o6
  rw [← HXL.out.1]
  clear hX
  go_wp2_with (first
    | (with_reducible refine wpList_alloc_row (o := ⟨some 8, _, _, _, _, _⟩) rfl _ rfl zeros16 zero_b16 ?_; intro w7 r7 s7 g7)
    | ((with_reducible refine wpList_at ⟨none, .store _ (.tmp 8) _, _, _, _, _⟩ ?_); refine wpList_store_all rfl _ _ _ rfl w6.heap.size rfl _ _ r7 (bvs D) rfl (bvs_one _) (b16_zeros _ HDL.out) (b16_size _ HDL.out) ?_; intro w8 r8 g8; have k8 := below_kept (grown_below g7 (Nat.le_refl _) (by simp)) g8 (Nat.le_of_lt s7) (by rintro q hq; cases hq; exact Nat.le_refl _); have o8 := own_below o6 k8; have B8 := B6.trans (k8.mono B6.size)))
  go_loopg [7, 9] 16 (fun g s7 s9 wr => ∃ j : Nat, Hid (j + g = 16) ∧ j ≤ 16 ∧ s9 = .int .i64 (j : Int) ∧ wr.ownsRow w.heap.size 5 1 s7 (X.length + j) (bvs (X ++ D.take j)) ∧ Row wr w6.heap.size 76 (bvs D) ∧ Below w.heap.size w wr)
  case atStart => exact ⟨0, by show _ = _; omega, by omega, rfl, by rw [List.take_zero, List.append_nil]; exact o8, r8, B8⟩
  case round =>
    obtain ⟨j, HJ, hj, rfl, ow, rD, hB⟩ := hrel
    obtain ⟨A7, c7, rfl, hc7, _, _⟩ := own_form ow
    by_cases hlt : j < 16
    · obtain ⟨x, hx⟩ : ∃ x, D[j]? = some x := ⟨_, List.getElem?_eq_getElem (by rw [HDL.out]; exact hlt)⟩
      have HT : Hid (X ++ D.take (j + 1) = (X ++ D.take j) ++ [x]) := Lib.hid (by rw [List.take_add_one, hx, List.append_assoc]; rfl)
      have hcx : wr.cell? ⟨w6.heap.size, j, none⟩ = some (.int .u8 (x.toNat : Int)) := rD.cell (by unfold bvs; rw [List.getElem?_map, hx]; rfl)
      have hxl := HXL.out.2
      clear hx
      go_wp2_with (at_builtin; have bx : Below wr.heap.size wr (wr.alloc (.cells #[bv x] 5)) := (Below.refl _ _).alloc (Nat.le_refl _) _; have owx := own_below ow bx; have rDx := rD.on bx; refine wpList_append_at9 rfl (.tmp 24) (.tmp 28) _ _ rfl w.heap.size 5 i0 _ 1 1 Tryd.underlying42 hi0 hz0 hz1 hz2 rfl _ _ _ rfl owx 1 [bv x] (boxRow9 Tryd.underlying42 _ _ _ 1 rfl (by intro u hu; simp at hu; subst hu; rfl) _) (by unfold maxLen; omega) (by omega) (by have := rDx.lt; have := B8.size; have := hB.size; simp; omega) ?_; intro v9 w9 o9 g9 ob9; have r9 := rDx.kept g9 (rDx.not_row7 (by decide) owx); have B9 := below_kept (hB.trans (bx.mono hB.size)) g9 (Nat.le_trans hB.size bx.size) (by intro q hq; exact (owx.lt q hq).1))
      go_roundg (gk - 1)
      case measure => have := HJ.out; omega
      case rel => exact ⟨j + 1, by have := HJ.out; show _ = _; omega, by omega, by go_num, by rw [HT.out, bvs_append]; exact o9, r9, B9⟩
    · obtain rfl : j = 16 := by omega
      have e1 : R = X ++ D.take 16 := by rw [HE.out, HX.out, List.take_of_length_le (by rw [HDL.out]; exact Nat.le_refl _)]
      have e2 : R.length = X.length + 16 := by rw [e1, List.length_append, List.length_take, HDL.out]; rfl
      have E1 := Lib.hid e1
      have E2 := Lib.hid e2
      clear e1 e2
      go_wp2_with fail
      go_ret
      exact ⟨_, rfl, by rw [E2.out, E1.out]; exact ow, hB⟩
end Go.Proofs.YtfclifolniefpaaDoor
