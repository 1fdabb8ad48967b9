/-
  What the reference's Write returns: a contract by a walk. Condition: at most a million sectors.
-/
import Derived.Test.YtkepmhkakkkliaaFlR
namespace Go.Proofs.Ytkepmhkakkkliaa
open Go.RowKit

set_option maxRecDepth 100000 in
set_option maxHeartbeats 8000000 in
theorem rwrite8_in (X : Nat → Prop) (A : Option Addr) (n c : Nat) (hX : LIn X A n) (fs : List ByteArray) (k : Int) (b : ByteArray) (cut : Int) (w : World) (hok : FlOK w A n c fs) (hn : n ≤ 1000000) :
    Calls Try.prog 27 #[flv A n c, .int .i64 k, .string b, .int .i64 cut] w (GivesLX X (flWrite fs k b cut) (flWErr fs k b) w) := by
  obtain ⟨i0, hi0, hz0, hz1, hz2⟩ := info_parts info_st
  have HOC := Lib.hid (svs_one fs)
  have HLN := Lib.hid hok.len
  have HR := Lib.hid hok.1
  have HSZ := Lib.hid hok.2.2.2
  have hnc := hok.2.1
  have hnm := hok.2.2.1
  unfold GivesLX flv
  have HXI := Lib.hid hX
  clear hX
  clear hok
  by_cases hk0 : k < 0
  · have HE := Lib.hid (flWrite_no (b := b) (flIn_neg (fs := fs) hk0) cut)
    have HO := Lib.hid (flWErr_no (b := b) (flIn_neg (fs := fs) hk0))
    generalize flWrite fs k b cut = E at *
    generalize flWErr fs k b = O at *
    go_enter Try.func27, Try.ntmps27
    go_wp2_with (first
      | (with_reducible refine wpList_box_row (o := ⟨some 4, _, _, _, _, _⟩) rfl _ _ rfl [.slice A n c] rfl ?_; intro w1 r1 s1 g1)
      | (with_reducible refine wpList_alloc_row (o := ⟨some 8, _, _, _, _, _⟩) rfl _ rfl [.slice none 0 0] (by kernel_rfl) ?_; intro w2 r2 s2 g2; have q1 := r1.kept g2 (by simp); have c1 := q1.cell (j := 0) rfl; have b2 := below_kept (grown_below g1 (Nat.le_refl _) (by simp)) g2 (Nat.le_of_lt s1) (by simp))
      | ((with_reducible refine wpList_at ⟨none, .store _ (.tmp 8) _, _, _, _, _⟩ ?_); refine wpList_store_all rfl _ _ _ rfl w1.heap.size rfl _ _ r2 [.slice A n c] rfl (slice_one _ _ _) rfl (by kernel_rfl) ?_; intro w3 r3 g3))
    have hload := run_loadVar_at (P := Try.prog) w3 27 ⟨w1.heap.size, 0, none⟩ [.slice A n c] r3.cells _ Try.underlying27 rfl (by kernel_rfl)
    have b3 := below_kept b2 g3 b2.size (by rintro q hq; cases hq; exact Nat.le_of_lt s1)
    refine bodyPost_ret (results_cellE Try.results27 _ _ _ _ rfl hload) rfl ⟨A, n, c, by rw [HO.out]; rfl, ⟨by rw [HE.out]; exact HR.out.on b3, hnc, hnm, by rw [HE.out]; exact HSZ.out⟩, HXI.out.weak (fun _ h => .inl h), b3⟩
  · by_cases hkn : (n : Int) ≤ k
    · have HE := Lib.hid (flWrite_no (b := b) (flIn_far (fs := fs) (k := k) (by rw [HLN.out]; exact hkn)) cut)
      have HO := Lib.hid (flWErr_no (b := b) (flIn_far (fs := fs) (k := k) (by rw [HLN.out]; exact hkn)))
      generalize flWrite fs k b cut = E at *
      generalize flWErr fs k b = O at *
      go_enter Try.func27, Try.ntmps27
      go_wp2_with (first
        | (with_reducible refine wpList_box_row (o := ⟨some 4, _, _, _, _, _⟩) rfl _ _ rfl [.slice A n c] rfl ?_; intro w1 r1 s1 g1)
        | (with_reducible refine wpList_alloc_row (o := ⟨some 8, _, _, _, _, _⟩) rfl _ rfl [.slice none 0 0] (by kernel_rfl) ?_; intro w2 r2 s2 g2; have q1 := r1.kept g2 (by simp); have c1 := q1.cell (j := 0) rfl; have b2 := below_kept (grown_below g1 (Nat.le_refl _) (by simp)) g2 (Nat.le_of_lt s1) (by simp))
        | ((with_reducible refine wpList_at ⟨none, .store _ (.tmp 8) _, _, _, _, _⟩ ?_); refine wpList_store_all rfl _ _ _ rfl w1.heap.size rfl _ _ r2 [.slice A n c] rfl (slice_one _ _ _) rfl (by kernel_rfl) ?_; intro w3 r3 g3))
      have hload := run_loadVar_at (P := Try.prog) w3 27 ⟨w1.heap.size, 0, none⟩ [.slice A n c] r3.cells _ Try.underlying27 rfl (by kernel_rfl)
      have b3 := below_kept b2 g3 b2.size (by rintro q hq; cases hq; exact Nat.le_of_lt s1)
      refine bodyPost_ret (results_cellE Try.results27 _ _ _ _ rfl hload) rfl ⟨A, n, c, by rw [HO.out]; rfl, ⟨by rw [HE.out]; exact HR.out.on b3, hnc, hnm, by rw [HE.out]; exact HSZ.out⟩, HXI.out.weak (fun _ h => .inl h), b3⟩
    · obtain ⟨i, rfl⟩ : ∃ i : Nat, k = (i : Int) := ⟨k.toNat, by omega⟩
      have hi : i < n := by omega
      have hx := flIn_nat (fs := fs) (j := i) (by rw [HLN.out]; exact hi)
      by_cases h256 : b.size = 256
      · obtain ⟨ad, s, rfl, hlt, hs, hc⟩ := HR.out.str_at hi
        have HE := Lib.hid (flWrite_nat hs h256 cut)
        have HO := Lib.hid (flWErr_yes hx h256)
        have hs9 := HSZ.out s (List.mem_of_getElem? hs)
        have HSM : Hid (∀ x ∈ fs.set i (flW b cut s), x.size ≤ 9223372036854775807) := Lib.hid fun x hx => by
          rcases List.mem_or_eq_of_mem_set hx with hx | rfl
          · exact HSZ.out x hx
          · exact flW_max h256 (by omega) (HSZ.out s (List.mem_of_getElem? hs)) cut
        have HB := Lib.hid h256
        have hb : ((b.size : Int) != 256) = false := by simp; omega
        clear hx hs
        by_cases h0 : cut < 0
        · clear h256
          have HE0 := Lib.hid (flW_whole (b := b) (flWhole_neg h0) s)
          rw [HE0.out] at HE HSM
          generalize flWrite fs i b cut = E at *
          generalize flWErr fs i b = O at *
          go_enter Try.func27, Try.ntmps27
          go_wp2_with (first
            | (with_reducible refine wpList_box_row (o := ⟨some 4, _, _, _, _, _⟩) rfl _ _ rfl [.slice (some ad) n c] rfl ?_; intro w1 r1 s1 g1)
            | (with_reducible refine wpList_alloc_row (o := ⟨some 8, _, _, _, _, _⟩) rfl _ rfl [.slice none 0 0] (by kernel_rfl) ?_; intro w2 r2 s2 g2; have q1 := r1.kept g2 (by simp); have c1 := q1.cell (j := 0) rfl; have b2 := below_kept (grown_below g1 (Nat.le_refl _) (by simp)) g2 (Nat.le_of_lt s1) (by simp); have hc2 := (b2.cell (by rw [block_of_add]; exact hlt)).trans hc; have c3 := (q1.on ((Below.refl w2.heap.size w2).alloc (Nat.le_refl _) (.cells #[] 9))).cell (j := 0) rfl)
            | (at_builtin; refine wpList_append_src _ rfl (.tmp 51) (.tmp 53) _ _ rfl w2.heap.size 9 i0 _ 1 16 Try.underlying25 hi0 hz0 hz1 hz2 rfl _ _ _ rfl (own_empty w2 9 1 w2.heap.size (Nat.le_refl _)) n _ (Src.ofReads _ Try.underlying25 ((HR.out.on b2).alloc (Nat.le_refl _) _) HOC.out) (by unfold maxLen; omega) (by omega) (by simp) ?_; intro v4 w4 hown4 hb4; rw [Nat.zero_add, List.nil_append] at hown4; obtain ⟨A4, c4, rfl, hnc4, hcm4, _⟩ := own_form hown4; obtain ⟨G, cs, rfl, hG, hrow4, hncs, htk⟩ := own_row hown4 (by omega); have HCL2 : Hid (i < cs.length) := Lib.hid (by omega))
            | ((with_reducible refine wpList_at ⟨none, .store _ (.tmp 58) _, _, _, _, _⟩ ?_); refine wpList_store_elem rfl _ _ _ rfl G i rfl _ _ hrow4 (.string b) (by first | rfl | (rw [← HE0.out]; rfl)) rfl HCL2.out (by kernel_rfl) ?_; intro w5 hrow5 g5; have b4 := ((Below.refl w2.heap.size w2).alloc (Nat.le_refl _) _).trans hb4; have r4 := r2.on b4; have r5 := r4.kept g5 (by simp; have := r2.lt; omega))
            | ((with_reducible refine wpList_at ⟨none, .store _ (.tmp 8) _, _, _, _, _⟩ ?_); refine wpList_store_all rfl _ _ _ rfl w1.heap.size rfl _ _ r5 [.slice (some ⟨G, 0, none⟩) n c4] rfl (slice_one _ _ _) rfl (by kernel_rfl) ?_; intro w6 r6 g6))
          have hload := run_loadVar_at (P := Try.prog) w6 27 ⟨w1.heap.size, 0, none⟩ [.slice (some ⟨G, 0, none⟩) n c4] r6.cells _ Try.underlying27 rfl (by kernel_rfl)
          have B4 := b2.trans (b4.mono b2.size)
          have B5 := below_kept B4 g5 B4.size (by rintro q hq; cases hq; have := b2.size; omega)
          have B6 := below_kept B5 g6 B5.size (by rintro q hq; cases hq; exact Nat.le_of_lt s1)
          have hrow6 := hrow5.kept g6 (by simp; have := r2.lt; omega)
          have hR6 := reads_head hrow6 (by rw [List.length_set]; exact hncs) (show (cs.set i (.string b)).take n = svs (fs.set i b) by rw [List.take_set, htk, svs_set])
          refine bodyPost_ret (results_cellE Try.results27 _ _ _ _ rfl hload) rfl ⟨some ⟨G, 0, none⟩, n, c4, by rw [HO.out]; rfl, ⟨by rw [HE.out]; exact hR6, hnc4, hnm, by rw [HE.out]; exact HSM.out⟩, (fun _ ad e => .inr (by cases e; show w.heap.size ≤ G; have := b2.size; omega)), B6⟩
        · by_cases h1 : 256 ≤ cut
          · clear h256
            have HE0 := Lib.hid (flW_whole (b := b) (flWhole_far h1) s)
            rw [HE0.out] at HE HSM
            generalize flWrite fs i b cut = E at *
            generalize flWErr fs i b = O at *
            go_enter Try.func27, Try.ntmps27
            go_wp2_with (first
              | (with_reducible refine wpList_box_row (o := ⟨some 4, _, _, _, _, _⟩) rfl _ _ rfl [.slice (some ad) n c] rfl ?_; intro w1 r1 s1 g1)
              | (with_reducible refine wpList_alloc_row (o := ⟨some 8, _, _, _, _, _⟩) rfl _ rfl [.slice none 0 0] (by kernel_rfl) ?_; intro w2 r2 s2 g2; have q1 := r1.kept g2 (by simp); have c1 := q1.cell (j := 0) rfl; have b2 := below_kept (grown_below g1 (Nat.le_refl _) (by simp)) g2 (Nat.le_of_lt s1) (by simp); have hc2 := (b2.cell (by rw [block_of_add]; exact hlt)).trans hc; have c3 := (q1.on ((Below.refl w2.heap.size w2).alloc (Nat.le_refl _) (.cells #[] 9))).cell (j := 0) rfl)
              | (at_builtin; refine wpList_append_src _ rfl (.tmp 51) (.tmp 53) _ _ rfl w2.heap.size 9 i0 _ 1 16 Try.underlying25 hi0 hz0 hz1 hz2 rfl _ _ _ rfl (own_empty w2 9 1 w2.heap.size (Nat.le_refl _)) n _ (Src.ofReads _ Try.underlying25 ((HR.out.on b2).alloc (Nat.le_refl _) _) HOC.out) (by unfold maxLen; omega) (by omega) (by simp) ?_; intro v4 w4 hown4 hb4; rw [Nat.zero_add, List.nil_append] at hown4; obtain ⟨A4, c4, rfl, hnc4, hcm4, _⟩ := own_form hown4; obtain ⟨G, cs, rfl, hG, hrow4, hncs, htk⟩ := own_row hown4 (by omega); have HCL2 : Hid (i < cs.length) := Lib.hid (by omega))
              | ((with_reducible refine wpList_at ⟨none, .store _ (.tmp 58) _, _, _, _, _⟩ ?_); refine wpList_store_elem rfl _ _ _ rfl G i rfl _ _ hrow4 (.string b) (by first | rfl | (rw [← HE0.out]; rfl)) rfl HCL2.out (by kernel_rfl) ?_; intro w5 hrow5 g5; have b4 := ((Below.refl w2.heap.size w2).alloc (Nat.le_refl _) _).trans hb4; have r4 := r2.on b4; have r5 := r4.kept g5 (by simp; have := r2.lt; omega))
              | ((with_reducible refine wpList_at ⟨none, .store _ (.tmp 8) _, _, _, _, _⟩ ?_); refine wpList_store_all rfl _ _ _ rfl w1.heap.size rfl _ _ r5 [.slice (some ⟨G, 0, none⟩) n c4] rfl (slice_one _ _ _) rfl (by kernel_rfl) ?_; intro w6 r6 g6))
            have hload := run_loadVar_at (P := Try.prog) w6 27 ⟨w1.heap.size, 0, none⟩ [.slice (some ⟨G, 0, none⟩) n c4] r6.cells _ Try.underlying27 rfl (by kernel_rfl)
            have B4 := b2.trans (b4.mono b2.size)
            have B5 := below_kept B4 g5 B4.size (by rintro q hq; cases hq; have := b2.size; omega)
            have B6 := below_kept B5 g6 B5.size (by rintro q hq; cases hq; exact Nat.le_of_lt s1)
            have hrow6 := hrow5.kept g6 (by simp; have := r2.lt; omega)
            have hR6 := reads_head hrow6 (by rw [List.length_set]; exact hncs) (show (cs.set i (.string b)).take n = svs (fs.set i b) by rw [List.take_set, htk, svs_set])
            refine bodyPost_ret (results_cellE Try.results27 _ _ _ _ rfl hload) rfl ⟨some ⟨G, 0, none⟩, n, c4, by rw [HO.out]; rfl, ⟨by rw [HE.out]; exact hR6, hnc4, hnm, by rw [HE.out]; exact HSM.out⟩, (fun _ ad e => .inr (by cases e; show w.heap.size ≤ G; have := b2.size; omega)), B6⟩
          · obtain ⟨j, rfl⟩ : ∃ j : Nat, cut = (j : Int) := ⟨cut.toNat, by omega⟩
            by_cases hj : j < s.size
            · have HJ : Hid (b.extract 0 j ++ s.extract j s.size = flW b j s) := Lib.hid (flW_ref (by omega) hj)
              have hjs : j ≤ s.size := by omega
              have hjb : j ≤ b.size := by omega
              clear h256
              have HE0 := Lib.hid (HJ.out)
              clear HJ
              generalize hF : flW b j s = F at *
              generalize flWrite fs i b j = E at *
              generalize flWErr fs i b = O at *
              clear hF
              go_enter Try.func27, Try.ntmps27
              go_wp2_with (first
                | (with_reducible refine wpList_box_row (o := ⟨some 4, _, _, _, _, _⟩) rfl _ _ rfl [.slice (some ad) n c] rfl ?_; intro w1 r1 s1 g1)
                | (with_reducible refine wpList_alloc_row (o := ⟨some 8, _, _, _, _, _⟩) rfl _ rfl [.slice none 0 0] (by kernel_rfl) ?_; intro w2 r2 s2 g2; have q1 := r1.kept g2 (by simp); have c1 := q1.cell (j := 0) rfl; have b2 := below_kept (grown_below g1 (Nat.le_refl _) (by simp)) g2 (Nat.le_of_lt s1) (by simp); have hc2 := (b2.cell (by rw [block_of_add]; exact hlt)).trans hc; have c3 := (q1.on ((Below.refl w2.heap.size w2).alloc (Nat.le_refl _) (.cells #[] 9))).cell (j := 0) rfl)
                | (at_builtin; refine wpList_append_src _ rfl (.tmp 51) (.tmp 53) _ _ rfl w2.heap.size 9 i0 _ 1 16 Try.underlying25 hi0 hz0 hz1 hz2 rfl _ _ _ rfl (own_empty w2 9 1 w2.heap.size (Nat.le_refl _)) n _ (Src.ofReads _ Try.underlying25 ((HR.out.on b2).alloc (Nat.le_refl _) _) HOC.out) (by unfold maxLen; omega) (by omega) (by simp) ?_; intro v4 w4 hown4 hb4; rw [Nat.zero_add, List.nil_append] at hown4; obtain ⟨A4, c4, rfl, hnc4, hcm4, _⟩ := own_form hown4; obtain ⟨G, cs, rfl, hG, hrow4, hncs, htk⟩ := own_row hown4 (by omega); have HCL2 : Hid (i < cs.length) := Lib.hid (by omega))
                | ((with_reducible refine wpList_at ⟨none, .store _ (.tmp 58) _, _, _, _, _⟩ ?_); refine wpList_store_elem rfl _ _ _ rfl G i rfl _ _ hrow4 (.string F) (by first | rfl | (rw [← HE0.out]; rfl)) rfl HCL2.out (by kernel_rfl) ?_; intro w5 hrow5 g5; have b4 := ((Below.refl w2.heap.size w2).alloc (Nat.le_refl _) _).trans hb4; have r4 := r2.on b4; have r5 := r4.kept g5 (by simp; have := r2.lt; omega))
                | ((with_reducible refine wpList_at ⟨none, .store _ (.tmp 8) _, _, _, _, _⟩ ?_); refine wpList_store_all rfl _ _ _ rfl w1.heap.size rfl _ _ r5 [.slice (some ⟨G, 0, none⟩) n c4] rfl (slice_one _ _ _) rfl (by kernel_rfl) ?_; intro w6 r6 g6))
              have hload := run_loadVar_at (P := Try.prog) w6 27 ⟨w1.heap.size, 0, none⟩ [.slice (some ⟨G, 0, none⟩) n c4] r6.cells _ Try.underlying27 rfl (by kernel_rfl)
              have B4 := b2.trans (b4.mono b2.size)
              have B5 := below_kept B4 g5 B4.size (by rintro q hq; cases hq; have := b2.size; omega)
              have B6 := below_kept B5 g6 B5.size (by rintro q hq; cases hq; exact Nat.le_of_lt s1)
              have hrow6 := hrow5.kept g6 (by simp; have := r2.lt; omega)
              have hR6 := reads_head hrow6 (by rw [List.length_set]; exact hncs) (show (cs.set i (.string F)).take n = svs (fs.set i F) by rw [List.take_set, htk, svs_set])
              refine bodyPost_ret (results_cellE Try.results27 _ _ _ _ rfl hload) rfl ⟨some ⟨G, 0, none⟩, n, c4, by rw [HO.out]; rfl, ⟨by rw [HE.out]; exact hR6, hnc4, hnm, by rw [HE.out]; exact HSM.out⟩, (fun _ ad e => .inr (by cases e; show w.heap.size ≤ G; have := b2.size; omega)), B6⟩
            · have HJ : Hid (b.extract 0 j = flW b j s) := Lib.hid (flW_ref0 (by omega) (by omega))
              have hjb : j ≤ b.size := by omega
              clear h256
              have HE0 := Lib.hid (HJ.out)
              clear HJ
              generalize hF : flW b j s = F at *
              generalize flWrite fs i b j = E at *
              generalize flWErr fs i b = O at *
              clear hF
              go_enter Try.func27, Try.ntmps27
              go_wp2_with (first
                | (with_reducible refine wpList_box_row (o := ⟨some 4, _, _, _, _, _⟩) rfl _ _ rfl [.slice (some ad) n c] rfl ?_; intro w1 r1 s1 g1)
                | (with_reducible refine wpList_alloc_row (o := ⟨some 8, _, _, _, _, _⟩) rfl _ rfl [.slice none 0 0] (by kernel_rfl) ?_; intro w2 r2 s2 g2; have q1 := r1.kept g2 (by simp); have c1 := q1.cell (j := 0) rfl; have b2 := below_kept (grown_below g1 (Nat.le_refl _) (by simp)) g2 (Nat.le_of_lt s1) (by simp); have hc2 := (b2.cell (by rw [block_of_add]; exact hlt)).trans hc; have c3 := (q1.on ((Below.refl w2.heap.size w2).alloc (Nat.le_refl _) (.cells #[] 9))).cell (j := 0) rfl)
                | (at_builtin; refine wpList_append_src _ rfl (.tmp 51) (.tmp 53) _ _ rfl w2.heap.size 9 i0 _ 1 16 Try.underlying25 hi0 hz0 hz1 hz2 rfl _ _ _ rfl (own_empty w2 9 1 w2.heap.size (Nat.le_refl _)) n _ (Src.ofReads _ Try.underlying25 ((HR.out.on b2).alloc (Nat.le_refl _) _) HOC.out) (by unfold maxLen; omega) (by omega) (by simp) ?_; intro v4 w4 hown4 hb4; rw [Nat.zero_add, List.nil_append] at hown4; obtain ⟨A4, c4, rfl, hnc4, hcm4, _⟩ := own_form hown4; obtain ⟨G, cs, rfl, hG, hrow4, hncs, htk⟩ := own_row hown4 (by omega); have HCL2 : Hid (i < cs.length) := Lib.hid (by omega))
                | ((with_reducible refine wpList_at ⟨none, .store _ (.tmp 58) _, _, _, _, _⟩ ?_); refine wpList_store_elem rfl _ _ _ rfl G i rfl _ _ hrow4 (.string F) (by first | rfl | (rw [← HE0.out]; rfl)) rfl HCL2.out (by kernel_rfl) ?_; intro w5 hrow5 g5; have b4 := ((Below.refl w2.heap.size w2).alloc (Nat.le_refl _) _).trans hb4; have r4 := r2.on b4; have r5 := r4.kept g5 (by simp; have := r2.lt; omega))
                | ((with_reducible refine wpList_at ⟨none, .store _ (.tmp 8) _, _, _, _, _⟩ ?_); refine wpList_store_all rfl _ _ _ rfl w1.heap.size rfl _ _ r5 [.slice (some ⟨G, 0, none⟩) n c4] rfl (slice_one _ _ _) rfl (by kernel_rfl) ?_; intro w6 r6 g6))
              have hload := run_loadVar_at (P := Try.prog) w6 27 ⟨w1.heap.size, 0, none⟩ [.slice (some ⟨G, 0, none⟩) n c4] r6.cells _ Try.underlying27 rfl (by kernel_rfl)
              have B4 := b2.trans (b4.mono b2.size)
              have B5 := below_kept B4 g5 B4.size (by rintro q hq; cases hq; have := b2.size; omega)
              have B6 := below_kept B5 g6 B5.size (by rintro q hq; cases hq; exact Nat.le_of_lt s1)
              have hrow6 := hrow5.kept g6 (by simp; have := r2.lt; omega)
              have hR6 := reads_head hrow6 (by rw [List.length_set]; exact hncs) (show (cs.set i (.string F)).take n = svs (fs.set i F) by rw [List.take_set, htk, svs_set])
              refine bodyPost_ret (results_cellE Try.results27 _ _ _ _ rfl hload) rfl ⟨some ⟨G, 0, none⟩, n, c4, by rw [HO.out]; rfl, ⟨by rw [HE.out]; exact hR6, hnc4, hnm, by rw [HE.out]; exact HSM.out⟩, (fun _ ad e => .inr (by cases e; show w.heap.size ≤ G; have := b2.size; omega)), B6⟩
      · have HE := Lib.hid (flWrite_len (fs := fs) (k := (i : Int)) h256 cut)
        have HO := Lib.hid (flWErr_len hx h256)
        have hb : ((b.size : Int) != 256) = true := by simp; omega
        clear h256 hx
        generalize flWrite fs i b cut = E at *
        generalize flWErr fs i b = O at *
        go_enter Try.func27, Try.ntmps27
        go_wp2_with (first
          | (with_reducible refine wpList_box_row (o := ⟨some 4, _, _, _, _, _⟩) rfl _ _ rfl [.slice A n c] rfl ?_; intro w1 r1 s1 g1)
          | (with_reducible refine wpList_alloc_row (o := ⟨some 8, _, _, _, _, _⟩) rfl _ rfl [.slice none 0 0] (by kernel_rfl) ?_; intro w2 r2 s2 g2; have q1 := r1.kept g2 (by simp); have c1 := q1.cell (j := 0) rfl; have b2 := below_kept (grown_below g1 (Nat.le_refl _) (by simp)) g2 (Nat.le_of_lt s1) (by simp))
          | ((with_reducible refine wpList_at ⟨none, .store _ (.tmp 8) _, _, _, _, _⟩ ?_); refine wpList_store_all rfl _ _ _ rfl w1.heap.size rfl _ _ r2 [.slice A n c] rfl (slice_one _ _ _) rfl (by kernel_rfl) ?_; intro w3 r3 g3))
        have hload := run_loadVar_at (P := Try.prog) w3 27 ⟨w1.heap.size, 0, none⟩ [.slice A n c] r3.cells _ Try.underlying27 rfl (by kernel_rfl)
        have b3 := below_kept b2 g3 b2.size (by rintro q hq; cases hq; exact Nat.le_of_lt s1)
        refine bodyPost_ret (results_cellE Try.results27 _ _ _ _ rfl hload) rfl ⟨A, n, c, by rw [HO.out]; rfl, ⟨by rw [HE.out]; exact HR.out.on b3, hnc, hnm, by rw [HE.out]; exact HSZ.out⟩, HXI.out.weak (fun _ h => .inl h), b3⟩
theorem rwrite8_any (A : Option Addr) (n c : Nat) (fs : List ByteArray) (k : Int) (b : ByteArray) (cut : Int) (w : World) (hok : FlOK w A n c fs) (hn : n ≤ 1000000) :
    Calls Try.prog 27 #[flv A n c, .int .i64 k, .string b, .int .i64 cut] w (GivesLE (flWrite fs k b cut) (flWErr fs k b) w) := by
  refine (rwrite8_in (fun _ => True) A n c (fun _ _ _ => trivial) fs k b cut w hok hn).mono ?_
  rintro e w' ⟨A', n', c', rfl, ho, _, hB⟩
  exact ⟨A', n', c', rfl, ho, hB⟩
end Go.Proofs.Ytkepmhkakkkliaa
