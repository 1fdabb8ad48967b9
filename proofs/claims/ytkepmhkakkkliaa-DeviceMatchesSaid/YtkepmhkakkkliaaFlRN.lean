/-
  What the reference's New returns: a contract by a walk. No condition.
-/
import Derived.Test.YtkepmhkakkkliaaFlRW
import Derived.Test.YtkepmhkakkkliaaFlN
namespace Go.Proofs.Ytkepmhkakkkliaa
open Go.RowKit

theorem own_ne_lt {w : World} {base n g size : Nat} {e : TypeId} {v : Value} {xs : List Value} (h : w.ownsRow base e size v n xs) (hlt : g < base) : some g ≠ v.ownBlock := by
  intro e
  have := (h.lt g e.symm).1
  omega
theorem rep_snoc (s : ByteArray) (i : Nat) : svs (List.replicate (i + 1) s) = svs (List.replicate i s) ++ [.string s] := by
  unfold svs
  rw [List.replicate_succ', List.map_append]
  rfl

set_option maxRecDepth 100000 in
set_option maxHeartbeats 8000000 in
theorem rnew8_in (k : Int) (w : World) : Calls Try.prog 31 #[.int .i64 k] w (GivesLX (fun _ => False) (flNew k) (flNewE k) w) := by
  unfold GivesLX flv
  by_cases h0 : k < 0
  · have hno : flNewOk k = false := by unfold flNewOk; rw [decide_eq_false (by omega)]; rfl
    have HE := Lib.hid (flNew_no (n := k) (hno)).1
    have HO := Lib.hid (flNew_no (n := k) (hno)).2
    clear hno
    generalize flNew k = E at *
    generalize flNewE k = O at *
    go_enter Try.func31, Try.ntmps31
    go_wp2_with (first
      | (with_reducible refine wpList_alloc_row (o := ⟨some 2, _, _, _, _, _⟩) rfl _ rfl [.slice none 0 0] (by kernel_rfl) ?_; intro w1 r1 s1 g1)
      | ((with_reducible refine wpList_at ⟨none, .store _ (.tmp 2) _, _, _, _, _⟩ ?_); refine wpList_store_all rfl _ _ _ rfl w.heap.size rfl _ _ r1 [.slice none 0 0] rfl (slice_one _ _ _) rfl (by kernel_rfl) ?_; intro w6 r6 g6))
    have hload := run_loadVar_at (P := Try.prog) w6 27 ⟨w.heap.size, 0, none⟩ [.slice none 0 0] r6.cells _ Try.underlying27 rfl (by kernel_rfl)
    refine bodyPost_ret (results_cellE Try.results31 _ _ _ _ rfl hload) rfl ⟨none, 0, 0, by rw [HO.out]; rfl, ⟨by rw [HE.out]; exact Reads.nil_, Nat.le_refl _, Nat.zero_le _, by rw [HE.out]; intro s hs; cases hs⟩, LIn.nil_, below_kept (grown_below g1 (Nat.le_refl _) (by simp)) g6 (Nat.le_of_lt s1) (by rintro q hq; cases hq; exact Nat.le_refl _)⟩
  · by_cases h1 : 128 < k
    · have hno : flNewOk k = false := by unfold flNewOk; rw [decide_eq_false (p := k ≤ 128) (by omega), Bool.and_false]
      have HE := Lib.hid (flNew_no (n := k) (hno)).1
      have HO := Lib.hid (flNew_no (n := k) (hno)).2
      clear hno
      generalize flNew k = E at *
      generalize flNewE k = O at *
      go_enter Try.func31, Try.ntmps31
      go_wp2_with (first
        | (with_reducible refine wpList_alloc_row (o := ⟨some 2, _, _, _, _, _⟩) rfl _ rfl [.slice none 0 0] (by kernel_rfl) ?_; intro w1 r1 s1 g1)
        | ((with_reducible refine wpList_at ⟨none, .store _ (.tmp 2) _, _, _, _, _⟩ ?_); refine wpList_store_all rfl _ _ _ rfl w.heap.size rfl _ _ r1 [.slice none 0 0] rfl (slice_one _ _ _) rfl (by kernel_rfl) ?_; intro w6 r6 g6))
      have hload := run_loadVar_at (P := Try.prog) w6 27 ⟨w.heap.size, 0, none⟩ [.slice none 0 0] r6.cells _ Try.underlying27 rfl (by kernel_rfl)
      refine bodyPost_ret (results_cellE Try.results31 _ _ _ _ rfl hload) rfl ⟨none, 0, 0, by rw [HO.out]; rfl, ⟨by rw [HE.out]; exact Reads.nil_, Nat.le_refl _, Nat.zero_le _, by rw [HE.out]; intro s hs; cases hs⟩, LIn.nil_, below_kept (grown_below g1 (Nat.le_refl _) (by simp)) g6 (Nat.le_of_lt s1) (by rintro q hq; cases hq; exact Nat.le_refl _)⟩
    · obtain ⟨n, rfl⟩ : ∃ n : Nat, k = (n : Int) := ⟨k.toNat, by omega⟩
      have hn : n ≤ 128 := by omega
      obtain ⟨i0, hi0, hz0, hz1, hz2⟩ := info_parts info_st
      have HE := Lib.hid (flNew_nat hn).1
      have HO := Lib.hid (flNew_nat hn).2
      have HZU : Hid (List.replicate 256 (Value.int .u8 0) = bvs (List.replicate 256 0)) := Lib.hid (by unfold bvs; rw [List.map_replicate]; rfl)
      have HSM : Hid (∀ s ∈ List.replicate n (fullS 0), s.size ≤ 9223372036854775807) := Lib.hid fun s hs => by
        rw [List.eq_of_mem_replicate hs, fullS_size]; omega
      generalize flNew n = E at *
      generalize flNewE n = O at *
      go_enter Try.func31, Try.ntmps31
      go_wp2_with (first
        | (with_reducible refine wpList_alloc_row (o := ⟨some 2, _, _, _, _, _⟩) rfl _ rfl [.slice none 0 0] (by kernel_rfl) ?_; intro w1 r1 s1 g1)
        | (with_reducible refine wpList_alloc_row (o := ⟨some 4, _, _, _, _, _⟩) rfl _ rfl [.slice none 0 0] (by kernel_rfl) ?_; intro w2 r2 s2 g2)
        | ((with_reducible refine wpList_at ⟨none, .store _ (.tmp 4) _, _, _, _, _⟩ ?_); refine wpList_store_all rfl _ _ _ rfl w1.heap.size rfl _ _ r2 [.slice none 0 0] rfl (slice_one _ _ _) rfl (by kernel_rfl) ?_; intro w3 r3 g3; have q2 := r1.kept g2 (by simp); have q3 := q2.kept g3 (by simp; have := r1.lt; omega); have b1 := grown_below g1 (Nat.le_refl _) (by simp); have b2 := below_kept b1 g2 b1.size (by simp); have b3 := below_kept b2 g3 b2.size (by rintro q hq; cases hq; exact Nat.le_of_lt s1)))
      have hs3 := g3.size
      clear g1 g2 g3 r1 r2 q2
      go_loopg [5] n (fun g s5 wr => ∃ (i : Nat) (v : Value), Hid (i + g = n) ∧ i ≤ n ∧ s5 = .int .i64 (i : Int) ∧ Row wr w.heap.size 27 [.slice none 0 0] ∧ Row wr w1.heap.size 27 [v] ∧ wr.ownsRow w2.heap.size 9 1 v i (svs (List.replicate i (fullS 0))) ∧ Below w.heap.size w wr ∧ w2.heap.size ≤ wr.heap.size)
      case atStart => exact ⟨0, .slice none 0 0, by show _ = _; omega, by omega, rfl, q3, r3, World.ownsRow_nil _ _ _ _, b3, hs3⟩
      case round =>
        obtain ⟨i, v, HI, hi, rfl, e1, e2, ev, hB, hsz⟩ := hrel
        have HRS := Lib.hid (rep_snoc (fullS 0) i)
        by_cases hlt : i < n
        · go_wp2_with fail
          refine wp_region_plan (fun _ => True) (.take 0 <| .two 1 (.one 2 <| .one 3 <| .one 4 <| .one 5 <| .take 6 <| .one 7 <| .done) 2 (.two 1 (.one 3 <| .one 4 <| .one 5 <| .take 6 <| .one 7 <| .done) 3 (.two 1 (.one 4 <| .one 5 <| .take 6 <| .one 7 <| .done) 4 (.one 1 <| .one 5 <| .take 6 <| .one 7 <| .done)))) (by kernel_rfl) (by kernel_rfl) (by kernel_rfl) (fun _ _ _ _ _ h => h) trivial ?_
          repeat (refine plan_take _ rfl ?_; (go_big_quiet_step ((intros; rfl)); refine wpQuiet_nil ?_))
          refine plan_two ?_ ?_
          · refine step_at _ rfl fun K hK => ?_
            refine step_valueG (o := ⟨some 20, _, _, _, _, _⟩) rfl _ _ (by exact exec_load1 _ 25 _ rfl ⟨w1.heap.size, 0, none⟩ rfl _ (e2.drew.cell (j := 0) rfl) _ Try.underlying25 rfl) ?_
            refine hK _ _ trivial ?_
            clear hK K
            simp only [Act.put, List.setIfInBounds_toArray, List.set_cons_zero, List.set_cons_succ]
            refine plan_one _ rfl fun K hK => ?_
            refine step_make_row rfl _ _ _ rfl 5 Try.underlying56 (.int .u8 0) rfl 1 (by kernel_rfl) .i64 .i64 256 256 rfl rfl (Nat.le_refl _) (by omega) (by omega) ?_
            intro wu1 ru1 su1 gu1
            have hu1 := grown_below gu1 (Nat.le_refl _) (by simp)
            rw [HZU.out] at ru1
            have rdu1 := ru1.reads (size := 1) (n := 256) (by rw [bvs_length, List.length_replicate])
            have e1u1 := e1.drew.on hu1
            have e2u1 := e2.drew.on hu1
            have evu1 := own_below (w := wr.drew) ev hu1
            have Bu1 := hB.drew.trans (hu1.mono hB.drew.size)
            have szu1 := Nat.le_trans hsz hu1.size
            refine hK _ _ trivial ?_
            clear hK K
            simp only [Act.put, List.setIfInBounds_toArray, List.set_cons_zero, List.set_cons_succ]
            refine plan_one _ rfl fun K hK => ?_
            refine step_valueG (o := ⟨some 22, _, _, _, _, _⟩) rfl _ _ (by exact exec_string_of _ 56 9 5 _ rfl Try.underlying56 Try.underlying5 Try.underlying9 rfl rdu1) ?_
            refine hK _ _ trivial ?_
            clear hK K
            simp only [Act.put, List.setIfInBounds_toArray, List.set_cons_zero, List.set_cons_succ]
            refine plan_one _ rfl fun K hK => ?_
            go_simp
            have hu2 : Below wu1.heap.size wu1 (wu1.alloc (.cells #[.string (fullS 0)] 9)) := (Below.refl _ _).alloc (Nat.le_refl _) _
            have e1u2 := e1u1.on hu2
            have e2u2 := e2u1.on hu2
            have evu2 := own_below (w := wu1) evu1 hu2
            have Bu2 := Bu1.trans (hu2.mono Bu1.size)
            have szu2 := Nat.le_trans szu1 hu2.size
            refine hK _ _ trivial ?_
            clear hK K
            refine plan_one _ rfl fun K hK => ?_
            refine step_append_src rfl (.tmp 20) (.tmp 23) _ _ rfl w2.heap.size 9 i0 _ 1 16 Try.underlying25 hi0 hz0 hz1 hz2 rfl _ _ _ rfl evu2 1 _ (Src.box Try.underlying25 wu1 (.string (fullS 0)) 9 rfl 1) (by unfold maxLen; omega) (by omega) szu2 ?_
            intro vu3 wu3 evu3 ku3 hu3
            have e1u3 := e1u2.kept ku3 (own_ne_lt evu2 (by omega))
            have e2u3 := e2u2.kept ku3 (own_ne_lt evu2 (by omega))
            have Bu3 := Bu2.trans (hu3.mono b2.size)
            have szu3 := Nat.le_trans szu2 hu3.size
            refine hK _ _ trivial ?_
            clear hK K
            simp only [Act.put, List.setIfInBounds_toArray, List.set_cons_zero, List.set_cons_succ]
            repeat (refine plan_take _ rfl ?_; (go_big_quiet_step ((intros; rfl)); refine wpQuiet_nil ?_))
            refine plan_one _ rfl fun K hK => ?_
            obtain ⟨Avu4, cvu4, rfl, _, _, _⟩ := own_form evu3
            refine step_store_elem rfl _ _ _ rfl w1.heap.size 0 rfl _ _ e2u3 (.slice Avu4 (i + 1) cvu4) rfl rfl (by simp) (by kernel_rfl) ?_
            intro wu4 fu4 gu4
            have e1u4 := e1u3.kept gu4 (by simp; omega)
            have e2u4 : Row wu4 w1.heap.size 27 [.slice Avu4 (i + 1) cvu4] := fu4
            have evu4 := own_kept_lt evu3 gu4 (by omega)
            have Bu4 := below_kept Bu3 gu4 Bu3.size (by rintro z hz; cases hz; omega)
            have szu4 := Nat.le_trans szu3 gu4.size
            refine hK _ _ trivial ?_
            clear hK K
            refine plan_done ?_
            go_wp2_with fail
            go_roundg (gk - 1)
            case measure => have := HI.out; omega
            case rel =>
              exact ⟨i + 1, _, by have := HI.out; show _ = _; omega, by omega, by go_num, e1u4, e2u4, by rw [HRS.out]; exact evu4, Bu4, szu4⟩
          · refine step_at _ rfl fun K hK => ?_
            refine step_make_row rfl _ _ _ rfl 5 Try.underlying56 (.int .u8 0) rfl 1 (by kernel_rfl) .i64 .i64 256 256 rfl rfl (Nat.le_refl _) (by omega) (by omega) ?_
            intro wu5 ru5 su5 gu5
            have hu5 := grown_below gu5 (Nat.le_refl _) (by simp)
            rw [HZU.out] at ru5
            have rdu5 := ru5.reads (size := 1) (n := 256) (by rw [bvs_length, List.length_replicate])
            have e1u5 := e1.drew.on hu5
            have e2u5 := e2.drew.on hu5
            have evu5 := own_below (w := wr.drew) ev hu5
            have Bu5 := hB.drew.trans (hu5.mono hB.drew.size)
            have szu5 := Nat.le_trans hsz hu5.size
            refine hK _ _ trivial ?_
            clear hK K
            simp only [Act.put, List.setIfInBounds_toArray, List.set_cons_zero, List.set_cons_succ]
            refine plan_two ?_ ?_
            · refine step_at _ rfl fun K hK => ?_
              refine step_valueG (o := ⟨some 20, _, _, _, _, _⟩) rfl _ _ (by exact exec_load1 _ 25 _ rfl ⟨w1.heap.size, 0, none⟩ rfl _ (e2u5.cell (j := 0) rfl) _ Try.underlying25 rfl) ?_
              refine hK _ _ trivial ?_
              clear hK K
              simp only [Act.put, List.setIfInBounds_toArray, List.set_cons_zero, List.set_cons_succ]
              refine plan_one _ rfl fun K hK => ?_
              refine step_valueG (o := ⟨some 22, _, _, _, _, _⟩) rfl _ _ (by exact exec_string_of _ 56 9 5 _ rfl Try.underlying56 Try.underlying5 Try.underlying9 rfl rdu5) ?_
              refine hK _ _ trivial ?_
              clear hK K
              simp only [Act.put, List.setIfInBounds_toArray, List.set_cons_zero, List.set_cons_succ]
              refine plan_one _ rfl fun K hK => ?_
              go_simp
              have hu6 : Below wu5.heap.size wu5 (wu5.alloc (.cells #[.string (fullS 0)] 9)) := (Below.refl _ _).alloc (Nat.le_refl _) _
              have e1u6 := e1u5.on hu6
              have e2u6 := e2u5.on hu6
              have evu6 := own_below (w := wu5) evu5 hu6
              have Bu6 := Bu5.trans (hu6.mono Bu5.size)
              have szu6 := Nat.le_trans szu5 hu6.size
              refine hK _ _ trivial ?_
              clear hK K
              refine plan_one _ rfl fun K hK => ?_
              refine step_append_src rfl (.tmp 20) (.tmp 23) _ _ rfl w2.heap.size 9 i0 _ 1 16 Try.underlying25 hi0 hz0 hz1 hz2 rfl _ _ _ rfl evu6 1 _ (Src.box Try.underlying25 wu5 (.string (fullS 0)) 9 rfl 1) (by unfold maxLen; omega) (by omega) szu6 ?_
              intro vu7 wu7 evu7 ku7 hu7
              have e1u7 := e1u6.kept ku7 (own_ne_lt evu6 (by omega))
              have e2u7 := e2u6.kept ku7 (own_ne_lt evu6 (by omega))
              have Bu7 := Bu6.trans (hu7.mono b2.size)
              have szu7 := Nat.le_trans szu6 hu7.size
              refine hK _ _ trivial ?_
              clear hK K
              simp only [Act.put, List.setIfInBounds_toArray, List.set_cons_zero, List.set_cons_succ]
              repeat (refine plan_take _ rfl ?_; (go_big_quiet_step ((intros; rfl)); refine wpQuiet_nil ?_))
              refine plan_one _ rfl fun K hK => ?_
              obtain ⟨Avu8, cvu8, rfl, _, _, _⟩ := own_form evu7
              refine step_store_elem rfl _ _ _ rfl w1.heap.size 0 rfl _ _ e2u7 (.slice Avu8 (i + 1) cvu8) rfl rfl (by simp) (by kernel_rfl) ?_
              intro wu8 fu8 gu8
              have e1u8 := e1u7.kept gu8 (by simp; omega)
              have e2u8 : Row wu8 w1.heap.size 27 [.slice Avu8 (i + 1) cvu8] := fu8
              have evu8 := own_kept_lt evu7 gu8 (by omega)
              have Bu8 := below_kept Bu7 gu8 Bu7.size (by rintro z hz; cases hz; omega)
              have szu8 := Nat.le_trans szu7 gu8.size
              refine hK _ _ trivial ?_
              clear hK K
              refine plan_done ?_
              go_wp2_with fail
              go_roundg (gk - 1)
              case measure => have := HI.out; omega
              case rel =>
                exact ⟨i + 1, _, by have := HI.out; show _ = _; omega, by omega, by go_num, e1u8, e2u8, by rw [HRS.out]; exact evu8, Bu8, szu8⟩
            · refine step_at _ rfl fun K hK => ?_
              refine step_valueG (o := ⟨some 22, _, _, _, _, _⟩) rfl _ _ (by exact exec_string_of _ 56 9 5 _ rfl Try.underlying56 Try.underlying5 Try.underlying9 rfl rdu5) ?_
              refine hK _ _ trivial ?_
              clear hK K
              simp only [Act.put, List.setIfInBounds_toArray, List.set_cons_zero, List.set_cons_succ]
              refine plan_two ?_ ?_
              · refine step_at _ rfl fun K hK => ?_
                refine step_valueG (o := ⟨some 20, _, _, _, _, _⟩) rfl _ _ (by exact exec_load1 _ 25 _ rfl ⟨w1.heap.size, 0, none⟩ rfl _ (e2u5.cell (j := 0) rfl) _ Try.underlying25 rfl) ?_
                refine hK _ _ trivial ?_
                clear hK K
                simp only [Act.put, List.setIfInBounds_toArray, List.set_cons_zero, List.set_cons_succ]
                refine plan_one _ rfl fun K hK => ?_
                go_simp
                have hu9 : Below wu5.heap.size wu5 (wu5.alloc (.cells #[.string (fullS 0)] 9)) := (Below.refl _ _).alloc (Nat.le_refl _) _
                have e1u9 := e1u5.on hu9
                have e2u9 := e2u5.on hu9
                have evu9 := own_below (w := wu5) evu5 hu9
                have Bu9 := Bu5.trans (hu9.mono Bu5.size)
                have szu9 := Nat.le_trans szu5 hu9.size
                refine hK _ _ trivial ?_
                clear hK K
                refine plan_one _ rfl fun K hK => ?_
                refine step_append_src rfl (.tmp 20) (.tmp 23) _ _ rfl w2.heap.size 9 i0 _ 1 16 Try.underlying25 hi0 hz0 hz1 hz2 rfl _ _ _ rfl evu9 1 _ (Src.box Try.underlying25 wu5 (.string (fullS 0)) 9 rfl 1) (by unfold maxLen; omega) (by omega) szu9 ?_
                intro vu10 wu10 evu10 ku10 hu10
                have e1u10 := e1u9.kept ku10 (own_ne_lt evu9 (by omega))
                have e2u10 := e2u9.kept ku10 (own_ne_lt evu9 (by omega))
                have Bu10 := Bu9.trans (hu10.mono b2.size)
                have szu10 := Nat.le_trans szu9 hu10.size
                refine hK _ _ trivial ?_
                clear hK K
                simp only [Act.put, List.setIfInBounds_toArray, List.set_cons_zero, List.set_cons_succ]
                repeat (refine plan_take _ rfl ?_; (go_big_quiet_step ((intros; rfl)); refine wpQuiet_nil ?_))
                refine plan_one _ rfl fun K hK => ?_
                obtain ⟨Avu11, cvu11, rfl, _, _, _⟩ := own_form evu10
                refine step_store_elem rfl _ _ _ rfl w1.heap.size 0 rfl _ _ e2u10 (.slice Avu11 (i + 1) cvu11) rfl rfl (by simp) (by kernel_rfl) ?_
                intro wu11 fu11 gu11
                have e1u11 := e1u10.kept gu11 (by simp; omega)
                have e2u11 : Row wu11 w1.heap.size 27 [.slice Avu11 (i + 1) cvu11] := fu11
                have evu11 := own_kept_lt evu10 gu11 (by omega)
                have Bu11 := below_kept Bu10 gu11 Bu10.size (by rintro z hz; cases hz; omega)
                have szu11 := Nat.le_trans szu10 gu11.size
                refine hK _ _ trivial ?_
                clear hK K
                refine plan_done ?_
                go_wp2_with fail
                go_roundg (gk - 1)
                case measure => have := HI.out; omega
                case rel =>
                  exact ⟨i + 1, _, by have := HI.out; show _ = _; omega, by omega, by go_num, e1u11, e2u11, by rw [HRS.out]; exact evu11, Bu11, szu11⟩
              · refine step_at _ rfl fun K hK => ?_
                go_simp
                have hu12 : Below wu5.heap.size wu5 (wu5.alloc (.cells #[.string (fullS 0)] 9)) := (Below.refl _ _).alloc (Nat.le_refl _) _
                have e1u12 := e1u5.on hu12
                have e2u12 := e2u5.on hu12
                have evu12 := own_below (w := wu5) evu5 hu12
                have Bu12 := Bu5.trans (hu12.mono Bu5.size)
                have szu12 := Nat.le_trans szu5 hu12.size
                refine hK _ _ trivial ?_
                clear hK K
                refine plan_one _ rfl fun K hK => ?_
                refine step_valueG (o := ⟨some 20, _, _, _, _, _⟩) rfl _ _ (by exact exec_load1 _ 25 _ rfl ⟨w1.heap.size, 0, none⟩ rfl _ (e2u12.cell (j := 0) rfl) _ Try.underlying25 rfl) ?_
                refine hK _ _ trivial ?_
                clear hK K
                simp only [Act.put, List.setIfInBounds_toArray, List.set_cons_zero, List.set_cons_succ]
                refine plan_one _ rfl fun K hK => ?_
                refine step_append_src rfl (.tmp 20) (.tmp 23) _ _ rfl w2.heap.size 9 i0 _ 1 16 Try.underlying25 hi0 hz0 hz1 hz2 rfl _ _ _ rfl evu12 1 _ (Src.box Try.underlying25 wu5 (.string (fullS 0)) 9 rfl 1) (by unfold maxLen; omega) (by omega) szu12 ?_
                intro vu13 wu13 evu13 ku13 hu13
                have e1u13 := e1u12.kept ku13 (own_ne_lt evu12 (by omega))
                have e2u13 := e2u12.kept ku13 (own_ne_lt evu12 (by omega))
                have Bu13 := Bu12.trans (hu13.mono b2.size)
                have szu13 := Nat.le_trans szu12 hu13.size
                refine hK _ _ trivial ?_
                clear hK K
                simp only [Act.put, List.setIfInBounds_toArray, List.set_cons_zero, List.set_cons_succ]
                repeat (refine plan_take _ rfl ?_; (go_big_quiet_step ((intros; rfl)); refine wpQuiet_nil ?_))
                refine plan_one _ rfl fun K hK => ?_
                obtain ⟨Avu14, cvu14, rfl, _, _, _⟩ := own_form evu13
                refine step_store_elem rfl _ _ _ rfl w1.heap.size 0 rfl _ _ e2u13 (.slice Avu14 (i + 1) cvu14) rfl rfl (by simp) (by kernel_rfl) ?_
                intro wu14 fu14 gu14
                have e1u14 := e1u13.kept gu14 (by simp; omega)
                have e2u14 : Row wu14 w1.heap.size 27 [.slice Avu14 (i + 1) cvu14] := fu14
                have evu14 := own_kept_lt evu13 gu14 (by omega)
                have Bu14 := below_kept Bu13 gu14 Bu13.size (by rintro z hz; cases hz; omega)
                have szu14 := Nat.le_trans szu13 gu14.size
                refine hK _ _ trivial ?_
                clear hK K
                refine plan_done ?_
                go_wp2_with fail
                go_roundg (gk - 1)
                case measure => have := HI.out; omega
                case rel =>
                  exact ⟨i + 1, _, by have := HI.out; show _ = _; omega, by omega, by go_num, e1u14, e2u14, by rw [HRS.out]; exact evu14, Bu14, szu14⟩
        · obtain rfl : i = n := by omega
          obtain ⟨A4, c4, rfl, hnc, hcm, hR⟩ := own_form ev
          have c2 := e2.cell (j := 0) rfl
          go_wp2_with ((with_reducible refine wpList_at ⟨none, .store _ (.tmp 2) _, _, _, _, _⟩ ?_); refine wpList_store_all rfl _ _ _ rfl w.heap.size rfl _ _ e1 [.slice A4 i c4] rfl (slice_one _ _ _) rfl (by kernel_rfl) ?_; intro w6 r6 g6)
          have hload := run_loadVar_at (P := Try.prog) w6 27 ⟨w.heap.size, 0, none⟩ [.slice A4 i c4] r6.cells _ Try.underlying27 rfl (by kernel_rfl)
          refine bodyPost_ret (results_cellE Try.results31 _ _ _ _ rfl hload) rfl ⟨A4, i, c4, by rw [HO.out]; rfl, ⟨by rw [HE.out]; exact Reads.of_own (own_kept_lt ev g6 (by omega)), hnc, by unfold maxLen; omega, by rw [HE.out]; exact HSM.out⟩, (fun h0 ad e => .inr (by have := own_block ev h0 ad e; omega)), below_kept hB g6 hB.size (by rintro q hq; cases hq; exact Nat.le_refl _)⟩
theorem rnew8_any (k : Int) (w : World) : Calls Try.prog 31 #[.int .i64 k] w (GivesLE (flNew k) (flNewE k) w) := by
  refine (rnew8_in k w).mono ?_
  rintro e w' ⟨A', n', c', rfl, ho, _, hB⟩
  exact ⟨A', n', c', rfl, ho, hB⟩
end Go.Proofs.Ytkepmhkakkkliaa
