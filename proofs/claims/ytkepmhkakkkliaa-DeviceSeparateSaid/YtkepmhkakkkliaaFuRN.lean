/-
  What the reference's New returns: a contract by a walk. No condition but a bounded length.
-/
import Derived.Test.YtkepmhkakkkliaaFuN
import Derived.Test.YtkepmhkakkkliaaFuRP
namespace Go.Proofs.Ytkepmhkakkkliaa
open Go.RowKit

set_option maxRecDepth 100000 in
set_option maxHeartbeats 4000000 in
theorem rnew_in (A : Option Addr) (n c : Nat) (bits : List Int) (w : World) (hr : Reads w w.heap.size 1 A n (ivz bits)) (hn : n ≤ 9223372036854775806) :
    Calls Try.prog 30 #[.slice A n c] w (GivesFX (fun _ => False) (fuNew bits) (fuNewE bits) w) := by
  obtain ⟨j0', hj0', hy0, hy1, hy2⟩ := info_parts info_bk
  have HLN := Lib.hid hr.ivz_len
  have HZ0 := Lib.hid (slice_one none 0 0)
  have HZU := Lib.hid zeroB_v
  have BAD : ∀ (W wy : World), fuNewBad bits = true → Below w.heap.size w W → W.grownBy wy (some w.heap.size) → GivesFX (fun _ => False) (fuNew bits) (fuNewE bits) w (.returned (.tuple #[fuv none 0 0, .int .i64 1])) wy := fun W wy hb hB gy => by
    have hf : fuNew bits = [] := by unfold fuNew; rw [hb]; rfl
    have he : fuNewE bits = 1 := by unfold fuNewE; rw [hb]; rfl
    exact ⟨none, 0, 0, [], by rw [he], ⟨⟨Reads.nil_, fun p hp => by simp at hp⟩, Nat.le_refl _, fun p hp => by simp at hp⟩, FuIn.nil_, by rw [hf]; rfl, below_kept hB gy hB.size (by rintro k hk; cases hk; exact Nat.le_refl _)⟩
  have HBAD := Lib.hid BAD
  clear BAD
  by_cases h4 : 4 < n
  · have HB : Hid (fuNewBad bits = true) := Lib.hid (fuNewBad_len (by rw [HLN.out]; exact h4))
    go_enter Try.func30, Try.ntmps30
    go_wp2_with (first
      | (with_reducible refine wpList_alloc_row (o := ⟨some 2, _, _, _, _, _⟩) rfl _ rfl [.slice none 0 0] (by kernel_rfl) ?_; intro w1 r1 s1 g1)
      | (with_reducible refine wpList_alloc_row (o := ⟨some 4, _, _, _, _, _⟩) rfl _ rfl [.slice none 0 0] (by kernel_rfl) ?_; intro w2 r2 s2 g2; have c2 := r2.cell (j := 0) rfl; have q1 := r1.kept g2 (by simp))
      | (with_reducible refine wpList_store_all (o := ⟨none, _, _, _, _, _⟩) rfl _ _ _ rfl w.heap.size rfl _ _ q1 [.slice none 0 0] rfl HZ0.out rfl (by kernel_rfl) ?_; intro wy ry gy))
    have hload := run_loadVar_at (P := Try.prog) wy 24 ⟨w.heap.size, 0, none⟩ [.slice none 0 0] ry.cells _ Try.underlying24 rfl (by kernel_rfl)
    have b2 := below_kept (grown_below g1 (Nat.le_refl _) (by simp)) g2 (Nat.le_of_lt s1) (by simp)
    exact bodyPost_ret (results_cellE Try.results30 _ _ _ _ rfl hload) rfl (HBAD.out w2 wy HB.out b2 gy)
  · go_enter Try.func30, Try.ntmps30
    go_wp2_with (first
      | (with_reducible refine wpList_alloc_row (o := ⟨some 2, _, _, _, _, _⟩) rfl _ rfl [.slice none 0 0] (by kernel_rfl) ?_; intro w1 r1 s1 g1)
      | (with_reducible refine wpList_alloc_row (o := ⟨some 4, _, _, _, _, _⟩) rfl _ rfl [.slice none 0 0] (by kernel_rfl) ?_; intro w2 r2 s2 g2; have q1 := r1.kept g2 (by simp)))
    have b2 := below_kept (grown_below g1 (Nat.le_refl _) (by simp)) g2 (Nat.le_of_lt s1) (by simp)
    have hl1 := r1.lt
    have hl2 := r2.lt
    clear r1 g1 g2
    go_loopg [5] n (fun g s5 wr => ∃ (k : Nat) (qs : List Part) (v : Value), Hid (k + g = n) ∧ k ≤ n ∧ s5 = .int .i64 (k : Int) ∧ Hid (qs.length = k) ∧ Hid (bk qs = (bits.take k).map zeroB) ∧ Hid (((bits.take k).any fun n => decide (n < 0) || decide (16 < n)) = false) ∧ Row wr w.heap.size 24 [.slice none 0 0] ∧ Row wr w1.heap.size 24 [v] ∧ wr.ownsRow w2.heap.size 56 1 v k (qs.map Part.v) ∧ OwnL wr w2.heap.size qs ∧ Below w.heap.size w wr ∧ w2.heap.size ≤ wr.heap.size)
    case atStart => exact ⟨0, [], _, by show _ = _; omega, by omega, rfl, Lib.hid rfl, Lib.hid rfl, Lib.hid rfl, q1, r2, World.ownsRow_nil _ _ _ _, OwnL.nil_, b2, Nat.le_refl _⟩
    case round =>
      obtain ⟨k, qs, v, HK, hk, rfl, HQL, HQB, HOK, e2, e3, ev, el, hB, hsz⟩ := hrel
      by_cases hlt : k < n
      · obtain ⟨x, hx⟩ : ∃ x, bits[k]? = some x := ⟨_, List.getElem?_eq_getElem (by rw [HLN.out]; exact hlt)⟩
        obtain ⟨ad, rfl, hlta, hc0⟩ := hr.int_at hx
        have hc := (hB.cell (by rw [block_of_add]; exact hlta)).trans hc0
        have HX := Lib.hid hx
        by_cases hbad : x < 0 ∨ 16 < x
        · have HB : Hid (fuNewBad bits = true) := Lib.hid (fuNewBad_at hx hbad)
          clear hx hc0
          rcases hbad with hb | hb
          · go_wp2_with (with_reducible refine wpList_store_all (o := ⟨none, _, _, _, _, _⟩) rfl _ _ _ rfl w.heap.size rfl _ _ e2 [.slice none 0 0] rfl HZ0.out rfl (by kernel_rfl) ?_; intro wy ry gy)
            have hload := run_loadVar_at (P := Try.prog) wy 24 ⟨w.heap.size, 0, none⟩ [.slice none 0 0] ry.cells _ Try.underlying24 rfl (by kernel_rfl)
            exact bodyPost_ret (results_cellE Try.results30 _ _ _ _ rfl hload) rfl (HBAD.out wr wy HB.out hB gy)
          · have hb0 : ¬ x < 0 := by omega
            go_wp2_with (with_reducible refine wpList_store_all (o := ⟨none, _, _, _, _, _⟩) rfl _ _ _ rfl w.heap.size rfl _ _ e2 [.slice none 0 0] rfl HZ0.out rfl (by kernel_rfl) ?_; intro wy ry gy)
            have hload := run_loadVar_at (P := Try.prog) wy 24 ⟨w.heap.size, 0, none⟩ [.slice none 0 0] ry.cells _ Try.underlying24 rfl (by kernel_rfl)
            exact bodyPost_ret (results_cellE Try.results30 _ _ _ _ rfl hload) rfl (HBAD.out wr wy HB.out hB gy)
        · obtain ⟨b, rfl⟩ : ∃ b : Nat, x = (b : Int) := ⟨x.toNat, by omega⟩
          have hb16 : b ≤ 16 := by omega
          have HTK : Hid (bits.take (k + 1) = bits.take k ++ [(b : Int)]) := Lib.hid (by rw [List.take_add_one, hx]; rfl)
          have HOK2 : Hid (((bits.take (k + 1)).any fun n => decide (n < 0) || decide (16 < n)) = false) := Lib.hid (by
            rw [HTK.out, List.any_append, HOK.out, List.any_cons, decide_eq_false (show ¬ (b : Int) < 0 by omega), decide_eq_false (show ¬ 16 < (b : Int) by omega)]; rfl)
          have HV : Hid (Value.int .i64 (3 * (b : Int)) = .int .i64 ((3 * b : Nat) : Int)) := Lib.hid rfl
          have HC0 := Lib.hid hc0
          clear hx hbad hc0
          go_wp2_with fail
          refine wp_region_plan (fun w' => w'.cell? (ad.add k) = some (.int .i64 (b : Int))) (.take 0 <| .take 2 <| .take 3 <| .take 4 <| .take 5 <| .take 6 <| .two 1 (.one 7 <| .one 8 <| .one 9 <| .take 10 <| .one 11 <| .done) 7 (.two 1 (.one 8 <| .one 9 <| .take 10 <| .one 11 <| .done) 8 (.one 1 <| .one 9 <| .take 10 <| .one 11 <| .done))) (by kernel_rfl) (by kernel_rfl) (by kernel_rfl) (fun _ _ _ _ _ h => h) ((hB.drew.cell (by rw [block_of_add]; exact hlta)).trans HC0.out) ?_
          repeat (refine plan_take _ rfl ?_; (first | (refine wpQuiet_valueG (o := ⟨some 34, _, _, _, _, _⟩) rfl _ (by intro _ h; exact exec_load1 _ 3 _ rfl (ad.add k) rfl _ h _ Try.underlying3 rfl) (wpQuiet_nil ?_); simp only [Act.put, List.setIfInBounds_toArray, List.set_cons_zero, List.set_cons_succ]) | (go_big_quiet_step ((intros; rfl)); refine wpQuiet_nil ?_)))
          refine plan_two ?_ ?_
          · refine step_at _ rfl fun K hK => ?_
            refine step_valueG (o := ⟨some 30, _, _, _, _, _⟩) rfl _ _ (by exact exec_load1 _ 22 _ rfl ⟨w1.heap.size, 0, none⟩ rfl _ (e3.drew.cell (j := 0) rfl) _ Try.underlying22 rfl) ?_
            refine hK _ _ ((hB.drew.cell (by rw [block_of_add]; exact hlta)).trans HC0.out) ?_
            clear hK K
            simp only [Act.put, List.setIfInBounds_toArray, List.set_cons_zero, List.set_cons_succ]
            refine plan_one _ rfl fun K hK => ?_
            refine step_make_row rfl _ _ _ rfl 5 Try.underlying56 (.int .u8 0) rfl 1 (by kernel_rfl) .i64 .i64 (3 * b) (3 * b) HV.out HV.out (Nat.le_refl _) (by omega) (by omega) ?_
            intro wu1 ru1 su1 gu1
            have hu1 := grown_below gu1 (Nat.le_refl _) (by simp)
            rw [HZU.out] at ru1
            have ou1 : wu1.ownsRow wr.drew.heap.size 5 1 (⟨some ⟨wr.drew.heap.size, 0, none⟩, 3 * b, 3 * b, zeroB (b : Int)⟩ : Part).v (3 * b) (bvs (zeroB (b : Int))) := ru1.owns_all (Nat.le_refl _) (3 * b) (by rw [bvs_length, List.length_replicate]) (by unfold maxLen; omega)
            have e2u1 := e2.drew.on hu1
            have e3u1 := e3.drew.on hu1
            have evu1 := own_below (w := wr.drew) ev hu1
            have elu1 := OwnL.below (w := wr.drew) el hu1
            have Bu1 := hB.drew.trans (hu1.mono hB.drew.size)
            have szu1 := Nat.le_trans hsz hu1.size
            have equ1 := OwnL.snoc (w := wr.drew) (q := ⟨some ⟨wr.drew.heap.size, 0, none⟩, 3 * b, 3 * b, zeroB (b : Int)⟩) el hu1 hsz ou1
            refine hK _ _ ((Bu1.cell (by rw [block_of_add]; exact hlta)).trans HC0.out) ?_
            clear hK K
            simp only [Act.put, List.setIfInBounds_toArray, List.set_cons_zero, List.set_cons_succ]
            refine plan_one _ rfl fun K hK => ?_
            go_simp
            have hu2 : Below wu1.heap.size wu1 (wu1.alloc (.cells #[(.slice (some ⟨wr.drew.heap.size, 0, none⟩) (3 * b) (3 * b))] 56)) := (Below.refl _ _).alloc (Nat.le_refl _) _
            have e2u2 := e2u1.on hu2
            have e3u2 := e3u1.on hu2
            have evu2 := own_below (w := wu1) evu1 hu2
            have elu2 := OwnL.below (w := wu1) equ1 hu2
            have Bu2 := Bu1.trans (hu2.mono Bu1.size)
            have szu2 := Nat.le_trans szu1 hu2.size
            refine hK _ _ ((Bu2.cell (by rw [block_of_add]; exact hlta)).trans HC0.out) ?_
            clear hK K
            refine plan_one _ rfl fun K hK => ?_
            refine step_append_src rfl (.tmp 30) (.tmp 37) _ _ rfl w2.heap.size 56 j0' _ 1 24 Try.underlying22 hj0' hy0 hy1 hy2 rfl _ _ _ rfl evu2 1 _ (Src.box Try.underlying22 wu1 (.slice (some ⟨wr.drew.heap.size, 0, none⟩) (3 * b) (3 * b)) 56 rfl 1) (by unfold maxLen; omega) (by omega) szu2 ?_
            intro vu3 wu3 evu3 ku3 hu3
            have e2u3 := e2u2.kept ku3 (e2u2.not_row7 (by decide) evu2)
            have e3u3 := e3u2.kept ku3 (e3u2.not_row7 (by decide) evu2)
            have elu3 := elu2.kept_row evu2 (by decide) ku3
            have Bu3 := Bu2.trans (hu3.mono b2.size)
            have szu3 := Nat.le_trans szu2 hu3.size
            refine hK _ _ ((Bu3.cell (by rw [block_of_add]; exact hlta)).trans HC0.out) ?_
            clear hK K
            simp only [Act.put, List.setIfInBounds_toArray, List.set_cons_zero, List.set_cons_succ]
            repeat (refine plan_take _ rfl ?_; (first | (refine wpQuiet_valueG (o := ⟨some 34, _, _, _, _, _⟩) rfl _ (by intro _ h; exact exec_load1 _ 3 _ rfl (ad.add k) rfl _ h _ Try.underlying3 rfl) (wpQuiet_nil ?_); simp only [Act.put, List.setIfInBounds_toArray, List.set_cons_zero, List.set_cons_succ]) | (go_big_quiet_step ((intros; rfl)); refine wpQuiet_nil ?_)))
            refine plan_one _ rfl fun K hK => ?_
            obtain ⟨Avu4, cvu4, rfl, _, _, _⟩ := own_form evu3
            refine step_store_elem rfl _ _ _ rfl w1.heap.size 0 rfl _ _ e3u3 (.slice Avu4 (k + 1) cvu4) rfl rfl (by simp) (by kernel_rfl) ?_
            intro wu4 fu4 gu4
            have e2u4 := e2u3.kept gu4 (by simp; omega)
            have e3u4 : Row wu4 w1.heap.size 24 [.slice Avu4 (k + 1) cvu4] := fu4
            have evu4 := evu3.kept gu4 (.inr (e3u3.not_row7 (by decide) evu3).symm)
            have elu4 := elu3.kept gu4 (by omega)
            have Bu4 := below_kept Bu3 gu4 Bu3.size (by rintro z hz; cases hz; omega)
            have szu4 := Nat.le_trans szu3 gu4.size
            refine hK _ _ ((Bu4.cell (by rw [block_of_add]; exact hlta)).trans HC0.out) ?_
            clear hK K
            refine plan_done ?_
            go_wp2_with fail
            go_roundg (gk - 1)
            case measure => have := HK.out; omega
            case rel =>
              refine ⟨k + 1, qs ++ [(⟨some ⟨wr.drew.heap.size, 0, none⟩, 3 * b, 3 * b, zeroB (b : Int)⟩ : Part)], _, by have := HK.out; show _ = _; omega, by omega, by go_num, Lib.hid (by rw [List.length_append, HQL.out]; rfl), ?_, HOK2, e2u4, e3u4, ?_, elu4, Bu4, szu4⟩
              · show _ = _
                rw [HTK.out, List.map_append]
                unfold bk at *
                rw [List.map_append, HQB.out]
                rfl
              · rw [List.map_append]
                exact evu4
          · refine step_at _ rfl fun K hK => ?_
            refine step_make_row rfl _ _ _ rfl 5 Try.underlying56 (.int .u8 0) rfl 1 (by kernel_rfl) .i64 .i64 (3 * b) (3 * b) HV.out HV.out (Nat.le_refl _) (by omega) (by omega) ?_
            intro wu5 ru5 su5 gu5
            have hu5 := grown_below gu5 (Nat.le_refl _) (by simp)
            rw [HZU.out] at ru5
            have ou5 : wu5.ownsRow wr.drew.heap.size 5 1 (⟨some ⟨wr.drew.heap.size, 0, none⟩, 3 * b, 3 * b, zeroB (b : Int)⟩ : Part).v (3 * b) (bvs (zeroB (b : Int))) := ru5.owns_all (Nat.le_refl _) (3 * b) (by rw [bvs_length, List.length_replicate]) (by unfold maxLen; omega)
            have e2u5 := e2.drew.on hu5
            have e3u5 := e3.drew.on hu5
            have evu5 := own_below (w := wr.drew) ev hu5
            have elu5 := OwnL.below (w := wr.drew) el hu5
            have Bu5 := hB.drew.trans (hu5.mono hB.drew.size)
            have szu5 := Nat.le_trans hsz hu5.size
            have equ5 := OwnL.snoc (w := wr.drew) (q := ⟨some ⟨wr.drew.heap.size, 0, none⟩, 3 * b, 3 * b, zeroB (b : Int)⟩) el hu5 hsz ou5
            refine hK _ _ ((Bu5.cell (by rw [block_of_add]; exact hlta)).trans HC0.out) ?_
            clear hK K
            simp only [Act.put, List.setIfInBounds_toArray, List.set_cons_zero, List.set_cons_succ]
            refine plan_two ?_ ?_
            · refine step_at _ rfl fun K hK => ?_
              refine step_valueG (o := ⟨some 30, _, _, _, _, _⟩) rfl _ _ (by exact exec_load1 _ 22 _ rfl ⟨w1.heap.size, 0, none⟩ rfl _ (e3u5.cell (j := 0) rfl) _ Try.underlying22 rfl) ?_
              refine hK _ _ ((Bu5.cell (by rw [block_of_add]; exact hlta)).trans HC0.out) ?_
              clear hK K
              simp only [Act.put, List.setIfInBounds_toArray, List.set_cons_zero, List.set_cons_succ]
              refine plan_one _ rfl fun K hK => ?_
              go_simp
              have hu6 : Below wu5.heap.size wu5 (wu5.alloc (.cells #[(.slice (some ⟨wr.drew.heap.size, 0, none⟩) (3 * b) (3 * b))] 56)) := (Below.refl _ _).alloc (Nat.le_refl _) _
              have e2u6 := e2u5.on hu6
              have e3u6 := e3u5.on hu6
              have evu6 := own_below (w := wu5) evu5 hu6
              have elu6 := OwnL.below (w := wu5) equ5 hu6
              have Bu6 := Bu5.trans (hu6.mono Bu5.size)
              have szu6 := Nat.le_trans szu5 hu6.size
              refine hK _ _ ((Bu6.cell (by rw [block_of_add]; exact hlta)).trans HC0.out) ?_
              clear hK K
              refine plan_one _ rfl fun K hK => ?_
              refine step_append_src rfl (.tmp 30) (.tmp 37) _ _ rfl w2.heap.size 56 j0' _ 1 24 Try.underlying22 hj0' hy0 hy1 hy2 rfl _ _ _ rfl evu6 1 _ (Src.box Try.underlying22 wu5 (.slice (some ⟨wr.drew.heap.size, 0, none⟩) (3 * b) (3 * b)) 56 rfl 1) (by unfold maxLen; omega) (by omega) szu6 ?_
              intro vu7 wu7 evu7 ku7 hu7
              have e2u7 := e2u6.kept ku7 (e2u6.not_row7 (by decide) evu6)
              have e3u7 := e3u6.kept ku7 (e3u6.not_row7 (by decide) evu6)
              have elu7 := elu6.kept_row evu6 (by decide) ku7
              have Bu7 := Bu6.trans (hu7.mono b2.size)
              have szu7 := Nat.le_trans szu6 hu7.size
              refine hK _ _ ((Bu7.cell (by rw [block_of_add]; exact hlta)).trans HC0.out) ?_
              clear hK K
              simp only [Act.put, List.setIfInBounds_toArray, List.set_cons_zero, List.set_cons_succ]
              repeat (refine plan_take _ rfl ?_; (first | (refine wpQuiet_valueG (o := ⟨some 34, _, _, _, _, _⟩) rfl _ (by intro _ h; exact exec_load1 _ 3 _ rfl (ad.add k) rfl _ h _ Try.underlying3 rfl) (wpQuiet_nil ?_); simp only [Act.put, List.setIfInBounds_toArray, List.set_cons_zero, List.set_cons_succ]) | (go_big_quiet_step ((intros; rfl)); refine wpQuiet_nil ?_)))
              refine plan_one _ rfl fun K hK => ?_
              obtain ⟨Avu8, cvu8, rfl, _, _, _⟩ := own_form evu7
              refine step_store_elem rfl _ _ _ rfl w1.heap.size 0 rfl _ _ e3u7 (.slice Avu8 (k + 1) cvu8) rfl rfl (by simp) (by kernel_rfl) ?_
              intro wu8 fu8 gu8
              have e2u8 := e2u7.kept gu8 (by simp; omega)
              have e3u8 : Row wu8 w1.heap.size 24 [.slice Avu8 (k + 1) cvu8] := fu8
              have evu8 := evu7.kept gu8 (.inr (e3u7.not_row7 (by decide) evu7).symm)
              have elu8 := elu7.kept gu8 (by omega)
              have Bu8 := below_kept Bu7 gu8 Bu7.size (by rintro z hz; cases hz; omega)
              have szu8 := Nat.le_trans szu7 gu8.size
              refine hK _ _ ((Bu8.cell (by rw [block_of_add]; exact hlta)).trans HC0.out) ?_
              clear hK K
              refine plan_done ?_
              go_wp2_with fail
              go_roundg (gk - 1)
              case measure => have := HK.out; omega
              case rel =>
                refine ⟨k + 1, qs ++ [(⟨some ⟨wr.drew.heap.size, 0, none⟩, 3 * b, 3 * b, zeroB (b : Int)⟩ : Part)], _, by have := HK.out; show _ = _; omega, by omega, by go_num, Lib.hid (by rw [List.length_append, HQL.out]; rfl), ?_, HOK2, e2u8, e3u8, ?_, elu8, Bu8, szu8⟩
                · show _ = _
                  rw [HTK.out, List.map_append]
                  unfold bk at *
                  rw [List.map_append, HQB.out]
                  rfl
                · rw [List.map_append]
                  exact evu8
            · refine step_at _ rfl fun K hK => ?_
              go_simp
              have hu9 : Below wu5.heap.size wu5 (wu5.alloc (.cells #[(.slice (some ⟨wr.drew.heap.size, 0, none⟩) (3 * b) (3 * b))] 56)) := (Below.refl _ _).alloc (Nat.le_refl _) _
              have e2u9 := e2u5.on hu9
              have e3u9 := e3u5.on hu9
              have evu9 := own_below (w := wu5) evu5 hu9
              have elu9 := OwnL.below (w := wu5) equ5 hu9
              have Bu9 := Bu5.trans (hu9.mono Bu5.size)
              have szu9 := Nat.le_trans szu5 hu9.size
              refine hK _ _ ((Bu9.cell (by rw [block_of_add]; exact hlta)).trans HC0.out) ?_
              clear hK K
              refine plan_one _ rfl fun K hK => ?_
              refine step_valueG (o := ⟨some 30, _, _, _, _, _⟩) rfl _ _ (by exact exec_load1 _ 22 _ rfl ⟨w1.heap.size, 0, none⟩ rfl _ (e3u9.cell (j := 0) rfl) _ Try.underlying22 rfl) ?_
              refine hK _ _ ((Bu9.cell (by rw [block_of_add]; exact hlta)).trans HC0.out) ?_
              clear hK K
              simp only [Act.put, List.setIfInBounds_toArray, List.set_cons_zero, List.set_cons_succ]
              refine plan_one _ rfl fun K hK => ?_
              refine step_append_src rfl (.tmp 30) (.tmp 37) _ _ rfl w2.heap.size 56 j0' _ 1 24 Try.underlying22 hj0' hy0 hy1 hy2 rfl _ _ _ rfl evu9 1 _ (Src.box Try.underlying22 wu5 (.slice (some ⟨wr.drew.heap.size, 0, none⟩) (3 * b) (3 * b)) 56 rfl 1) (by unfold maxLen; omega) (by omega) szu9 ?_
              intro vu10 wu10 evu10 ku10 hu10
              have e2u10 := e2u9.kept ku10 (e2u9.not_row7 (by decide) evu9)
              have e3u10 := e3u9.kept ku10 (e3u9.not_row7 (by decide) evu9)
              have elu10 := elu9.kept_row evu9 (by decide) ku10
              have Bu10 := Bu9.trans (hu10.mono b2.size)
              have szu10 := Nat.le_trans szu9 hu10.size
              refine hK _ _ ((Bu10.cell (by rw [block_of_add]; exact hlta)).trans HC0.out) ?_
              clear hK K
              simp only [Act.put, List.setIfInBounds_toArray, List.set_cons_zero, List.set_cons_succ]
              repeat (refine plan_take _ rfl ?_; (first | (refine wpQuiet_valueG (o := ⟨some 34, _, _, _, _, _⟩) rfl _ (by intro _ h; exact exec_load1 _ 3 _ rfl (ad.add k) rfl _ h _ Try.underlying3 rfl) (wpQuiet_nil ?_); simp only [Act.put, List.setIfInBounds_toArray, List.set_cons_zero, List.set_cons_succ]) | (go_big_quiet_step ((intros; rfl)); refine wpQuiet_nil ?_)))
              refine plan_one _ rfl fun K hK => ?_
              obtain ⟨Avu11, cvu11, rfl, _, _, _⟩ := own_form evu10
              refine step_store_elem rfl _ _ _ rfl w1.heap.size 0 rfl _ _ e3u10 (.slice Avu11 (k + 1) cvu11) rfl rfl (by simp) (by kernel_rfl) ?_
              intro wu11 fu11 gu11
              have e2u11 := e2u10.kept gu11 (by simp; omega)
              have e3u11 : Row wu11 w1.heap.size 24 [.slice Avu11 (k + 1) cvu11] := fu11
              have evu11 := evu10.kept gu11 (.inr (e3u10.not_row7 (by decide) evu10).symm)
              have elu11 := elu10.kept gu11 (by omega)
              have Bu11 := below_kept Bu10 gu11 Bu10.size (by rintro z hz; cases hz; omega)
              have szu11 := Nat.le_trans szu10 gu11.size
              refine hK _ _ ((Bu11.cell (by rw [block_of_add]; exact hlta)).trans HC0.out) ?_
              clear hK K
              refine plan_done ?_
              go_wp2_with fail
              go_roundg (gk - 1)
              case measure => have := HK.out; omega
              case rel =>
                refine ⟨k + 1, qs ++ [(⟨some ⟨wr.drew.heap.size, 0, none⟩, 3 * b, 3 * b, zeroB (b : Int)⟩ : Part)], _, by have := HK.out; show _ = _; omega, by omega, by go_num, Lib.hid (by rw [List.length_append, HQL.out]; rfl), ?_, HOK2, e2u11, e3u11, ?_, elu11, Bu11, szu11⟩
                · show _ = _
                  rw [HTK.out, List.map_append]
                  unfold bk at *
                  rw [List.map_append, HQB.out]
                  rfl
                · rw [List.map_append]
                  exact evu11
      · obtain rfl : k = n := by omega
        have HT : Hid (bits.take k = bits) := Lib.hid (List.take_of_length_le (by rw [HLN.out]; exact Nat.le_refl _))
        have HB : Hid (fuNewBad bits = false) := Lib.hid (fuNewBad_no (by rw [HLN.out]; exact h4) (by rw [← HT.out]; exact HOK.out))
        have HF : Hid (fuNew bits = bits.map zeroB) := Lib.hid (by unfold fuNew; rw [HB.out]; rfl)
        have HE : Hid (fuNewE bits = 0) := Lib.hid (by unfold fuNewE; rw [HB.out]; rfl)
        obtain ⟨Av, cv, rfl, hcv, _, _⟩ := own_form ev
        have c3 := e3.cell (j := 0) rfl
        go_wp2_with (with_reducible refine wpList_store_all (o := ⟨none, _, _, _, _, _⟩) rfl _ _ _ rfl w.heap.size rfl _ _ e2 [.slice Av k cv] rfl (slice_one _ _ _) rfl (by kernel_rfl) ?_; intro wy ry gy)
        have hload := run_loadVar_at (P := Try.prog) wy 24 ⟨w.heap.size, 0, none⟩ [.slice Av k cv] ry.cells _ Try.underlying24 rfl (by kernel_rfl)
        have evy := ev.kept gy (.inr (e2.not_row7 (by decide) ev).symm)
        have ely := el.kept gy (by omega)
        obtain ⟨h1, h2⟩ := ely.reads (Reads.of_own evy)
        refine bodyPost_ret (results_cellE Try.results30 _ _ _ _ rfl hload) rfl ⟨Av, k, cv, qs, by rw [HE.out]; rfl, ⟨h1, hcv, h2⟩, ⟨fun h0 ad e => .inr (by have := own_block evy h0 ad e; omega), fun p hp h0 ad e => .inr (by have := ely.blocks p hp h0 ad e; omega)⟩, by rw [HF.out, HQB.out, HT.out], below_kept hB gy hB.size (by rintro k hk; cases hk; exact Nat.le_refl _)⟩
theorem rnew_any (A : Option Addr) (n c : Nat) (bits : List Int) (w : World) (hr : Reads w w.heap.size 1 A n (ivz bits)) (hn : n ≤ 9223372036854775806) :
    Calls Try.prog 30 #[.slice A n c] w (GivesFE (fuNew bits) (fuNewE bits) w) := by
  refine (rnew_in A n c bits w hr hn).mono ?_
  rintro e w' ⟨A', n', c', qs, rfl, ho, _, hb, hB⟩
  exact ⟨A', n', c', qs, rfl, ho, hb, hB⟩
end Go.Proofs.Ytkepmhkakkkliaa
