/-
  What the reference's Pulse returns: a contract by a walk. Condition: bounded lengths.
-/
import Derived.Test.YtfcbcclcmgheeaaFuP
import Derived.Test.YtfcbcclcmgheeaaFuRG
namespace Go.Proofs.Ytfcbcclcmgheeaa
open Go.RowKit

theorem Row.not_row7 {W : World} {B : Nat} {t e : TypeId} {cs : List Value} (h : Row W B t cs) (hte : t ≠ e) {base size k : Nat} {v : Value} {xs : List Value} (hr : W.ownsRow base e size v k xs) : some B ≠ v.ownBlock := by
  rcases hr.2 with ⟨rfl, _⟩ | ⟨g, cap, cur, rfl, _, hgb, _⟩
  · simp [Value.ownBlock]
  · intro e'
    obtain rfl : B = g := by simpa [Value.ownBlock] using e'
    unfold Row at h
    rw [h] at hgb
    cases hgb
    exact hte rfl
section
variable {P : Program} {ops : Array Oper} {rest : List Oper} {o : Oper} {a : Act} {w : World} {Q : Exit → Act → World → Prop}
theorem wpList_store_run (hgd : o.guard = none) (ty : TypeId) (x v : Operand) (ho : o.op = .store ty x v) (ad : Addr) (hx : a.eval x = .pointer (some ad)) (u : Value) (hv : a.eval v = u)
    (w' : World) (hrun : (storeVar ty ad u).run P w = .ok () w') (h : wpList P ops Q rest (a.put o.dst undef) w') : wpList P ops Q (o :: rest) a w := by
  refine wpList_plain hgd fun K hK => ?_
  unfold Oper.wp execOp
  simp only [ho, hx, hv, Instr.storeAt, Instr.sureAddr, Sem.run_bind, Sem.run_pure, Result.andThen_ok, hrun]
  exact hK _ _ h
end
theorem set_self {α : Type} {l : List α} {k : Nat} {x : α} (h : l[k]? = some x) : l.set k x = l := by
  refine List.ext_getElem? fun i => ?_
  rw [List.getElem?_set]
  split
  · rename_i e
    subst e
    rw [h]
    split
    · rfl
    · rename_i hk
      rw [List.getElem?_eq_none (by omega)] at h
      cases h
  · rfl
theorem own_ne {w : World} {b1 b2 s1 s2 n1 n2 : Nat} {t1 t2 : TypeId} {v1 v2 : Value} {x1 x2 : List Value} (h1 : w.ownsRow b1 t1 s1 v1 n1 x1) (h2 : w.ownsRow b2 t2 s2 v2 n2 x2) (ht : t1 ≠ t2) : v1.ownBlock = none ∨ v1.ownBlock ≠ v2.ownBlock := by
  rcases h1.2 with ⟨rfl, _⟩ | ⟨g, cap, cur, rfl, _, hg, _⟩
  · exact .inl rfl
  · refine .inr fun e => ?_
    rcases h2.2 with ⟨rfl, _⟩ | ⟨g', cap', cur', rfl, _, hg', _⟩
    · cases e
    · obtain rfl : g = g' := by simpa [Value.ownBlock] using e
      rw [hg] at hg'
      cases hg'
      exact ht rfl
theorem OwnL.kept_row {w w' : World} {base b2 s2 n2 : Nat} {ps : List Part} {t2 : TypeId} {v2 : Value} {x2 : List Value} (h : OwnL w base ps) (h2 : w.ownsRow b2 t2 s2 v2 n2 x2) (ht : 5 ≠ t2) (hg : w.grownBy w' v2.ownBlock) : OwnL w' base ps :=
  ⟨fun p hp => (h.1 p hp).kept hg (own_ne (h.1 p hp) h2 ht), h.2⟩

set_option maxRecDepth 100000 in
set_option maxHeartbeats 4000000 in
theorem rpulse_in (X : Nat → Prop) (A : Option Addr) (n c : Nat) (ps : List Part) (hX : FuIn X A n ps) (b i : Int) (cut : Bool) (w : World) (hok : FuOK w A n c ps) (hn : n ≤ 100) (hp : ∀ p ∈ ps, p.n ≤ 1000) :
    Calls Try.prog 35 #[fuv A n c, .int .i64 b, .int .i64 i, .bool cut] w (GivesFX X (fuPulse (bk ps) b i cut) (fuErr (bk ps) b i) w) := by
  obtain ⟨i0, hi0, hz0, hz1, hz2⟩ := info_parts info_u8f
  obtain ⟨j0', hj0', hy0, hy1, hy2⟩ := info_parts info_bk
  have HOK := Lib.hid hok
  have HXI := Lib.hid hX
  clear hX
  have hr := hok.1
  have HEX := fun W hW => Lib.hid (rexists_any A n c ps b i W hW)
  have HLN := Lib.hid hr.len
  have HPN := Lib.hid hp
  clear hp hok
  unfold fuv at *
  cases hx : fuEx (bk ps) b i with
  | false =>
    have HE := Lib.hid (fuErr_out hx)
    have HP := Lib.hid (fuPulse_out (cut := cut) hx)
    rw [hx] at HEX
    clear hx
    go_enter Try.func35, Try.ntmps35
    go_wp2_with (first
      | (with_reducible refine wpList_box_row (o := ⟨some 4, _, _, _, _, _⟩) rfl _ _ rfl [.slice A n c] rfl ?_; intro w1 r1 s1 g1)
      | (with_reducible refine wpList_alloc_row (o := ⟨some 8, _, _, _, _, _⟩) rfl _ rfl [.slice none 0 0] (by kernel_rfl) ?_; intro w2 r2 s2 g2; have q1 := r1.kept g2 (by simp); have b2 := below_kept (grown_below g1 (Nat.le_refl _) (by simp)) g2 (Nat.le_of_lt s1) (by simp); have c1 := q1.cell (j := 0) rfl; clear r1 g1 g2))
    refine (HEX _ (hr.on b2)).out.mono ?_
    rintro e w5 ⟨rfl, b5⟩
    have d1 := q1.on b5
    have d2 := r2.on b5
    have B5 := b2.trans (b5.mono b2.size)
    have v1 := d1.cell (j := 0) rfl
    clear q1 c1
    go_wp2_with (with_reducible refine wpList_store_all (o := ⟨none, _, _, _, _, _⟩) rfl _ _ _ rfl w1.heap.size rfl _ _ d2 [.slice A n c] rfl (slice_one _ _ _) rfl (by kernel_rfl) ?_; intro wy ry gy)
    have hload := run_loadVar_at (P := Try.prog) wy 40 ⟨w1.heap.size, 0, none⟩ [.slice A n c] ry.cells _ Try.underlying40 rfl (by kernel_rfl)
    have By := below_kept B5 gy B5.size (by rintro k hk; cases hk; omega)
    exact bodyPost_ret (results_cellE Try.results35 _ _ _ _ rfl hload) rfl ⟨A, n, c, ps, by rw [HE.out]; rfl, HOK.out.on By, HXI.out.weak (fun _ h => .inl h), by rw [HP.out], By⟩
  | true =>
    have HE := Lib.hid (fuErr_in hx)
    rw [hx] at HEX
    obtain ⟨k0, j0, l0, rfl, rfl, hl0, hj0⟩ := fuEx_iff.1 hx
    clear hx
    obtain ⟨s0, hs0⟩ : ∃ s, l0[j0]? = some s := ⟨_, List.getElem?_eq_getElem hj0⟩
    have HPU := Lib.hid (fuPulse_nat (cut := cut) hl0 hs0)
    have HL0 := Lib.hid hl0
    have HS0 := Lib.hid hs0
    clear hl0 hs0
    go_enter Try.func35, Try.ntmps35
    go_wp2_with (first
      | (with_reducible refine wpList_box_row (o := ⟨some 4, _, _, _, _, _⟩) rfl _ _ rfl [.slice A n c] rfl ?_; intro w1 r1 s1 g1)
      | (with_reducible refine wpList_alloc_row (o := ⟨some 8, _, _, _, _, _⟩) rfl _ rfl [.slice none 0 0] (by kernel_rfl) ?_; intro w2 r2 s2 g2; have q1 := r1.kept g2 (by simp); have b2 := below_kept (grown_below g1 (Nat.le_refl _) (by simp)) g2 (Nat.le_of_lt s1) (by simp); have c1 := q1.cell (j := 0) rfl; clear r1 g1 g2))
    refine (HEX _ (hr.on b2)).out.mono ?_
    rintro e w5 ⟨rfl, b5⟩
    have d1 := q1.on b5
    have d2 := r2.on b5
    have B5 := b2.trans (b5.mono b2.size)
    have v1 := d1.cell (j := 0) rfl
    have hl1 := d1.lt
    have hl2 := d2.lt
    clear q1 c1
    go_wp2_with (with_reducible refine wpList_alloc_row (o := ⟨some 10, _, _, _, _, _⟩) rfl _ rfl [.slice none 0 0] (by kernel_rfl) ?_; intro w6 r6 s6 g6; have q1 := d1.kept g6 (by simp); have q2 := d2.kept g6 (by simp); have c1 := q1.cell (j := 0) rfl)
    have B6 := below_kept B5 g6 B5.size (by simp)
    have hl6 := r6.lt
    clear d1 d2 v1 c1 g6
    go_loopg [11] n (fun g s11 wr => ∃ (k : Nat) (qs : List Part) (v : Value), Hid (k + g = n) ∧ k ≤ n ∧ s11 = .int .i64 (k : Int) ∧ Hid (qs.length = k) ∧ Hid (bk qs = bk (ps.take k)) ∧ Row wr w.heap.size 40 [.slice A n c] ∧ Row wr w1.heap.size 40 [.slice none 0 0] ∧ Row wr w5.heap.size 40 [v] ∧ wr.ownsRow w6.heap.size 35 1 v k (qs.map Part.v) ∧ OwnL wr w6.heap.size qs ∧ Below w.heap.size w wr ∧ w6.heap.size ≤ wr.heap.size)
    case atStart => exact ⟨0, [], _, by show _ = _; omega, by omega, rfl, Lib.hid rfl, Lib.hid rfl, q1, q2, r6, World.ownsRow_nil _ _ _ _, OwnL.nil_, B6, Nat.le_refl _⟩
    case round =>
      obtain ⟨k, qs, v, HK, hk, rfl, HQL, HQB, e1, e2, e3, ev, el, hB, hsz⟩ := hrel
      have c1 := e1.cell (j := 0) rfl
      by_cases hlt : k < n
      · obtain ⟨ad, p, rfl, hlta, hpk, hc0, hp, hpc⟩ := hr.at_ hlt
        have hc := (hB.cell (by rw [block_of_add]; exact hlta)).trans hc0
        have HC0 := Lib.hid hc0
        have HPR := Lib.hid hp
        have HPK := Lib.hid hpk
        have hpn := HPN.out p (List.mem_of_getElem? hpk)
        have hlb := e3.lt
        clear hc0 hp hpk
        go_wp2_with fail
        refine wp_region_plan (fun w' => Row w' w.heap.size 40 [.slice (some ad) n c] ∧ w'.cell? (ad.add k) = some (.slice p.A p.n p.c)) (.take 0 <| .take 3 <| .take 4 <| .take 5 <| .take 6 <| .take 7 <| .two 1 (.one 2 <| .one 8 <| .one 9 <| .one 10 <| .take 11 <| .one 12 <| .done) 2 (.two 1 (.one 8 <| .one 9 <| .one 10 <| .take 11 <| .one 12 <| .done) 8 (.two 1 (.one 9 <| .one 10 <| .take 11 <| .one 12 <| .done) 9 (.one 1 <| .one 10 <| .take 11 <| .one 12 <| .done)))) (by kernel_rfl) (by kernel_rfl) (by kernel_rfl) (fun _ _ _ _ _ h => h) ⟨e1.drew, (hB.drew.cell (by rw [block_of_add]; exact hlta)).trans HC0.out⟩ ?_
        repeat (refine plan_take _ rfl ?_; (first | (refine wpQuiet_valueG (o := ⟨some 30, _, _, _, _, _⟩) rfl _ (by intro _ h; exact exec_load1 _ 38 _ rfl ⟨w.heap.size, 0, none⟩ rfl _ (h.1.cell (j := 0) rfl) _ Try.underlying38 rfl) (wpQuiet_nil ?_); simp only [Act.put, List.setIfInBounds_toArray, List.set_cons_zero, List.set_cons_succ]) | (refine wpQuiet_valueG (o := ⟨some 33, _, _, _, _, _⟩) rfl _ (by intro _ h; exact exec_load1 _ 35 _ rfl (ad.add k) rfl _ h.2 _ Try.underlying35 rfl) (wpQuiet_nil ?_); simp only [Act.put, List.setIfInBounds_toArray, List.set_cons_zero, List.set_cons_succ]) | (go_big_quiet_step ((intros; rfl)); refine wpQuiet_nil ?_)))
        refine plan_two ?_ ?_
        · refine step_at _ rfl fun K hK => ?_
          refine step_valueG (o := ⟨some 27, _, _, _, _, _⟩) rfl _ _ (by exact exec_load1 _ 38 _ rfl ⟨w5.heap.size, 0, none⟩ rfl _ (e3.drew.cell (j := 0) rfl) _ Try.underlying38 rfl) ?_
          refine hK _ _ ⟨e1.drew, (hB.drew.cell (by rw [block_of_add]; exact hlta)).trans HC0.out⟩ ?_
          clear hK K
          simp only [Act.put, List.setIfInBounds_toArray, List.set_cons_zero, List.set_cons_succ]
          refine plan_one _ rfl fun K hK => ?_
          go_simp
          have hu1 : Below wr.drew.heap.size wr.drew (wr.drew.alloc (.cells #[] 5)) := (Below.refl _ _).alloc (Nat.le_refl _) _
          have ou1 := own_empty wr.drew 5 1 wr.drew.heap.size (Below.refl wr.drew.heap.size wr.drew).size
          have e1u1 := e1.drew.on hu1
          have e2u1 := e2.drew.on hu1
          have e3u1 := e3.drew.on hu1
          have evu1 := own_below (w := wr.drew) ev hu1
          have elu1 := OwnL.below (w := wr.drew) el hu1
          have Bu1 := hB.drew.trans (hu1.mono hB.drew.size)
          have Nu1 := (Below.refl wr.drew.heap.size wr.drew).trans (hu1.mono (Below.refl wr.drew.heap.size wr.drew).size)
          have szu1 := Nat.le_trans hsz hu1.size
          refine hK _ _ ⟨e1u1, (Bu1.cell (by rw [block_of_add]; exact hlta)).trans HC0.out⟩ ?_
          clear hK K
          refine plan_one _ rfl fun K hK => ?_
          refine step_append_src rfl (.tmp 28) (.tmp 33) _ _ rfl wr.drew.heap.size 5 i0 _ 1 1 Try.underlying35 hi0 hz0 hz1 hz2 rfl _ _ _ rfl ou1 p.n _ (Src.ofReads _ Try.underlying35 (HPR.out.below Bu1) (bvs_one _)) (by unfold maxLen; omega) (by omega) Nu1.size ?_
          intro vu2 wu2 ou2 ku2 hu2
          rw [Nat.zero_add, List.nil_append] at ou2
          obtain ⟨Au2, cu2, rfl, _, _, _⟩ := own_form ou2
          have e1u2 := e1u1.kept ku2 (e1u1.not_row7 (by decide) ou1)
          have e2u2 := e2u1.kept ku2 (e2u1.not_row7 (by decide) ou1)
          have e3u2 := e3u1.kept ku2 (e3u1.not_row7 (by decide) ou1)
          have evu2 := evu1.kept ku2 (own_ne evu1 ou1 (by decide))
          have Bu2 := Bu1.trans (hu2.mono hB.drew.size)
          have Nu2 := Nu1.trans hu2
          have szu2 := Nat.le_trans szu1 hu2.size
          have elu2 := OwnL.snoc (w := wr.drew) (q := ⟨Au2, p.n, cu2, p.l⟩) el Nu2 hsz ou2
          refine hK _ _ ⟨e1u2, (Bu2.cell (by rw [block_of_add]; exact hlta)).trans HC0.out⟩ ?_
          clear hK K
          simp only [Act.put, List.setIfInBounds_toArray, List.set_cons_zero, List.set_cons_succ]
          refine plan_one _ rfl fun K hK => ?_
          go_simp
          have hu3 : Below wu2.heap.size wu2 (wu2.alloc (.cells #[(.slice Au2 p.n cu2)] 35)) := (Below.refl _ _).alloc (Nat.le_refl _) _
          have e1u3 := e1u2.on hu3
          have e2u3 := e2u2.on hu3
          have e3u3 := e3u2.on hu3
          have evu3 := own_below (w := wu2) evu2 hu3
          have elu3 := OwnL.below (w := wu2) elu2 hu3
          have Bu3 := Bu2.trans (hu3.mono Bu2.size)
          have Nu3 := Nu2.trans (hu3.mono Nu2.size)
          have szu3 := Nat.le_trans szu2 hu3.size
          refine hK _ _ ⟨e1u3, (Bu3.cell (by rw [block_of_add]; exact hlta)).trans HC0.out⟩ ?_
          clear hK K
          refine plan_one _ rfl fun K hK => ?_
          refine step_append_src rfl (.tmp 27) (.tmp 35) _ _ rfl w6.heap.size 35 j0' _ 1 24 Try.underlying38 hj0' hy0 hy1 hy2 rfl _ _ _ rfl evu3 1 _ (Src.box Try.underlying38 wu2 (.slice Au2 p.n cu2) 35 rfl 1) (by unfold maxLen; omega) (by omega) szu3 ?_
          intro vu4 wu4 evu4 ku4 hu4
          have e1u4 := e1u3.kept ku4 (e1u3.not_row7 (by decide) evu3)
          have e2u4 := e2u3.kept ku4 (e2u3.not_row7 (by decide) evu3)
          have e3u4 := e3u3.kept ku4 (e3u3.not_row7 (by decide) evu3)
          have elu4 := elu3.kept_row evu3 (by decide) ku4
          have Bu4 := Bu3.trans (hu4.mono B6.size)
          have szu4 := Nat.le_trans szu3 hu4.size
          refine hK _ _ ⟨e1u4, (Bu4.cell (by rw [block_of_add]; exact hlta)).trans HC0.out⟩ ?_
          clear hK K
          simp only [Act.put, List.setIfInBounds_toArray, List.set_cons_zero, List.set_cons_succ]
          repeat (refine plan_take _ rfl ?_; (first | (refine wpQuiet_valueG (o := ⟨some 30, _, _, _, _, _⟩) rfl _ (by intro _ h; exact exec_load1 _ 38 _ rfl ⟨w.heap.size, 0, none⟩ rfl _ (h.1.cell (j := 0) rfl) _ Try.underlying38 rfl) (wpQuiet_nil ?_); simp only [Act.put, List.setIfInBounds_toArray, List.set_cons_zero, List.set_cons_succ]) | (refine wpQuiet_valueG (o := ⟨some 33, _, _, _, _, _⟩) rfl _ (by intro _ h; exact exec_load1 _ 35 _ rfl (ad.add k) rfl _ h.2 _ Try.underlying35 rfl) (wpQuiet_nil ?_); simp only [Act.put, List.setIfInBounds_toArray, List.set_cons_zero, List.set_cons_succ]) | (go_big_quiet_step ((intros; rfl)); refine wpQuiet_nil ?_)))
          refine plan_one _ rfl fun K hK => ?_
          obtain ⟨Avu5, cvu5, rfl, _, _, _⟩ := own_form evu4
          refine step_store_elem rfl _ _ _ rfl w5.heap.size 0 rfl _ _ e3u4 (.slice Avu5 (k + 1) cvu5) rfl rfl (by simp) (by kernel_rfl) ?_
          intro wu5 fu5 gu5
          have e1u5 := e1u4.kept gu5 (by simp; omega)
          have e2u5 := e2u4.kept gu5 (by simp; omega)
          have e3u5 : Row wu5 w5.heap.size 40 [.slice Avu5 (k + 1) cvu5] := fu5
          have evu5 := evu4.kept gu5 (.inr (e3u4.not_row7 (by decide) evu4).symm)
          have elu5 := elu4.kept gu5 (by omega)
          have Bu5 := below_kept Bu4 gu5 Bu4.size (by rintro z hz; cases hz; omega)
          have szu5 := Nat.le_trans szu4 gu5.size
          refine hK _ _ ⟨e1u5, (Bu5.cell (by rw [block_of_add]; exact hlta)).trans HC0.out⟩ ?_
          clear hK K
          refine plan_done ?_
          go_wp2_with fail
          go_roundg (gk - 1)
          case measure => have := HK.out; omega
          case rel =>
            refine ⟨k + 1, qs ++ [(⟨Au2, p.n, cu2, p.l⟩ : Part)], _, by have := HK.out; show _ = _; omega, by omega, by go_num, Lib.hid (by rw [List.length_append, HQL.out]; rfl), ?_, e1u5, e2u5, e3u5, ?_, elu5, Bu5, szu5⟩
            · show _ = _
              unfold bk at *
              rw [List.map_append, HQB.out, List.take_add_one, HPK.out, List.map_append]
              rfl
            · rw [List.map_append]
              exact evu5
        · refine step_at _ rfl fun K hK => ?_
          go_simp
          have hu6 : Below wr.drew.heap.size wr.drew (wr.drew.alloc (.cells #[] 5)) := (Below.refl _ _).alloc (Nat.le_refl _) _
          have ou6 := own_empty wr.drew 5 1 wr.drew.heap.size (Below.refl wr.drew.heap.size wr.drew).size
          have e1u6 := e1.drew.on hu6
          have e2u6 := e2.drew.on hu6
          have e3u6 := e3.drew.on hu6
          have evu6 := own_below (w := wr.drew) ev hu6
          have elu6 := OwnL.below (w := wr.drew) el hu6
          have Bu6 := hB.drew.trans (hu6.mono hB.drew.size)
          have Nu6 := (Below.refl wr.drew.heap.size wr.drew).trans (hu6.mono (Below.refl wr.drew.heap.size wr.drew).size)
          have szu6 := Nat.le_trans hsz hu6.size
          refine hK _ _ ⟨e1u6, (Bu6.cell (by rw [block_of_add]; exact hlta)).trans HC0.out⟩ ?_
          clear hK K
          refine plan_two ?_ ?_
          · refine step_at _ rfl fun K hK => ?_
            refine step_valueG (o := ⟨some 27, _, _, _, _, _⟩) rfl _ _ (by exact exec_load1 _ 38 _ rfl ⟨w5.heap.size, 0, none⟩ rfl _ (e3u6.cell (j := 0) rfl) _ Try.underlying38 rfl) ?_
            refine hK _ _ ⟨e1u6, (Bu6.cell (by rw [block_of_add]; exact hlta)).trans HC0.out⟩ ?_
            clear hK K
            simp only [Act.put, List.setIfInBounds_toArray, List.set_cons_zero, List.set_cons_succ]
            refine plan_one _ rfl fun K hK => ?_
            refine step_append_src rfl (.tmp 28) (.tmp 33) _ _ rfl wr.drew.heap.size 5 i0 _ 1 1 Try.underlying35 hi0 hz0 hz1 hz2 rfl _ _ _ rfl ou6 p.n _ (Src.ofReads _ Try.underlying35 (HPR.out.below Bu6) (bvs_one _)) (by unfold maxLen; omega) (by omega) Nu6.size ?_
            intro vu7 wu7 ou7 ku7 hu7
            rw [Nat.zero_add, List.nil_append] at ou7
            obtain ⟨Au7, cu7, rfl, _, _, _⟩ := own_form ou7
            have e1u7 := e1u6.kept ku7 (e1u6.not_row7 (by decide) ou6)
            have e2u7 := e2u6.kept ku7 (e2u6.not_row7 (by decide) ou6)
            have e3u7 := e3u6.kept ku7 (e3u6.not_row7 (by decide) ou6)
            have evu7 := evu6.kept ku7 (own_ne evu6 ou6 (by decide))
            have Bu7 := Bu6.trans (hu7.mono hB.drew.size)
            have Nu7 := Nu6.trans hu7
            have szu7 := Nat.le_trans szu6 hu7.size
            have elu7 := OwnL.snoc (w := wr.drew) (q := ⟨Au7, p.n, cu7, p.l⟩) el Nu7 hsz ou7
            refine hK _ _ ⟨e1u7, (Bu7.cell (by rw [block_of_add]; exact hlta)).trans HC0.out⟩ ?_
            clear hK K
            simp only [Act.put, List.setIfInBounds_toArray, List.set_cons_zero, List.set_cons_succ]
            refine plan_one _ rfl fun K hK => ?_
            go_simp
            have hu8 : Below wu7.heap.size wu7 (wu7.alloc (.cells #[(.slice Au7 p.n cu7)] 35)) := (Below.refl _ _).alloc (Nat.le_refl _) _
            have e1u8 := e1u7.on hu8
            have e2u8 := e2u7.on hu8
            have e3u8 := e3u7.on hu8
            have evu8 := own_below (w := wu7) evu7 hu8
            have elu8 := OwnL.below (w := wu7) elu7 hu8
            have Bu8 := Bu7.trans (hu8.mono Bu7.size)
            have Nu8 := Nu7.trans (hu8.mono Nu7.size)
            have szu8 := Nat.le_trans szu7 hu8.size
            refine hK _ _ ⟨e1u8, (Bu8.cell (by rw [block_of_add]; exact hlta)).trans HC0.out⟩ ?_
            clear hK K
            refine plan_one _ rfl fun K hK => ?_
            refine step_append_src rfl (.tmp 27) (.tmp 35) _ _ rfl w6.heap.size 35 j0' _ 1 24 Try.underlying38 hj0' hy0 hy1 hy2 rfl _ _ _ rfl evu8 1 _ (Src.box Try.underlying38 wu7 (.slice Au7 p.n cu7) 35 rfl 1) (by unfold maxLen; omega) (by omega) szu8 ?_
            intro vu9 wu9 evu9 ku9 hu9
            have e1u9 := e1u8.kept ku9 (e1u8.not_row7 (by decide) evu8)
            have e2u9 := e2u8.kept ku9 (e2u8.not_row7 (by decide) evu8)
            have e3u9 := e3u8.kept ku9 (e3u8.not_row7 (by decide) evu8)
            have elu9 := elu8.kept_row evu8 (by decide) ku9
            have Bu9 := Bu8.trans (hu9.mono B6.size)
            have szu9 := Nat.le_trans szu8 hu9.size
            refine hK _ _ ⟨e1u9, (Bu9.cell (by rw [block_of_add]; exact hlta)).trans HC0.out⟩ ?_
            clear hK K
            simp only [Act.put, List.setIfInBounds_toArray, List.set_cons_zero, List.set_cons_succ]
            repeat (refine plan_take _ rfl ?_; (first | (refine wpQuiet_valueG (o := ⟨some 30, _, _, _, _, _⟩) rfl _ (by intro _ h; exact exec_load1 _ 38 _ rfl ⟨w.heap.size, 0, none⟩ rfl _ (h.1.cell (j := 0) rfl) _ Try.underlying38 rfl) (wpQuiet_nil ?_); simp only [Act.put, List.setIfInBounds_toArray, List.set_cons_zero, List.set_cons_succ]) | (refine wpQuiet_valueG (o := ⟨some 33, _, _, _, _, _⟩) rfl _ (by intro _ h; exact exec_load1 _ 35 _ rfl (ad.add k) rfl _ h.2 _ Try.underlying35 rfl) (wpQuiet_nil ?_); simp only [Act.put, List.setIfInBounds_toArray, List.set_cons_zero, List.set_cons_succ]) | (go_big_quiet_step ((intros; rfl)); refine wpQuiet_nil ?_)))
            refine plan_one _ rfl fun K hK => ?_
            obtain ⟨Avu10, cvu10, rfl, _, _, _⟩ := own_form evu9
            refine step_store_elem rfl _ _ _ rfl w5.heap.size 0 rfl _ _ e3u9 (.slice Avu10 (k + 1) cvu10) rfl rfl (by simp) (by kernel_rfl) ?_
            intro wu10 fu10 gu10
            have e1u10 := e1u9.kept gu10 (by simp; omega)
            have e2u10 := e2u9.kept gu10 (by simp; omega)
            have e3u10 : Row wu10 w5.heap.size 40 [.slice Avu10 (k + 1) cvu10] := fu10
            have evu10 := evu9.kept gu10 (.inr (e3u9.not_row7 (by decide) evu9).symm)
            have elu10 := elu9.kept gu10 (by omega)
            have Bu10 := below_kept Bu9 gu10 Bu9.size (by rintro z hz; cases hz; omega)
            have szu10 := Nat.le_trans szu9 gu10.size
            refine hK _ _ ⟨e1u10, (Bu10.cell (by rw [block_of_add]; exact hlta)).trans HC0.out⟩ ?_
            clear hK K
            refine plan_done ?_
            go_wp2_with fail
            go_roundg (gk - 1)
            case measure => have := HK.out; omega
            case rel =>
              refine ⟨k + 1, qs ++ [(⟨Au7, p.n, cu7, p.l⟩ : Part)], _, by have := HK.out; show _ = _; omega, by omega, by go_num, Lib.hid (by rw [List.length_append, HQL.out]; rfl), ?_, e1u10, e2u10, e3u10, ?_, elu10, Bu10, szu10⟩
              · show _ = _
                unfold bk at *
                rw [List.map_append, HQB.out, List.take_add_one, HPK.out, List.map_append]
                rfl
              · rw [List.map_append]
                exact evu10
          · refine step_at _ rfl fun K hK => ?_
            refine step_append_src rfl (.tmp 28) (.tmp 33) _ _ rfl wr.drew.heap.size 5 i0 _ 1 1 Try.underlying35 hi0 hz0 hz1 hz2 rfl _ _ _ rfl ou6 p.n _ (Src.ofReads _ Try.underlying35 (HPR.out.below Bu6) (bvs_one _)) (by unfold maxLen; omega) (by omega) Nu6.size ?_
            intro vu11 wu11 ou11 ku11 hu11
            rw [Nat.zero_add, List.nil_append] at ou11
            obtain ⟨Au11, cu11, rfl, _, _, _⟩ := own_form ou11
            have e1u11 := e1u6.kept ku11 (e1u6.not_row7 (by decide) ou6)
            have e2u11 := e2u6.kept ku11 (e2u6.not_row7 (by decide) ou6)
            have e3u11 := e3u6.kept ku11 (e3u6.not_row7 (by decide) ou6)
            have evu11 := evu6.kept ku11 (own_ne evu6 ou6 (by decide))
            have Bu11 := Bu6.trans (hu11.mono hB.drew.size)
            have Nu11 := Nu6.trans hu11
            have szu11 := Nat.le_trans szu6 hu11.size
            have elu11 := OwnL.snoc (w := wr.drew) (q := ⟨Au11, p.n, cu11, p.l⟩) el Nu11 hsz ou11
            refine hK _ _ ⟨e1u11, (Bu11.cell (by rw [block_of_add]; exact hlta)).trans HC0.out⟩ ?_
            clear hK K
            simp only [Act.put, List.setIfInBounds_toArray, List.set_cons_zero, List.set_cons_succ]
            refine plan_two ?_ ?_
            · refine step_at _ rfl fun K hK => ?_
              refine step_valueG (o := ⟨some 27, _, _, _, _, _⟩) rfl _ _ (by exact exec_load1 _ 38 _ rfl ⟨w5.heap.size, 0, none⟩ rfl _ (e3u11.cell (j := 0) rfl) _ Try.underlying38 rfl) ?_
              refine hK _ _ ⟨e1u11, (Bu11.cell (by rw [block_of_add]; exact hlta)).trans HC0.out⟩ ?_
              clear hK K
              simp only [Act.put, List.setIfInBounds_toArray, List.set_cons_zero, List.set_cons_succ]
              refine plan_one _ rfl fun K hK => ?_
              go_simp
              have hu12 : Below wu11.heap.size wu11 (wu11.alloc (.cells #[(.slice Au11 p.n cu11)] 35)) := (Below.refl _ _).alloc (Nat.le_refl _) _
              have e1u12 := e1u11.on hu12
              have e2u12 := e2u11.on hu12
              have e3u12 := e3u11.on hu12
              have evu12 := own_below (w := wu11) evu11 hu12
              have elu12 := OwnL.below (w := wu11) elu11 hu12
              have Bu12 := Bu11.trans (hu12.mono Bu11.size)
              have Nu12 := Nu11.trans (hu12.mono Nu11.size)
              have szu12 := Nat.le_trans szu11 hu12.size
              refine hK _ _ ⟨e1u12, (Bu12.cell (by rw [block_of_add]; exact hlta)).trans HC0.out⟩ ?_
              clear hK K
              refine plan_one _ rfl fun K hK => ?_
              refine step_append_src rfl (.tmp 27) (.tmp 35) _ _ rfl w6.heap.size 35 j0' _ 1 24 Try.underlying38 hj0' hy0 hy1 hy2 rfl _ _ _ rfl evu12 1 _ (Src.box Try.underlying38 wu11 (.slice Au11 p.n cu11) 35 rfl 1) (by unfold maxLen; omega) (by omega) szu12 ?_
              intro vu13 wu13 evu13 ku13 hu13
              have e1u13 := e1u12.kept ku13 (e1u12.not_row7 (by decide) evu12)
              have e2u13 := e2u12.kept ku13 (e2u12.not_row7 (by decide) evu12)
              have e3u13 := e3u12.kept ku13 (e3u12.not_row7 (by decide) evu12)
              have elu13 := elu12.kept_row evu12 (by decide) ku13
              have Bu13 := Bu12.trans (hu13.mono B6.size)
              have szu13 := Nat.le_trans szu12 hu13.size
              refine hK _ _ ⟨e1u13, (Bu13.cell (by rw [block_of_add]; exact hlta)).trans HC0.out⟩ ?_
              clear hK K
              simp only [Act.put, List.setIfInBounds_toArray, List.set_cons_zero, List.set_cons_succ]
              repeat (refine plan_take _ rfl ?_; (first | (refine wpQuiet_valueG (o := ⟨some 30, _, _, _, _, _⟩) rfl _ (by intro _ h; exact exec_load1 _ 38 _ rfl ⟨w.heap.size, 0, none⟩ rfl _ (h.1.cell (j := 0) rfl) _ Try.underlying38 rfl) (wpQuiet_nil ?_); simp only [Act.put, List.setIfInBounds_toArray, List.set_cons_zero, List.set_cons_succ]) | (refine wpQuiet_valueG (o := ⟨some 33, _, _, _, _, _⟩) rfl _ (by intro _ h; exact exec_load1 _ 35 _ rfl (ad.add k) rfl _ h.2 _ Try.underlying35 rfl) (wpQuiet_nil ?_); simp only [Act.put, List.setIfInBounds_toArray, List.set_cons_zero, List.set_cons_succ]) | (go_big_quiet_step ((intros; rfl)); refine wpQuiet_nil ?_)))
              refine plan_one _ rfl fun K hK => ?_
              obtain ⟨Avu14, cvu14, rfl, _, _, _⟩ := own_form evu13
              refine step_store_elem rfl _ _ _ rfl w5.heap.size 0 rfl _ _ e3u13 (.slice Avu14 (k + 1) cvu14) rfl rfl (by simp) (by kernel_rfl) ?_
              intro wu14 fu14 gu14
              have e1u14 := e1u13.kept gu14 (by simp; omega)
              have e2u14 := e2u13.kept gu14 (by simp; omega)
              have e3u14 : Row wu14 w5.heap.size 40 [.slice Avu14 (k + 1) cvu14] := fu14
              have evu14 := evu13.kept gu14 (.inr (e3u13.not_row7 (by decide) evu13).symm)
              have elu14 := elu13.kept gu14 (by omega)
              have Bu14 := below_kept Bu13 gu14 Bu13.size (by rintro z hz; cases hz; omega)
              have szu14 := Nat.le_trans szu13 gu14.size
              refine hK _ _ ⟨e1u14, (Bu14.cell (by rw [block_of_add]; exact hlta)).trans HC0.out⟩ ?_
              clear hK K
              refine plan_done ?_
              go_wp2_with fail
              go_roundg (gk - 1)
              case measure => have := HK.out; omega
              case rel =>
                refine ⟨k + 1, qs ++ [(⟨Au11, p.n, cu11, p.l⟩ : Part)], _, by have := HK.out; show _ = _; omega, by omega, by go_num, Lib.hid (by rw [List.length_append, HQL.out]; rfl), ?_, e1u14, e2u14, e3u14, ?_, elu14, Bu14, szu14⟩
                · show _ = _
                  unfold bk at *
                  rw [List.map_append, HQB.out, List.take_add_one, HPK.out, List.map_append]
                  rfl
                · rw [List.map_append]
                  exact evu14
            · refine step_at _ rfl fun K hK => ?_
              go_simp
              have hu15 : Below wu11.heap.size wu11 (wu11.alloc (.cells #[(.slice Au11 p.n cu11)] 35)) := (Below.refl _ _).alloc (Nat.le_refl _) _
              have e1u15 := e1u11.on hu15
              have e2u15 := e2u11.on hu15
              have e3u15 := e3u11.on hu15
              have evu15 := own_below (w := wu11) evu11 hu15
              have elu15 := OwnL.below (w := wu11) elu11 hu15
              have Bu15 := Bu11.trans (hu15.mono Bu11.size)
              have Nu15 := Nu11.trans (hu15.mono Nu11.size)
              have szu15 := Nat.le_trans szu11 hu15.size
              refine hK _ _ ⟨e1u15, (Bu15.cell (by rw [block_of_add]; exact hlta)).trans HC0.out⟩ ?_
              clear hK K
              refine plan_one _ rfl fun K hK => ?_
              refine step_valueG (o := ⟨some 27, _, _, _, _, _⟩) rfl _ _ (by exact exec_load1 _ 38 _ rfl ⟨w5.heap.size, 0, none⟩ rfl _ (e3u15.cell (j := 0) rfl) _ Try.underlying38 rfl) ?_
              refine hK _ _ ⟨e1u15, (Bu15.cell (by rw [block_of_add]; exact hlta)).trans HC0.out⟩ ?_
              clear hK K
              simp only [Act.put, List.setIfInBounds_toArray, List.set_cons_zero, List.set_cons_succ]
              refine plan_one _ rfl fun K hK => ?_
              refine step_append_src rfl (.tmp 27) (.tmp 35) _ _ rfl w6.heap.size 35 j0' _ 1 24 Try.underlying38 hj0' hy0 hy1 hy2 rfl _ _ _ rfl evu15 1 _ (Src.box Try.underlying38 wu11 (.slice Au11 p.n cu11) 35 rfl 1) (by unfold maxLen; omega) (by omega) szu15 ?_
              intro vu16 wu16 evu16 ku16 hu16
              have e1u16 := e1u15.kept ku16 (e1u15.not_row7 (by decide) evu15)
              have e2u16 := e2u15.kept ku16 (e2u15.not_row7 (by decide) evu15)
              have e3u16 := e3u15.kept ku16 (e3u15.not_row7 (by decide) evu15)
              have elu16 := elu15.kept_row evu15 (by decide) ku16
              have Bu16 := Bu15.trans (hu16.mono B6.size)
              have szu16 := Nat.le_trans szu15 hu16.size
              refine hK _ _ ⟨e1u16, (Bu16.cell (by rw [block_of_add]; exact hlta)).trans HC0.out⟩ ?_
              clear hK K
              simp only [Act.put, List.setIfInBounds_toArray, List.set_cons_zero, List.set_cons_succ]
              repeat (refine plan_take _ rfl ?_; (first | (refine wpQuiet_valueG (o := ⟨some 30, _, _, _, _, _⟩) rfl _ (by intro _ h; exact exec_load1 _ 38 _ rfl ⟨w.heap.size, 0, none⟩ rfl _ (h.1.cell (j := 0) rfl) _ Try.underlying38 rfl) (wpQuiet_nil ?_); simp only [Act.put, List.setIfInBounds_toArray, List.set_cons_zero, List.set_cons_succ]) | (refine wpQuiet_valueG (o := ⟨some 33, _, _, _, _, _⟩) rfl _ (by intro _ h; exact exec_load1 _ 35 _ rfl (ad.add k) rfl _ h.2 _ Try.underlying35 rfl) (wpQuiet_nil ?_); simp only [Act.put, List.setIfInBounds_toArray, List.set_cons_zero, List.set_cons_succ]) | (go_big_quiet_step ((intros; rfl)); refine wpQuiet_nil ?_)))
              refine plan_one _ rfl fun K hK => ?_
              obtain ⟨Avu17, cvu17, rfl, _, _, _⟩ := own_form evu16
              refine step_store_elem rfl _ _ _ rfl w5.heap.size 0 rfl _ _ e3u16 (.slice Avu17 (k + 1) cvu17) rfl rfl (by simp) (by kernel_rfl) ?_
              intro wu17 fu17 gu17
              have e1u17 := e1u16.kept gu17 (by simp; omega)
              have e2u17 := e2u16.kept gu17 (by simp; omega)
              have e3u17 : Row wu17 w5.heap.size 40 [.slice Avu17 (k + 1) cvu17] := fu17
              have evu17 := evu16.kept gu17 (.inr (e3u16.not_row7 (by decide) evu16).symm)
              have elu17 := elu16.kept gu17 (by omega)
              have Bu17 := below_kept Bu16 gu17 Bu16.size (by rintro z hz; cases hz; omega)
              have szu17 := Nat.le_trans szu16 gu17.size
              refine hK _ _ ⟨e1u17, (Bu17.cell (by rw [block_of_add]; exact hlta)).trans HC0.out⟩ ?_
              clear hK K
              refine plan_done ?_
              go_wp2_with fail
              go_roundg (gk - 1)
              case measure => have := HK.out; omega
              case rel =>
                refine ⟨k + 1, qs ++ [(⟨Au11, p.n, cu11, p.l⟩ : Part)], _, by have := HK.out; show _ = _; omega, by omega, by go_num, Lib.hid (by rw [List.length_append, HQL.out]; rfl), ?_, e1u17, e2u17, e3u17, ?_, elu17, Bu17, szu17⟩
                · show _ = _
                  unfold bk at *
                  rw [List.map_append, HQB.out, List.take_add_one, HPK.out, List.map_append]
                  rfl
                · rw [List.map_append]
                  exact evu17
      · obtain rfl : k = n := by omega
        have HBQ : Hid (bk qs = bk ps) := Lib.hid (by rw [HQB.out, List.take_of_length_le (by rw [HLN.out]; exact Nat.le_refl _)])
        obtain ⟨p, hpk, hpl0⟩ : ∃ p, qs[k0]? = some p ∧ p.l = l0 := by
          have hl := HL0.out
          rw [← HBQ.out] at hl
          unfold bk at hl
          rw [List.getElem?_map, Option.map_eq_some_iff] at hl
          exact hl
        have hkn : k0 < k := by rw [← HQL.out]; exact (List.getElem?_eq_some_iff.1 hpk).1
        have evc := ev
        obtain ⟨_, ⟨_, h0⟩ | ⟨G, cap, cur, rfl, hG, hh, hnc, hcm, hcs, htk⟩⟩ := ev
        · omega
        have hrG : Row wr G 35 cur.toList := hh
        have hlG := hrG.lt
        have hpo := el.1 p (List.mem_of_getElem? hpk)
        have hpl : p.l.length = p.n := by have := hpo.1; rw [bvs_length] at this; omega
        have hjn : j0 < p.n := by rw [← hpl, hpl0]; exact hj0
        have hs0 := HS0.out
        rw [← hpl0] at hs0
        obtain ⟨g, hpA, hgG, w8, hst, d8, g8⟩ := own_store (P := Try.prog) el hpk hjn (fuPl s0 cut) 5 (by kernel_rfl)
        have HST := Lib.hid hst
        have HSP := Lib.hid (setPart_v hpk j0 (fuPl s0 cut))
        have HSB : Hid (bk (setPart qs k0 p j0 (fuPl s0 cut)) = fuPulse (bk ps) (k0 : Int) (j0 : Int) cut) := Lib.hid (by rw [setPart_bk, HPU.out, HBQ.out, hpl0])
        have HQK : Hid ((cur.toList)[k0]? = some (Value.slice (some ⟨g, 0, none⟩) p.n p.c)) := Lib.hid (by
          have h : (qs.map Part.v)[k0]? = some p.v := by rw [List.getElem?_map, hpk]; rfl
          rw [← htk, List.getElem?_take_of_lt (by omega)] at h
          rw [h]
          unfold Part.v
          rw [hpA])
        have HCJ : Hid (wr.cell? ⟨g, j0, none⟩ = some (bv s0)) := Lib.hid (by
          obtain ⟨_, _, hv, _, _, hrd⟩ := own_form hpo
          obtain ⟨ad, hA, _, hc⟩ := Reads.byte_at hrd hs0
          unfold Part.v at hv
          injection hv with e1 e2 e3
          rw [hpA] at e1
          rw [← e1] at hA
          cases hA
          rw [Addr.add_lit, Nat.zero_add] at hc
          exact hc)
        have hev8 := evc.kept g8 (by
          have h := own_ne hpo evc (by decide)
          rcases h with h | h
          · unfold Part.v at h
            rw [hpA] at h
            cases h
          · refine .inr fun e => h ?_
            rw [e]
            unfold Part.v
            rw [hpA]
            rfl)
        have f2 := e2.kept g8 (by simp; omega)
        have f3 := e3.kept g8 (by simp; omega)
        have B8 := below_kept hB g8 hB.size (by rintro z hz; cases hz; omega)
        have hcG := hrG.cell HQK.out
        have hcj := HCJ.out
        have c3 := e3.cell (j := 0) rfl
        have hs8 := g8.size
        have FIN : ∀ wy ps' (W : World), W.ownsRow w6.heap.size 35 1 (.slice (some ⟨G, 0, none⟩) k cap) k (ps'.map Part.v) → OwnL W w6.heap.size ps' → bk ps' = fuPulse (bk ps) (k0 : Int) (j0 : Int) cut → Below w.heap.size w W → w6.heap.size ≤ W.heap.size → W.grownBy wy (some w1.heap.size) → GivesFX X (fuPulse (bk ps) (k0 : Int) (j0 : Int) cut) (fuErr (bk ps) (k0 : Int) (j0 : Int)) w (.returned (.tuple #[fuv (some ⟨G, 0, none⟩) k cap, .int .i64 0])) wy := fun wy ps' W ho hl hb hBW hsz hg => by
          have ho' := ho.kept hg (.inr fun e => by have := (ho.lt G rfl).1; simp [Value.ownBlock] at e; omega)
          have hl' := hl.kept hg (by omega)
          obtain ⟨h1, h2⟩ := hl'.reads (Reads.of_own ho')
          exact ⟨_, k, cap, ps', by rw [HE.out], ⟨h1, hnc, h2⟩, ⟨fun h0 ad e => .inr (by have := own_block ho' h0 ad e; omega), fun p hp h0 ad e => .inr (by have := hl'.blocks p hp h0 ad e; omega)⟩, hb, below_kept hBW hg hBW.size (by rintro z hz; cases hz; omega)⟩
        have HFIN := Lib.hid FIN
        clear FIN hpk hpo hpl0 hs0 hst hh htk hcs HEX hpA
        unfold bv at hcj
        rcases fu_pstates s0 cut with ⟨hs, hq⟩ | ⟨hs0', hs1', hq⟩
        · have hle : (s0.toNat : Int) ≤ 1 := by omega
          have HSN : Hid (evc = evc) := rfl
          rw [hq] at HST
          generalize s0.toNat = sv at *
          cases cut with
          | true =>
            have HST' : Hid ((storeVar 5 ⟨g, j0, none⟩ (.int .u8 1)).run Try.prog wr = .ok () w8) := HST
            clear HST hs hq
            go_wp2_with (first
              | ((with_reducible refine wpList_at ⟨none, .store _ (.tmp 57) _, _, _, _, _⟩ ?_); refine wpList_store_run rfl _ _ _ rfl ⟨g, j0, none⟩ rfl (.int .u8 1) rfl w8 HST'.out ?_; have c8 := f3.cell (j := 0) rfl)
              | ((with_reducible refine wpList_at ⟨none, .store _ (.tmp 8) _, _, _, _, _⟩ ?_); refine wpList_store_all rfl _ _ _ rfl w1.heap.size rfl _ _ f2 [.slice (some ⟨G, 0, none⟩) k cap] rfl (slice_one _ _ _) rfl (by kernel_rfl) ?_; intro wy ry gy))
            have hload := run_loadVar_at (P := Try.prog) wy 40 ⟨w1.heap.size, 0, none⟩ [.slice (some ⟨G, 0, none⟩) k cap] ry.cells _ Try.underlying40 rfl (by kernel_rfl)
            exact bodyPost_ret (results_cellE Try.results35 _ _ _ _ rfl hload) rfl (HFIN.out wy _ w8 (by rw [HSP.out]; exact hev8) d8 HSB.out B8 (by omega) gy)
          | false =>
            have HST' : Hid ((storeVar 5 ⟨g, j0, none⟩ (.int .u8 2)).run Try.prog wr = .ok () w8) := HST
            clear HST hs hq
            go_wp2_with (first
              | ((with_reducible refine wpList_at ⟨none, .store _ (.tmp 70) _, _, _, _, _⟩ ?_); refine wpList_store_run rfl _ _ _ rfl ⟨g, j0, none⟩ rfl (.int .u8 2) rfl w8 HST'.out ?_; have c8 := f3.cell (j := 0) rfl)
              | ((with_reducible refine wpList_at ⟨none, .store _ (.tmp 8) _, _, _, _, _⟩ ?_); refine wpList_store_all rfl _ _ _ rfl w1.heap.size rfl _ _ f2 [.slice (some ⟨G, 0, none⟩) k cap] rfl (slice_one _ _ _) rfl (by kernel_rfl) ?_; intro wy ry gy))
            have hload := run_loadVar_at (P := Try.prog) wy 40 ⟨w1.heap.size, 0, none⟩ [.slice (some ⟨G, 0, none⟩) k cap] ry.cells _ Try.underlying40 rfl (by kernel_rfl)
            exact bodyPost_ret (results_cellE Try.results35 _ _ _ _ rfl hload) rfl (HFIN.out wy _ w8 (by rw [HSP.out]; exact hev8) d8 HSB.out B8 (by omega) gy)
        · have hle : ¬ (s0.toNat : Int) ≤ 1 := by omega
          have HSM : Hid (bk qs = fuPulse (bk ps) (k0 : Int) (j0 : Int) cut) := Lib.hid (by
            rw [HBQ.out, HPU.out, hq, set_self HS0.out, set_self HL0.out])
          generalize s0.toNat = sv at *
          clear hs0' hs1' hq
          go_wp2_with ((with_reducible refine wpList_at ⟨none, .store _ (.tmp 8) _, _, _, _, _⟩ ?_); refine wpList_store_all rfl _ _ _ rfl w1.heap.size rfl _ _ e2 [.slice (some ⟨G, 0, none⟩) k cap] rfl (slice_one _ _ _) rfl (by kernel_rfl) ?_; intro wy ry gy)
          have hload := run_loadVar_at (P := Try.prog) wy 40 ⟨w1.heap.size, 0, none⟩ [.slice (some ⟨G, 0, none⟩) k cap] ry.cells _ Try.underlying40 rfl (by kernel_rfl)
          exact bodyPost_ret (results_cellE Try.results35 _ _ _ _ rfl hload) rfl (HFIN.out wy _ wr evc el HSM.out hB hsz gy)
theorem rpulse_any (A : Option Addr) (n c : Nat) (ps : List Part) (b i : Int) (cut : Bool) (w : World) (hok : FuOK w A n c ps) (hn : n ≤ 100) (hp : ∀ p ∈ ps, p.n ≤ 1000) :
    Calls Try.prog 35 #[fuv A n c, .int .i64 b, .int .i64 i, .bool cut] w (GivesFE (fuPulse (bk ps) b i cut) (fuErr (bk ps) b i) w) := by
  refine (rpulse_in (fun _ => True) A n c ps ⟨fun _ _ _ => trivial, fun _ _ _ _ _ => trivial⟩ b i cut w hok hn hp).mono ?_
  rintro e w' ⟨A', n', c', qs, rfl, ho, _, hb, hB⟩
  exact ⟨A', n', c', qs, rfl, ho, hb, hB⟩
end Go.Proofs.Ytfcbcclcmgheeaa
