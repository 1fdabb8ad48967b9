/-
  What fuse.clone and fuse.Pulse return: contracts by walks. Condition: bounded lengths.
-/
import Derived.Test.YtkepmhkakkkliaaFuC
namespace Go.Proofs.Ytkepmhkakkkliaa
open Go.RowKit

/-- Fuses of the call's own. -/
def OwnB (w : World) (base : Nat) (A : Option Addr) (n c : Nat) (qs : List Part) : Prop :=
  qs.length = n ∧ n ≤ c ∧ (0 < n → ∃ G tl, A = some ⟨G, 0, none⟩ ∧ base ≤ G ∧ Row w G 56 (qs.map Part.v ++ tl) ∧ OwnL w (G + 1) qs)
theorem OwnB.ok {w : World} {base : Nat} {A : Option Addr} {n c : Nat} {qs : List Part} (h : OwnB w base A n c qs) : FuOK w A n c qs := by
  obtain ⟨hl, hc, h⟩ := h
  rcases Nat.eq_zero_or_pos n with h0 | h0
  · subst h0
    obtain rfl : qs = [] := List.eq_nil_of_length_eq_zero hl
    exact ⟨⟨Reads.nil_, fun p hp => by simp at hp⟩, hc, fun p hp => by simp at hp⟩
  · obtain ⟨G, tl, rfl, _, hrow, ho⟩ := h h0
    have hr : Reads w w.heap.size 1 (some ⟨G, 0, none⟩) n (qs.map Part.v) := ⟨by rw [List.length_map, hl, Nat.mul_one], fun _ => ⟨_, rfl, hrow.lt, fun j u hj => by
      rw [Addr.add_lit, Nat.zero_add]
      refine hrow.cell ?_
      rw [List.getElem?_append_left (List.getElem?_eq_some_iff.1 hj).1]
      exact hj⟩⟩
    obtain ⟨h1, h2⟩ := ho.reads hr
    exact ⟨h1, hc, h2⟩
theorem OwnB.in_ {w : World} {base : Nat} {A : Option Addr} {n c : Nat} {qs : List Part} (h : OwnB w base A n c qs) : FuIn (fun b => base ≤ b) A n qs := by
  obtain ⟨hl, _, h⟩ := h
  rcases Nat.eq_zero_or_pos n with h0 | h0
  · subst h0
    obtain rfl : qs = [] := List.eq_nil_of_length_eq_zero hl
    exact FuIn.nil_
  · obtain ⟨G, tl, rfl, hG, _, ho⟩ := h h0
    refine ⟨fun _ ad e => by cases e; exact hG, fun p hp hp0 ad e => ?_⟩
    have := ho.blocks p hp hp0 ad e
    show base ≤ _
    omega
theorem partv_one (ps : List Part) : ∀ u ∈ ps.map Part.v, u.oneCell' = true := by
  intro u hu
  obtain ⟨p, _, rfl⟩ := List.mem_map.1 hu
  rfl
/-- The row of banks, the first i of which have been exchanged. -/
def midR (qs ps : List Part) (i : Nat) (tl : List Value) : List Value := qs.map Part.v ++ ((ps.drop i).map Part.v ++ tl)
theorem midR_at {qs ps : List Part} {i : Nat} {tl : List Value} (hq : qs.length = i) {p : Part} (hp : ps[i]? = some p) : (midR qs ps i tl)[i]? = some p.v := by
  unfold midR
  rw [List.getElem?_append_right (by rw [List.length_map]; omega), List.length_map, hq, Nat.sub_self, List.getElem?_append_left (by rw [List.length_map, List.length_drop]; have := (List.getElem?_eq_some_iff.1 hp).1; omega), List.getElem?_map, List.getElem?_drop, Nat.add_zero, hp]
  rfl
theorem midR_set {qs ps : List Part} {i : Nat} {tl : List Value} (hq : qs.length = i) {p : Part} (hp : ps[i]? = some p) (q : Part) : (midR qs ps i tl).set i q.v = midR (qs ++ [q]) ps (i + 1) tl := by
  have hi := (List.getElem?_eq_some_iff.1 hp).1
  unfold midR
  rw [List.set_append_right _ _ (by rw [List.length_map]; omega), List.length_map, hq, Nat.sub_self, List.drop_eq_getElem_cons hi, List.map_cons, List.cons_append, List.set_cons_zero, List.map_append, List.append_assoc]
  rfl
theorem midR_len {qs ps : List Part} {i : Nat} {tl : List Value} {p : Part} (hp : ps[i]? = some p) (hq : qs.length = i) : i < (midR qs ps i tl).length := by
  have hi := (List.getElem?_eq_some_iff.1 hp).1
  unfold midR
  rw [List.length_append, List.length_append, List.length_map, List.length_map, List.length_drop]
  omega

set_option maxRecDepth 100000 in
set_option maxHeartbeats 4000000 in
theorem fclone_any (A : Option Addr) (n c : Nat) (ps : List Part) (w : World) (hr : ReadsP w w.heap.size A n ps) (hn : n ≤ 100) (hp : ∀ p ∈ ps, p.n ≤ 1000) :
    Calls Try.prog 71 #[fuv A n c] w fun e w' => ∃ A' c' qs, e = .returned (fuv A' n c') ∧ OwnB w' w.heap.size A' n c' qs ∧ bk qs = bk ps ∧ Below w.heap.size w w' := by
  have HLN := Lib.hid hr.len
  have HCB := fun W hW => Lib.hid (cloneB_any A n c (ps.map Part.v) (partv_one ps) (by omega) W hW)
  have HCC := fun (p : Part) (hp : p.n ≤ 1000) W hW => Lib.hid (cloneC_any p.A p.n p.c (bvs p.l) (bvs_one _) (by omega) W hW)
  have HPN := Lib.hid hp
  clear hp
  unfold fuv
  go_enter Try.func71, Try.ntmps71
  go_wp2_with (first
    | (with_reducible refine wpList_box_row (o := ⟨some 1, _, _, _, _, _⟩) rfl _ _ rfl [.slice A n c] rfl ?_; intro w1 r1 s1 g1)
    | (with_reducible refine wpList_alloc_row (o := ⟨some 2, _, _, _, _, _⟩) rfl _ rfl [.slice none 0 0] (by kernel_rfl) ?_; intro w2 r2 s2 g2; have q1 := r1.kept g2 (by simp); have b2 := below_kept (grown_below g1 (Nat.le_refl _) (by simp)) g2 (Nat.le_of_lt s1) (by simp); have c1 := q1.cell (j := 0) rfl; clear r1 g1 g2))
  have hne := r2.lt
  refine (HCB _ (hr.1.on b2)).out.mono ?_
  rintro e w3 ⟨v3, rfl, hown, b3⟩
  have t1 := q1.on b3
  have t2 := r2.on b3
  have B3 := b2.trans (b3.mono b2.size)
  clear q1 r2 c1
  have hsz3 := b3.size
  obtain ⟨_, ⟨rfl, hn0⟩ | ⟨G, cap, cur, rfl, hG, hh, hnc, hcm, hcs, htk⟩⟩ := hown
  · subst hn0
    go_wp2_with (with_reducible refine wpList_at ⟨none, .store _ (.tmp 8) _, _, _, _, _⟩ ?_; refine wpList_store_elem rfl _ _ _ rfl w.heap.size 0 rfl _ _ t1 (.slice none 0 0) rfl rfl (by simp) (by kernel_rfl) ?_; intro w4 t4 g4; have u1 := t4.cell (j := 0) rfl)
    have t4b := t2.kept g4 (by simp; omega)
    have B4 := below_kept B3 g4 B3.size (by rintro k hk; cases hk; exact Nat.le_refl _)
    go_loopg [12] 0 (fun _ s12 wr => s12 = .int .i64 0 ∧ wr = w4)
    case atStart => exact ⟨rfl, rfl⟩
    case round =>
      obtain ⟨rfl, rfl⟩ := hrel
      go_wp2_with (with_reducible refine wpList_store_all (o := ⟨none, _, _, _, _, _⟩) rfl _ _ _ rfl w1.heap.size rfl _ _ t4b [.slice none 0 0] rfl (slice_one _ _ _) rfl (by kernel_rfl) ?_; intro wy ry gy)
      have hload := run_loadVar_at (P := Try.prog) wy 24 ⟨w1.heap.size, 0, none⟩ [.slice none 0 0] ry.cells _ Try.underlying24 rfl (by kernel_rfl)
      refine bodyPost_ret (results_cell1 Try.results71 _ _ _ _ rfl hload) rfl ⟨none, 0, [], rfl, ⟨rfl, Nat.le_refl _, fun h => by omega⟩, ?_, below_kept B4 gy B4.size (by rintro k hk; cases hk; omega)⟩
      have : ps = [] := List.eq_nil_of_length_eq_zero HLN.out
      rw [this]
  · have hrG : Row w3 G 56 cur.toList := hh
    have hcur : cur.toList = midR [] ps 0 (cur.toList.drop n) := by
      unfold midR
      rw [Nat.mul_one] at htk
      rw [List.drop_zero, ← htk, List.map_nil, List.nil_append, List.take_append_drop]
    rw [hcur] at hrG
    generalize cur.toList.drop n = tl at *
    go_wp2_with (with_reducible refine wpList_at ⟨none, .store _ (.tmp 8) _, _, _, _, _⟩ ?_; refine wpList_store_elem rfl _ _ _ rfl w.heap.size 0 rfl _ _ t1 (.slice (some ⟨G, 0, none⟩) n cap) rfl rfl (by simp) (by kernel_rfl) ?_; intro w4 t4 g4; have u1 := t4.cell (j := 0) rfl)
    have t4b := t2.kept g4 (by simp; omega)
    have hrG4 := hrG.kept g4 (by simp; omega)
    have B4 := below_kept B3 g4 B3.size (by rintro k hk; cases hk; exact Nat.le_refl _)
    clear hrG hcur htk hcs hh t1 t2 B3 b3 g4 u1
    rw [show [Value.slice A n c].set 0 (.slice (some ⟨G, 0, none⟩) n cap) = [.slice (some ⟨G, 0, none⟩) n cap] from rfl] at t4
    go_loopg [12] n (fun g s12 wr => ∃ (i : Nat) (qs : List Part), Hid (i + g = n) ∧ i ≤ n ∧ s12 = .int .i64 (i : Int) ∧ Hid (qs.length = i) ∧ Hid (bk qs = bk (ps.take i)) ∧ Row wr w.heap.size 24 [.slice (some ⟨G, 0, none⟩) n cap] ∧ Row wr w1.heap.size 24 [.slice none 0 0] ∧ Row wr G 56 (midR qs ps i tl) ∧ OwnL wr (G + 1) qs ∧ Below w.heap.size w wr)
    case atStart => exact ⟨0, [], by show _ = _; omega, by omega, rfl, Lib.hid rfl, Lib.hid rfl, t4, t4b, hrG4, OwnL.nil_, B4⟩
    case round =>
      obtain ⟨i, qs, HI, hi, rfl, HQL, HQB, e1, e2, e3, e4, hB⟩ := hrel
      by_cases hlt : i < n
      · obtain ⟨p, hpi⟩ : ∃ p, ps[i]? = some p := ⟨_, List.getElem?_eq_getElem (by rw [HLN.out]; exact hlt)⟩
        have HP := Lib.hid hpi
        have hrp := ((hr.2 p (List.mem_of_getElem? hpi)).1.below hB)
        have hpn := HPN.out p (List.mem_of_getElem? hpi)
        have hci := e3.cell (midR_at HQL.out hpi)
        clear hpi
        unfold Part.v at hci
        go_wp2_with fail
        have hGl := e3.lt
        have HMS := fun q => Lib.hid (midR_set (tl := tl) HQL.out HP.out q)
        have HML := Lib.hid (midR_len (tl := tl) HP.out HQL.out)
        refine wp_region_plan (fun w' => Row w' w.heap.size 24 [.slice (some ⟨G, 0, none⟩) n cap]) (.take 0 <| .take 1 <| .take 2 <| .take 3 <| .one 4 <| .take 5 <| .one 6 <| .done) (by kernel_rfl) (by kernel_rfl) (by kernel_rfl) (fun _ _ _ _ _ h => h) e1.drew ?_
        repeat (refine plan_take _ rfl ?_; (first | (refine wpQuiet_valueG (o := ⟨some 18, _, _, _, _, _⟩) rfl _ (by intro _ h; exact exec_load1 _ 22 _ rfl ⟨w.heap.size, 0, none⟩ rfl _ (h.cell (j := 0) rfl) _ Try.underlying22 rfl) (wpQuiet_nil ?_); simp only [Act.put, List.setIfInBounds_toArray, List.set_cons_zero, List.set_cons_succ]) | (go_big_quiet_step ((intros; rfl)); refine wpQuiet_nil ?_)))
        refine plan_one _ rfl fun K hK => ?_
        go_simp
        refine (HCC p hpn wr.drew (hrp.more hB.size)).out.mono ?_
        rintro e w5 ⟨v5, rfl, hown5, b5⟩
        have f1 := e1.drew.on b5
        have f2 := e2.drew.on b5
        have f3 := e3.drew.on b5
        have B5 := hB.drew.trans (b5.mono hB.drew.size)
        obtain ⟨A5, c5, rfl, _, _, _⟩ := own_form hown5
        have f4 := OwnL.snoc (w := wr.drew) (q := ⟨A5, p.n, c5, p.l⟩) e4 b5 hGl hown5
        refine hK _ _ f1 ?_
        clear hK K
        repeat (refine plan_take _ rfl ?_; (first | (refine wpQuiet_valueG (o := ⟨some 18, _, _, _, _, _⟩) rfl _ (by intro _ h; exact exec_load1 _ 22 _ rfl ⟨w.heap.size, 0, none⟩ rfl _ (h.cell (j := 0) rfl) _ Try.underlying22 rfl) (wpQuiet_nil ?_); simp only [Act.put, List.setIfInBounds_toArray, List.set_cons_zero, List.set_cons_succ]) | (go_big_quiet_step ((intros; rfl)); refine wpQuiet_nil ?_)))
        refine plan_one _ rfl fun K hK => ?_
        refine step_store_elem rfl _ _ _ rfl G i rfl _ _ f3 (.slice A5 p.n c5) rfl rfl HML.out (by kernel_rfl) ?_
        intro w6 f6 g6
        have d1 := f1.kept g6 (by simp; omega)
        have d2 := f2.kept g6 (by simp; omega)
        have d4 := f4.kept g6 (Nat.lt_succ_self _)
        have B6 := below_kept B5 g6 B5.size (by rintro k hk; cases hk; omega)
        rw [show Value.slice A5 p.n c5 = (⟨A5, p.n, c5, p.l⟩ : Part).v from rfl, (HMS _).out] at f6
        refine hK _ _ d1 ?_
        clear hK K
        refine plan_done ?_
        go_wp2_with fail
        go_roundg (gk - 1)
        case measure => have := HI.out; omega
        case rel =>
          refine ⟨i + 1, qs ++ [⟨A5, p.n, c5, p.l⟩], by have := HI.out; show _ = _; omega, by omega, by go_num, Lib.hid (by rw [List.length_append, HQL.out]; rfl), ?_, d1, d2, f6, d4, B6⟩
          show _ = _
          unfold bk
          rw [List.map_append, show List.map Part.l qs = bk qs from rfl, HQB.out, List.take_add_one, HP.out, List.map_append]
          rfl
      · obtain rfl : i = n := by omega
        have hc1 := e1.cell (j := 0) rfl
        go_wp2_with (with_reducible refine wpList_store_all (o := ⟨none, _, _, _, _, _⟩) rfl _ _ _ rfl w1.heap.size rfl _ _ e2 [.slice (some ⟨G, 0, none⟩) i cap] rfl (slice_one _ _ _) rfl (by kernel_rfl) ?_; intro wy ry gy)
        have hload := run_loadVar_at (P := Try.prog) wy 24 ⟨w1.heap.size, 0, none⟩ [.slice (some ⟨G, 0, none⟩) i cap] ry.cells _ Try.underlying24 rfl (by kernel_rfl)
        have e3y := e3.kept gy (by simp; omega)
        have e4y := e4.kept gy (by omega)
        unfold midR at e3y
        rw [List.drop_of_length_le (by rw [HLN.out]; exact Nat.le_refl _), List.map_nil, List.nil_append] at e3y
        refine bodyPost_ret (results_cell1 Try.results71 _ _ _ _ rfl hload) rfl ⟨some ⟨G, 0, none⟩, cap, qs, rfl, ⟨HQL.out, hnc, fun _ => ⟨G, tl, rfl, by omega, e3y, e4y⟩⟩, ?_, below_kept hB gy hB.size (by rintro k hk; cases hk; omega)⟩
        rw [HQB.out, List.take_of_length_le (by rw [HLN.out]; exact Nat.le_refl _)]

theorem OwnB.base {w : World} {b b' : Nat} {A : Option Addr} {n c : Nat} {qs : List Part} (h : OwnB w b A n c qs) (hb : b' ≤ b) : OwnB w b' A n c qs := ⟨h.1, h.2.1, fun h0 => by
  obtain ⟨G, tl, e1, e2, e3⟩ := h.2.2 h0
  exact ⟨G, tl, e1, Nat.le_trans hb e2, e3⟩⟩
theorem OwnB.kept {w w' : World} {b g : Nat} {A : Option Addr} {n c : Nat} {qs : List Part} (h : OwnB w b A n c qs) (hg : w.grownBy w' (some g)) (hlt : g < b) : OwnB w' b A n c qs := ⟨h.1, h.2.1, fun h0 => by
  obtain ⟨G, tl, e1, e2, e3, e4⟩ := h.2.2 h0
  exact ⟨G, tl, e1, e2, e3.kept hg (by simp; omega), e4.kept hg (by omega)⟩⟩
/-- Fuses of the call's own come back, and an error. -/
def GivesFO (bs : List (List UInt8)) (x : Int) (w : World) (e : Ending) (w' : World) : Prop :=
  ∃ A n c ps, e = .returned (.tuple #[fuv A n c, .int .i64 x]) ∧ OwnB w' w.heap.size A n c ps ∧ bk ps = bs ∧ Below w.heap.size w w'


set_option maxRecDepth 100000 in
set_option maxHeartbeats 4000000 in
theorem fpulse_own (A : Option Addr) (n c : Nat) (ps : List Part) (b i : Int) (cut : Bool) (w : World) (hr : ReadsP w w.heap.size A n ps) (hn : n ≤ 100) (hp : ∀ p ∈ ps, p.n ≤ 1000) :
    Calls Try.prog 62 #[fuv A n c, .int .i64 b, .int .i64 i, .bool cut] w (GivesFO (fuPulse (bk ps) b i cut) (fuErr (bk ps) b i) w) := by
  have HCL := fun W hW => Lib.hid (fclone_any A n c ps W hW hn hp)
  have HEX := fun A c qs W hW => Lib.hid (fexists_any A n c qs b i W hW)
  have HPS := fun s W => Lib.hid (pulsed_any s cut W)
  have HLN := Lib.hid hr.len
  clear hp
  unfold fuv at *
  go_enter Try.func62, Try.ntmps62
  go_wp2_with (first
    | (with_reducible refine wpList_box_row (o := ⟨some 4, _, _, _, _, _⟩) rfl _ _ rfl [.slice A n c] rfl ?_; intro w1 r1 s1 g1)
    | (with_reducible refine wpList_alloc_row (o := ⟨some 8, _, _, _, _, _⟩) rfl _ rfl [.slice none 0 0] (by kernel_rfl) ?_; intro w2 r2 s2 g2; have q1 := r1.kept g2 (by simp); have b2 := below_kept (grown_below g1 (Nat.le_refl _) (by simp)) g2 (Nat.le_of_lt s1) (by simp); have c1 := q1.cell (j := 0) rfl; clear r1 g1 g2))
  refine (HCL _ (hr.on b2)).out.mono ?_
  rintro e w3 ⟨A3, c3, qs, rfl, hown, hbk, b3⟩
  have t1 := q1.on b3
  have t2 := r2.on b3
  have B3 := b2.trans (b3.mono b2.size)
  have hl1 := r2.lt
  have hs3 := b3.size
  clear q1 r2 c1
  go_wp2_with (with_reducible refine wpList_store_all (o := ⟨none, _, _, _, _, _⟩) rfl _ _ _ rfl w.heap.size rfl _ _ t1 [.slice A3 n c3] rfl (slice_one _ _ _) rfl (by kernel_rfl) ?_; intro w4 t4 g4; have u1 := t4.cell (j := 0) rfl)
  have t4b := t2.kept g4 (by simp; omega)
  have B4 := below_kept B3 g4 B3.size (by rintro k hk; cases hk; exact Nat.le_refl _)
  have hown4 : OwnB w4 w2.heap.size A3 n c3 qs := ⟨hown.1, hown.2.1, fun h => by
    obtain ⟨G, tl, e1, e2, e3, e4⟩ := hown.2.2 h
    exact ⟨G, tl, e1, e2, e3.kept g4 (by simp; omega), e4.kept g4 (by omega)⟩⟩
  clear hown t1 t2 g4
  refine (HEX _ _ _ _ hown4.ok.1).out.mono ?_
  rintro e w5 ⟨rfl, b5⟩
  have hown5 : OwnB w5 w2.heap.size A3 n c3 qs := ⟨hown4.1, hown4.2.1, fun h => by
    obtain ⟨G, tl, e1, e2, e3, e4⟩ := hown4.2.2 h
    exact ⟨G, tl, e1, e2, e3.on b5, e4.below b5⟩⟩
  have d1 := t4.on b5
  have d2 := t4b.on b5
  have B5 := B4.trans (b5.mono B4.size)
  have v1 := d1.cell (j := 0) rfl
  clear t4 t4b u1 hown4
  rw [hbk]
  cases hx : fuEx (bk ps) b i with
  | false =>
    have HE := Lib.hid (fuErr_out hx)
    have HP := Lib.hid (fuPulse_out (cut := cut) hx)
    clear hx
    go_wp2_with (with_reducible refine wpList_store_all (o := ⟨none, _, _, _, _, _⟩) rfl _ _ _ rfl w1.heap.size rfl _ _ d2 [.slice A3 n c3] rfl (slice_one _ _ _) rfl (by kernel_rfl) ?_; intro wy ry gy)
    have hload := run_loadVar_at (P := Try.prog) wy 24 ⟨w1.heap.size, 0, none⟩ [.slice A3 n c3] ry.cells _ Try.underlying24 rfl (by kernel_rfl)
    refine bodyPost_ret (results_cellE Try.results62 _ _ _ _ rfl hload) rfl ⟨A3, n, c3, qs, by rw [HE.out]; rfl, ?_, by rw [HP.out]; exact hbk, below_kept B5 gy B5.size (by rintro k hk; cases hk; omega)⟩
    have hO : OwnB wy w2.heap.size A3 n c3 qs := ⟨hown5.1, hown5.2.1, fun h => by
      obtain ⟨G, tl, e1, e2, e3, e4⟩ := hown5.2.2 h
      exact ⟨G, tl, e1, e2, e3.kept gy (by simp; omega), e4.kept gy (by omega)⟩⟩
    exact hO.base (Nat.le_trans (Nat.le_of_lt s1) (Nat.le_of_lt s2))
  | true =>
    have HE := Lib.hid (fuErr_in hx)
    obtain ⟨k, j, l, rfl, rfl, hl, hj⟩ := fuEx_iff.1 hx
    clear hx
    rw [← hbk] at hl
    obtain ⟨p, hpk, rfl⟩ : ∃ p, qs[k]? = some p ∧ p.l = l := by
      unfold bk at hl
      rw [List.getElem?_map, Option.map_eq_some_iff] at hl
      exact hl
    have hkn : k < n := by rw [← hown5.1]; exact (List.getElem?_eq_some_iff.1 hpk).1
    obtain ⟨hql, hqc, hq3⟩ := hown5
    obtain ⟨G, tl, rfl, hG, d3, d4⟩ := hq3 (by omega)
    obtain ⟨s, hs⟩ : ∃ s, p.l[j]? = some s := ⟨_, List.getElem?_eq_getElem hj⟩
    have hpo := d4.1 p (List.mem_of_getElem? hpk)
    have hpl : p.l.length = p.n := by have := hpo.1; rw [bvs_length] at this; omega
    have hjn : j < p.n := by omega
    obtain ⟨g, hpA, hgG, w8, hst, d8, g8⟩ := own_store (P := Try.prog) (w := w5.drew) d4 hpk hjn (fuPl s cut) 5 (by kernel_rfl)
    have HST := Lib.hid hst
    have HPU := Lib.hid (fuPulse_nat (cut := cut) (hbk ▸ hl) hs)
    have HSP := Lib.hid (setPart_v hpk j (fuPl s cut))
    have HSB := Lib.hid (setPart_bk qs k p j (fuPl s cut))
    have HSL : Hid ((setPart qs k p j (fuPl s cut)).length = n) := Lib.hid (by unfold setPart; rw [List.length_set, hql])
    have HBK := Lib.hid hbk
    have HQK : Hid ((qs.map Part.v ++ tl)[k]? = some (Value.slice (some ⟨g, 0, none⟩) p.n p.c)) := Lib.hid (by
      rw [List.getElem?_append_left (by rw [List.length_map, hql]; exact hkn), List.getElem?_map, hpk]
      show some p.v = _
      unfold Part.v
      rw [hpA])
    have HCJ : Hid (w5.cell? ⟨g, j, none⟩ = some (bv s)) := Lib.hid (by
      obtain ⟨_, _, hv, _, _, hrd⟩ := own_form hpo
      obtain ⟨ad, hA, _, hc⟩ := Reads.byte_at hrd hs
      unfold Part.v at hv
      injection hv with e1 e2 e3
      rw [hpA] at e1
      rw [← e1] at hA
      cases hA
      rw [Addr.add_lit, Nat.zero_add] at hc
      exact hc)
    have hqk := HQK.out
    have hcg := d3.cell HQK.out
    have hcj := HCJ.out
    clear hl hpk hs hst hbk hpo hcj hcg hqk
    go_wp2_with fail
    refine wp_region_plan (fun w' => Row w' w.heap.size 24 [.slice (some ⟨G, 0, none⟩) n c3] ∧ Row w' G 56 (qs.map Part.v ++ tl)) (.take 0 <| .take 1 <| .take 2 <| .take 3 <| .take 4 <| .take 5 <| .take 6 <| .take 7 <| .take 8 <| .take 9 <| .take 10 <| .take 11 <| .take 12 <| .take 14 <| .one 13 <| .one 15 <| .take 16 <| .one 17 <| .done) (by kernel_rfl) (by kernel_rfl) (by kernel_rfl) (fun _ _ _ _ _ h => h) ⟨d1.drew, d3.drew⟩ ?_
    repeat (refine plan_take _ rfl ?_; (first | (refine wpQuiet_valueG (o := ⟨some 19, _, _, _, _, _⟩) rfl _ (by intro _ h; exact exec_load1 _ 22 _ rfl ⟨w.heap.size, 0, none⟩ rfl _ (h.1.cell (j := 0) rfl) _ Try.underlying22 rfl) (wpQuiet_nil ?_); simp only [Act.put, List.setIfInBounds_toArray, List.set_cons_zero, List.set_cons_succ]) | (refine wpQuiet_valueG (o := ⟨some 25, _, _, _, _, _⟩) rfl _ (by intro _ h; exact exec_load1 _ 22 _ rfl ⟨w.heap.size, 0, none⟩ rfl _ (h.1.cell (j := 0) rfl) _ Try.underlying22 rfl) (wpQuiet_nil ?_); simp only [Act.put, List.setIfInBounds_toArray, List.set_cons_zero, List.set_cons_succ]) | (refine wpQuiet_valueG (o := ⟨some 22, _, _, _, _, _⟩) rfl _ (by intro _ h; exact exec_load1 _ 56 _ rfl ⟨G, k, none⟩ rfl _ (h.2.cell HQK.out) _ Try.underlying56 rfl) (wpQuiet_nil ?_); simp only [Act.put, List.setIfInBounds_toArray, List.set_cons_zero, List.set_cons_succ]) | (refine wpQuiet_valueG (o := ⟨some 28, _, _, _, _, _⟩) rfl _ (by intro _ h; exact exec_load1 _ 56 _ rfl ⟨G, k, none⟩ rfl _ (h.2.cell HQK.out) _ Try.underlying56 rfl) (wpQuiet_nil ?_); simp only [Act.put, List.setIfInBounds_toArray, List.set_cons_zero, List.set_cons_succ]) | (go_big_quiet_step ((intros; rfl)); refine wpQuiet_nil ?_)))
    refine plan_one _ rfl fun K hK => ?_
    refine step_valueG (o := ⟨some 31, _, _, _, _, _⟩) rfl _ _ (by exact exec_load1 _ 5 _ rfl ⟨g, j, none⟩ rfl _ HCJ.out _ Try.underlying5 rfl) ?_
    refine hK _ _ ⟨d1.drew, d3.drew⟩ ?_
    clear hK K
    simp only [Act.put, List.setIfInBounds_toArray, List.set_cons_zero, List.set_cons_succ]
    repeat (refine plan_take _ rfl ?_; (first | (refine wpQuiet_valueG (o := ⟨some 19, _, _, _, _, _⟩) rfl _ (by intro _ h; exact exec_load1 _ 22 _ rfl ⟨w.heap.size, 0, none⟩ rfl _ (h.1.cell (j := 0) rfl) _ Try.underlying22 rfl) (wpQuiet_nil ?_); simp only [Act.put, List.setIfInBounds_toArray, List.set_cons_zero, List.set_cons_succ]) | (refine wpQuiet_valueG (o := ⟨some 25, _, _, _, _, _⟩) rfl _ (by intro _ h; exact exec_load1 _ 22 _ rfl ⟨w.heap.size, 0, none⟩ rfl _ (h.1.cell (j := 0) rfl) _ Try.underlying22 rfl) (wpQuiet_nil ?_); simp only [Act.put, List.setIfInBounds_toArray, List.set_cons_zero, List.set_cons_succ]) | (refine wpQuiet_valueG (o := ⟨some 22, _, _, _, _, _⟩) rfl _ (by intro _ h; exact exec_load1 _ 56 _ rfl ⟨G, k, none⟩ rfl _ (h.2.cell HQK.out) _ Try.underlying56 rfl) (wpQuiet_nil ?_); simp only [Act.put, List.setIfInBounds_toArray, List.set_cons_zero, List.set_cons_succ]) | (refine wpQuiet_valueG (o := ⟨some 28, _, _, _, _, _⟩) rfl _ (by intro _ h; exact exec_load1 _ 56 _ rfl ⟨G, k, none⟩ rfl _ (h.2.cell HQK.out) _ Try.underlying56 rfl) (wpQuiet_nil ?_); simp only [Act.put, List.setIfInBounds_toArray, List.set_cons_zero, List.set_cons_succ]) | (go_big_quiet_step ((intros; rfl)); refine wpQuiet_nil ?_)))
    refine plan_one _ rfl fun K hK => ?_
    go_simp
    refine (HPS _ _).out.mono ?_
    rintro e _ ⟨rfl, rfl⟩
    refine hK _ _ ⟨d1.drew, d3.drew⟩ ?_
    clear hK K
    repeat (refine plan_take _ rfl ?_; (first | (refine wpQuiet_valueG (o := ⟨some 19, _, _, _, _, _⟩) rfl _ (by intro _ h; exact exec_load1 _ 22 _ rfl ⟨w.heap.size, 0, none⟩ rfl _ (h.1.cell (j := 0) rfl) _ Try.underlying22 rfl) (wpQuiet_nil ?_); simp only [Act.put, List.setIfInBounds_toArray, List.set_cons_zero, List.set_cons_succ]) | (refine wpQuiet_valueG (o := ⟨some 25, _, _, _, _, _⟩) rfl _ (by intro _ h; exact exec_load1 _ 22 _ rfl ⟨w.heap.size, 0, none⟩ rfl _ (h.1.cell (j := 0) rfl) _ Try.underlying22 rfl) (wpQuiet_nil ?_); simp only [Act.put, List.setIfInBounds_toArray, List.set_cons_zero, List.set_cons_succ]) | (refine wpQuiet_valueG (o := ⟨some 22, _, _, _, _, _⟩) rfl _ (by intro _ h; exact exec_load1 _ 56 _ rfl ⟨G, k, none⟩ rfl _ (h.2.cell HQK.out) _ Try.underlying56 rfl) (wpQuiet_nil ?_); simp only [Act.put, List.setIfInBounds_toArray, List.set_cons_zero, List.set_cons_succ]) | (refine wpQuiet_valueG (o := ⟨some 28, _, _, _, _, _⟩) rfl _ (by intro _ h; exact exec_load1 _ 56 _ rfl ⟨G, k, none⟩ rfl _ (h.2.cell HQK.out) _ Try.underlying56 rfl) (wpQuiet_nil ?_); simp only [Act.put, List.setIfInBounds_toArray, List.set_cons_zero, List.set_cons_succ]) | (go_big_quiet_step ((intros; rfl)); refine wpQuiet_nil ?_)))
    refine plan_one _ rfl fun K hK => ?_
    refine step_store_run rfl _ _ _ rfl ⟨g, j, none⟩ (by go_simp) (bv (fuPl s cut)) rfl w8 HST.out ?_
    have e1 := d1.drew.kept g8 (by simp; have := d1.lt; omega)
    have e2 := d2.drew.kept g8 (by simp; have := d2.lt; omega)
    have e3 := d3.drew.kept g8 (by simp; omega)
    have B8 := below_kept B5.drew g8 B5.drew.size (by rintro z hz; cases hz; omega)
    refine hK _ _ ⟨e1, e3⟩ ?_
    clear hK K
    refine plan_done ?_
    have z1 := e1.cell (j := 0) rfl
    go_wp2_with (with_reducible refine wpList_store_all (o := ⟨none, _, _, _, _, _⟩) rfl _ _ _ rfl w1.heap.size rfl _ _ e2 [.slice (some ⟨G, 0, none⟩) n c3] rfl (slice_one _ _ _) rfl (by kernel_rfl) ?_; intro wy ry gy)
    have hload := run_loadVar_at (P := Try.prog) wy 24 ⟨w1.heap.size, 0, none⟩ [.slice (some ⟨G, 0, none⟩) n c3] ry.cells _ Try.underlying24 rfl (by kernel_rfl)
    refine bodyPost_ret (results_cellE Try.results62 _ _ _ _ rfl hload) rfl ⟨some ⟨G, 0, none⟩, n, c3, setPart qs k p j (fuPl s cut), by rw [HE.out]; rfl, ?_, by rw [HPU.out, HSB.out, HBK.out], below_kept B8 gy B8.size (by rintro k hk; cases hk; omega)⟩
    have hO : OwnB wy w2.heap.size (some ⟨G, 0, none⟩) n c3 (setPart qs k p j (fuPl s cut)) := ⟨HSL.out, hqc, fun _ => ⟨G, tl, rfl, hG, by rw [HSP.out]; exact e3.kept gy (by simp; omega), d8.kept gy (by omega)⟩⟩
    exact hO.base (Nat.le_trans (Nat.le_of_lt s1) (Nat.le_of_lt s2))

theorem fpulse_any (A : Option Addr) (n c : Nat) (ps : List Part) (b i : Int) (cut : Bool) (w : World) (hr : ReadsP w w.heap.size A n ps) (hn : n ≤ 100) (hp : ∀ p ∈ ps, p.n ≤ 1000) :
    Calls Try.prog 62 #[fuv A n c, .int .i64 b, .int .i64 i, .bool cut] w (GivesFE (fuPulse (bk ps) b i cut) (fuErr (bk ps) b i) w) := by
  refine (fpulse_own A n c ps b i cut w hr hn hp).mono ?_
  rintro e w' ⟨A', n', c', qs, rfl, ho, hb, hB⟩
  exact ⟨A', n', c', qs, rfl, ho.ok, hb, hB⟩
end Go.Proofs.Ytkepmhkakkkliaa
