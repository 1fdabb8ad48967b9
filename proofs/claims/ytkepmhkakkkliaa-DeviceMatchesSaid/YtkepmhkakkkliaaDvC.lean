/-
  What device.clone returns: a contract by a walk. Condition: bounded lengths.
-/
import Derived.Test.YtkepmhkakkkliaaDvE
import Derived.Test.YtkepmhkakkkliaaFlF
namespace Go.Proofs.Ytkepmhkakkkliaa
open Go.RowKit

theorem hw_set0 (A A' : Option Addr) (n c c' : Nat) (ps : List Part) (B : Option Addr) (m d : Nat) (fs : List ByteArray) (rt : List UInt8) : (⟨A, n, c, ps, B, m, d, fs, rt⟩ : Hw).cs.set 0 (.slice A' n c') = (⟨A', n, c', ps, B, m, d, fs, rt⟩ : Hw).cs := rfl
theorem hw_set1 (A B' : Option Addr) (n c d' : Nat) (ps : List Part) (B : Option Addr) (m d : Nat) (fs : List ByteArray) (rt : List UInt8) : (⟨A, n, c, ps, B, m, d, fs, rt⟩ : Hw).cs.set 1 (.slice B' m d') = (⟨A, n, c, ps, B', m, d', fs, rt⟩ : Hw).cs := rfl
set_option maxRecDepth 100000 in
set_option maxHeartbeats 4000000 in
theorem dclone_any (h : Hw) (w : World) (hok : HwOK w h) (hs : dvSm h.s) : Calls Try.prog 23 #[h.v] w (GivesH h.s w) := by
  have hn := hok.sm1 hs
  have hpp := hok.sm2 hs
  have hm := hok.sm3 hs
  obtain ⟨A, n, c, ps, B, m, d, fs, rt⟩ := h
  have hr := hok.1.1
  have H16 := Lib.hid hok.h16
  have HRB := Lib.hid hok.2.1.1
  have HSZ := Lib.hid hok.2.1.2.2.2
  have HLN := Lib.hid hr.len
  simp only at hn hpp hm hr H16 HRB HSZ HLN
  have HCB := fun W hW => Lib.hid (cloneB_any A n c (ps.map Part.v) (partv_one ps) (by omega) W hW)
  have HCC := fun (p : Part) (hp : p.n ≤ 1000) W hW => Lib.hid (cloneC_any p.A p.n p.c (bvs p.l) (bvs_one _) (by omega) W hW)
  have HCS := fun W hW => Lib.hid (cloneS_any B m d fs hm W hW)
  have HPN := Lib.hid hpp
  clear hpp hs hok
  go_enter Try.func23, Try.ntmps23
  go_wp2_with (first
    | ((with_reducible refine wpList_at ⟨some 1, _, _, _, _, _⟩ ?_); refine wpList_box_row rfl _ _ rfl ((⟨A, n, c, ps, B, m, d, fs, rt⟩ : Hw).cs) rfl ?_; intro w1 r1 s1 g1)
    | (with_reducible refine wpList_alloc_row (o := ⟨some 2, _, _, _, _, _⟩) rfl _ rfl zeroH zero_hw ?_; intro w2 r2 s2 g2; have q1 := r1.kept g2 (by simp); have b2 := below_kept (grown_below g1 (Nat.le_refl _) (by simp)) g2 (Nat.le_of_lt s1) (by simp); have c1 := q1.cell (j := 0) (u := .slice A n c) rfl; clear r1 g1 g2))
  have hne := r2.lt
  refine (HCB _ (hr.1.on b2)).out.mono ?_
  rintro e w3 ⟨v3, rfl, hown, b3⟩
  have t1 := q1.on b3
  have t2 := r2.on b3
  have B3 := b2.trans (b3.mono b2.size)
  clear q1 r2 c1
  have hsz3 := b3.size
  obtain ⟨_, ⟨rfl, hn0⟩ | ⟨G, cap, cur, rfl, hG, hh, hnc, hcm, hcs, htk⟩⟩ := hown
  · subst hn0
    go_wp2_with ((with_reducible refine wpList_at ⟨none, .store _ (.tmp 10) _, _, _, _, _⟩ ?_); refine wpList_store_elem rfl _ _ _ rfl w.heap.size 0 rfl _ _ t1 (.slice none 0 0) rfl rfl (by show 0 < _ + 2; omega) (by kernel_rfl) ?_; intro w4 t4 g4; have u1 := t4.cell (j := 0) (u := .slice none 0 0) rfl)
    have e2 := t2.kept g4 (by simp; omega)
    have B4 := below_kept B3 g4 B3.size (by rintro k hk; cases hk; exact Nat.le_refl _)
    rw [hw_set0] at t4
    have hsz4 := g4.size
    go_loopg [15] 0 (fun _ s15 wr => s15 = .int .i64 0 ∧ wr = w4)
    case atStart => exact ⟨rfl, rfl⟩
    case round =>
      obtain ⟨rfl, rfl⟩ := hrel
      have hps : ps = [] := List.eq_nil_of_length_eq_zero HLN.out
      have HPS := Lib.hid hps
      clear hps u1
      have cb := t4.cell (j := 1) (u := .slice B m d) rfl
      go_wp2_with fail
      refine (HCS _ (HRB.out.below B4 |>.more B4.size)).out.mono ?_
      rintro e w8 ⟨v8, rfl, hown8, b8⟩
      obtain ⟨B8, d8, rfl, hmd8, _, _⟩ := own_form hown8
      have u1 := t4.on b8
      have u2 := e2.on b8
      have hb8 := b8.size
      have B8b := B4.trans (b8.mono B4.size)
      clear cb
      go_wp2_with (first
        | ((with_reducible refine wpList_at ⟨none, .store _ (.tmp 33) _, _, _, _, _⟩ ?_); refine wpList_store_elem rfl _ _ _ rfl w.heap.size 1 rfl _ _ u1 (.slice B8 m d8) rfl rfl (by show 1 < _ + 2; omega) (by kernel_rfl) ?_; intro w9 t9 g9; have v2 := u2.kept g9 (by simp; omega); have B9 := below_kept B8b g9 B8b.size (by rintro k hk; cases hk; exact Nat.le_refl _))
        | (refine wpList_valueG (o := ⟨some 34, _, _, _, _, _⟩) rfl _ (by exact exec_loadH _ _ rfl w.heap.size rfl (⟨none, 0, 0, ps, B8, m, d8, fs, rt⟩ : Hw) H16.out t9) ?_)
        | ((with_reducible refine wpList_at ⟨none, .store _ (.tmp 2) _, _, _, _, _⟩ ?_); refine wpList_store_all rfl _ _ _ rfl w1.heap.size rfl _ _ v2 ((⟨none, 0, 0, ps, B8, m, d8, fs, rt⟩ : Hw)).cs rfl (Hw.cs_one _) (hw_zl H16.out) (hw_size H16.out) ?_; intro wy ry gy))
      have hload := run_loadVar_at (P := Try.prog) wy 31 ⟨w1.heap.size, 0, none⟩ ((⟨none, 0, 0, ps, B8, m, d8, fs, rt⟩ : Hw)).cs ry.cells _ Try.underlying31 rfl (hw_size H16.out)
      have ow9 := own_kept_lt hown8 g9 (by omega)
      have owy := own_kept_lt ow9 gy (by have := g9.size; omega)
      have hFN : FuOK wy none 0 0 ps := by rw [HPS.out]; exact ⟨⟨Reads.nil_, fun p hp => by cases hp⟩, Nat.le_refl _, fun p hp => by cases hp⟩
      have hFI : ∀ X, FuIn X none 0 ps := fun X => by rw [HPS.out]; exact FuIn.nil_
      refine bodyPost_ret (results_cell1 Try.results23 _ _ _ _ rfl hload) rfl ⟨(⟨none, 0, 0, ps, B8, m, d8, fs, rt⟩ : Hw), rfl, ⟨hFN, own_flok owy HSZ.out, H16.out⟩, ⟨hFI _, fun h0 ad e => by have := own_block owy h0 ad e; omega⟩, rfl, below_kept B9 gy B9.size (by rintro k hk; cases hk; omega)⟩
  · have hrG : Row w3 G 56 cur.toList := hh
    have hcur : cur.toList = midR [] ps 0 (cur.toList.drop n) := by
      unfold midR
      rw [Nat.mul_one] at htk
      rw [List.drop_zero, ← htk, List.map_nil, List.nil_append, List.take_append_drop]
    rw [hcur] at hrG
    generalize cur.toList.drop n = tl at *
    go_wp2_with ((with_reducible refine wpList_at ⟨none, .store _ (.tmp 10) _, _, _, _, _⟩ ?_); refine wpList_store_elem rfl _ _ _ rfl w.heap.size 0 rfl _ _ t1 (.slice (some ⟨G, 0, none⟩) n cap) rfl rfl (by show 0 < _ + 2; omega) (by kernel_rfl) ?_; intro w4 t4 g4; have u1 := t4.cell (j := 0) (u := .slice (some ⟨G, 0, none⟩) n cap) rfl)
    have t4b := t2.kept g4 (by simp; omega)
    have hrG4 := hrG.kept g4 (by simp; omega)
    have B4 := below_kept B3 g4 B3.size (by rintro k hk; cases hk; exact Nat.le_refl _)
    clear hrG hcur htk hcs hh t1 t2 B3 b3 u1
    rw [hw_set0] at t4
    go_loopg [15] n (fun g s15 wr => ∃ (i : Nat) (qs : List Part), Hid (i + g = n) ∧ i ≤ n ∧ s15 = .int .i64 (i : Int) ∧ Hid (qs.length = i) ∧ Hid (bk qs = bk (ps.take i)) ∧ Row wr w.heap.size 31 (⟨some ⟨G, 0, none⟩, n, cap, ps, B, m, d, fs, rt⟩ : Hw).cs ∧ Row wr w1.heap.size 31 zeroH ∧ Row wr G 56 (midR qs ps i tl) ∧ OwnL wr (G + 1) qs ∧ Below w.heap.size w wr)
    case atStart => exact ⟨0, [], by show _ = _; omega, by omega, rfl, Lib.hid rfl, Lib.hid rfl, t4, t4b, hrG4, OwnL.nil_, B4⟩
    case round =>
      obtain ⟨i, qs, HI, hi, rfl, HQL, HQB, e1, e2, e3, e4, hB⟩ := hrel
      have hc0 := e1.cell (j := 0) (u := .slice (some ⟨G, 0, none⟩) n cap) rfl
      by_cases hlt : i < n
      · obtain ⟨p, hpi⟩ : ∃ p, ps[i]? = some p := ⟨_, List.getElem?_eq_getElem (by rw [HLN.out]; exact hlt)⟩
        have HP := Lib.hid hpi
        have hrp := ((hr.2 p (List.mem_of_getElem? hpi)).1.below hB)
        have hpn := HPN.out p (List.mem_of_getElem? hpi)
        have hci := e3.cell (midR_at HQL.out hpi)
        clear hpi
        unfold Part.v at hci
        go_wp2_with fail
        have hGl := e3.lt
        have HMS := fun q => Lib.hid (midR_set (tl := tl) HQL.out HP.out q)
        have HML := Lib.hid (midR_len (tl := tl) HP.out HQL.out)
        refine wp_region_plan (fun w' => Row w' w.heap.size 31 (⟨some ⟨G, 0, none⟩, n, cap, ps, B, m, d, fs, rt⟩ : Hw).cs) (.take 0 <| .take 1 <| .take 2 <| .take 3 <| .take 4 <| .one 5 <| .take 6 <| .one 7 <| .done) (by kernel_rfl) (by kernel_rfl) (by kernel_rfl) (fun _ _ _ _ _ h => h) e1.drew ?_
        repeat (refine plan_take _ rfl ?_; (first | (refine wpQuiet_valueG (o := ⟨some 22, _, _, _, _, _⟩) rfl _ (by intro _ h; exact exec_load1 _ 22 _ rfl ⟨w.heap.size, 0, none⟩ rfl _ (h.cell (j := 0) (u := .slice (some ⟨G, 0, none⟩) n cap) rfl) _ Try.underlying22 rfl) (wpQuiet_nil ?_); simp only [Act.put, List.setIfInBounds_toArray, List.set_cons_zero, List.set_cons_succ]) | (go_big_quiet_step ((intros; rfl)); refine wpQuiet_nil ?_)))
        refine plan_one _ rfl fun K hK => ?_
        go_simp
        refine (HCC p hpn wr.drew (hrp.more hB.size)).out.mono ?_
        rintro e w5 ⟨v5, rfl, hown5, b5⟩
        have f1 := e1.drew.on b5
        have f2 := e2.drew.on b5
        have f3 := e3.drew.on b5
        have B5 := hB.drew.trans (b5.mono hB.drew.size)
        obtain ⟨A5, c5, rfl, _, _, _⟩ := own_form hown5
        have f4 := OwnL.snoc (w := wr.drew) (q := ⟨A5, p.n, c5, p.l⟩) e4 b5 hGl hown5
        refine hK _ _ f1 ?_
        clear hK K
        repeat (refine plan_take _ rfl ?_; (first | (refine wpQuiet_valueG (o := ⟨some 22, _, _, _, _, _⟩) rfl _ (by intro _ h; exact exec_load1 _ 22 _ rfl ⟨w.heap.size, 0, none⟩ rfl _ (h.cell (j := 0) (u := .slice (some ⟨G, 0, none⟩) n cap) rfl) _ Try.underlying22 rfl) (wpQuiet_nil ?_); simp only [Act.put, List.setIfInBounds_toArray, List.set_cons_zero, List.set_cons_succ]) | (go_big_quiet_step ((intros; rfl)); refine wpQuiet_nil ?_)))
        refine plan_one _ rfl fun K hK => ?_
        refine step_store_elem rfl _ _ _ rfl G i rfl _ _ f3 (.slice A5 p.n c5) rfl rfl HML.out (by kernel_rfl) ?_
        intro w6 f6 g6
        have d1 := f1.kept g6 (by simp; omega)
        have d2 := f2.kept g6 (by simp; omega)
        have d4 := f4.kept g6 (Nat.lt_succ_self _)
        have B6 := below_kept B5 g6 B5.size (by rintro k hk; cases hk; omega)
        rw [show Value.slice A5 p.n c5 = (⟨A5, p.n, c5, p.l⟩ : Part).v from rfl, (HMS _).out] at f6
        refine hK _ _ d1 ?_
        clear hK K
        refine plan_done ?_
        go_wp2_with fail
        go_roundg (gk - 1)
        case measure => have := HI.out; omega
        case rel =>
          refine ⟨i + 1, qs ++ [⟨A5, p.n, c5, p.l⟩], by have := HI.out; show _ = _; omega, by omega, by go_num, Lib.hid (by rw [List.length_append, HQL.out]; rfl), ?_, d1, d2, f6, d4, B6⟩
          show _ = _
          unfold bk
          rw [List.map_append, show List.map Part.l qs = bk qs from rfl, HQB.out, List.take_add_one, HP.out, List.map_append]
          rfl
      · obtain rfl : i = n := by omega
        have hsz4 := e2.lt
        have cb := e1.cell (j := 1) (u := .slice B m d) rfl
        go_wp2_with fail
        refine (HCS _ (HRB.out.below hB |>.more hB.size)).out.mono ?_
        rintro e w8 ⟨v8, rfl, hown8, b8⟩
        obtain ⟨B8, d8, rfl, hmd8, _, _⟩ := own_form hown8
        have u1 := e1.on b8
        have u2 := e2.on b8
        have e38 := e3.on b8
        have e48 := e4.below b8
        have hb8 := b8.size
        have hge := e3.lt
        have B8b := hB.trans (b8.mono hB.size)
        clear cb
        go_wp2_with (first
          | ((with_reducible refine wpList_at ⟨none, .store _ (.tmp 33) _, _, _, _, _⟩ ?_); refine wpList_store_elem rfl _ _ _ rfl w.heap.size 1 rfl _ _ u1 (.slice B8 m d8) rfl rfl (by show 1 < _ + 2; omega) (by kernel_rfl) ?_; intro w9 t9 g9; have v2 := u2.kept g9 (by simp; omega); have B9 := below_kept B8b g9 B8b.size (by rintro k hk; cases hk; exact Nat.le_refl _))
          | (refine wpList_valueG (o := ⟨some 34, _, _, _, _, _⟩) rfl _ (by exact exec_loadH _ _ rfl w.heap.size rfl (⟨some ⟨G, 0, none⟩, i, cap, qs, B8, m, d8, fs, rt⟩ : Hw) H16.out t9) ?_)
          | ((with_reducible refine wpList_at ⟨none, .store _ (.tmp 2) _, _, _, _, _⟩ ?_); refine wpList_store_all rfl _ _ _ rfl w1.heap.size rfl _ _ v2 ((⟨some ⟨G, 0, none⟩, i, cap, qs, B8, m, d8, fs, rt⟩ : Hw)).cs rfl (Hw.cs_one _) (hw_zl H16.out) (hw_size H16.out) ?_; intro wy ry gy))
        have hload := run_loadVar_at (P := Try.prog) wy 31 ⟨w1.heap.size, 0, none⟩ ((⟨some ⟨G, 0, none⟩, i, cap, qs, B8, m, d8, fs, rt⟩ : Hw)).cs ry.cells _ Try.underlying31 rfl (hw_size H16.out)
        have ow9 := own_kept_lt hown8 g9 (by omega)
        have owy := own_kept_lt ow9 gy (by have := g9.size; omega)
        have e39 := e38.kept g9 (by simp; omega)
        have e49 := e48.kept g9 (by omega)
        have e3y := e39.kept gy (by simp; omega)
        have e4y := e49.kept gy (by omega)
        unfold midR at e3y
        rw [List.drop_of_length_le (by rw [HLN.out]; exact Nat.le_refl _), List.map_nil, List.nil_append] at e3y
        have hO : OwnB wy w.heap.size (some ⟨G, 0, none⟩) i cap qs := ⟨HQL.out, hnc, fun _ => ⟨G, tl, rfl, by omega, e3y, e4y⟩⟩
        refine bodyPost_ret (results_cell1 Try.results23 _ _ _ _ rfl hload) rfl ⟨(⟨some ⟨G, 0, none⟩, i, cap, qs, B8, m, d8, fs, rt⟩ : Hw), rfl, ⟨hO.ok, own_flok owy HSZ.out, H16.out⟩, ⟨hO.in_, fun h0 ad e => by have := own_block owy h0 ad e; omega⟩, by unfold Hw.s; rw [HQB.out, List.take_of_length_le (by rw [HLN.out]; exact Nat.le_refl _)], below_kept B9 gy B9.size (by rintro k hk; cases hk; omega)⟩
end Go.Proofs.Ytkepmhkakkkliaa
