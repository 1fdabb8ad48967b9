/-
  What flash.Write returns: a contract by a walk. Condition: at most a million sectors.
-/
import Derived.Test.YtkepmhkakkkliaaFlF
namespace Go.Proofs.Ytkepmhkakkkliaa
open Go.RowKit

/-- The head of a row reads as sectors. -/
theorem reads_head {w : World} {g n : Nat} {e : TypeId} {cs : List Value} {l : List ByteArray} (h : Row w g e cs) (hn : n ≤ cs.length) (ht : cs.take n = svs l) : Reads w w.heap.size 1 (some ⟨g, 0, none⟩) n (svs l) := by
  have h1 := (h.reads (size := 1) (n := cs.length) (by omega)).take (k := n) hn
  rw [Nat.mul_one, ht] at h1
  exact h1
theorem svs_set (l : List ByteArray) (k : Nat) (s : ByteArray) : (svs l).set k (.string s) = svs (l.set k s) := by unfold svs; rw [List.map_set]
theorem own_kept_lt {w w' : World} {base n g : Nat} {e : TypeId} {v : Value} {xs : List Value} (h : w.ownsRow base e 1 v n xs) (hg : w.grownBy w' (some g)) (hlt : g < base) : w'.ownsRow base e 1 v n xs :=
  h.kept hg (by
    cases hv : v.ownBlock with
    | none => exact .inl rfl
    | some k => exact .inr (fun e => by cases e; have := (h.lt g hv).1; omega))
/-- A row of the call's own that is not empty. -/
theorem own_rowc {w : World} {base n c : Nat} {A : Option Addr} {e : TypeId} {xs : List Value} (h : w.ownsRow base e 1 (.slice A n c) n xs) (hn : 0 < n) :
    ∃ g cs, A = some ⟨g, 0, none⟩ ∧ base ≤ g ∧ Row w g e cs ∧ n ≤ cs.length ∧ cs.take n = xs ∧ cs.length = c ∧ c ≤ maxLen := by
  obtain ⟨h1, h2⟩ := h
  rcases h2 with ⟨hv, hx⟩ | ⟨g, cap, cur, hv, hg, hh, hnc, hm, hcs, ht⟩
  · injection hv with e1 e2 e3
    omega
  · injection hv with e1 e2 e3
    rw [Nat.mul_one] at hcs ht
    exact ⟨g, cur.toList, e1, hg, hh, by rw [Array.length_toList]; omega, ht, by rw [Array.length_toList]; omega, by omega⟩
theorem own_row {w : World} {base n c : Nat} {A : Option Addr} {e : TypeId} {xs : List Value} (h : w.ownsRow base e 1 (.slice A n c) n xs) (hn : 0 < n) :
    ∃ g cs, A = some ⟨g, 0, none⟩ ∧ base ≤ g ∧ Row w g e cs ∧ n ≤ cs.length ∧ cs.take n = xs := by
  obtain ⟨g, cs, h1, h2, h3, h4, h5, _⟩ := own_rowc h hn
  exact ⟨g, cs, h1, h2, h3, h4, h5⟩
theorem own_of_row {w : World} {base g n c : Nat} {e : TypeId} {cs xs : List Value} (h : Row w g e cs) (hb : base ≤ g) (hc : cs.length = c) (hn : n ≤ c) (hm : c ≤ maxLen) (ht : cs.take n = xs) : w.ownsRow base e 1 (.slice (some ⟨g, 0, none⟩) n c) n xs :=
  ⟨by rw [← ht, List.length_take]; omega, .inr ⟨g, c, cs.toArray, rfl, hb, h, hn, hm, by simpa using hc, by simpa using ht⟩⟩
/-- A memory of the call's own comes back, and an error. -/
def GivesLO (fs : List ByteArray) (x : Int) (w : World) (e : Ending) (w' : World) : Prop :=
  ∃ A n c, e = .returned (.tuple #[flv A n c, .int .i64 x]) ∧ w'.ownsRow w.heap.size 9 1 (.slice A n c) n (svs fs) ∧ (∀ s ∈ fs, s.size ≤ 9223372036854775807) ∧ Below w.heap.size w w'
theorem own_flok {w : World} {base n c : Nat} {A : Option Addr} {fs : List ByteArray} (h : w.ownsRow base 9 1 (.slice A n c) n (svs fs)) (hs : ∀ s ∈ fs, s.size ≤ 9223372036854775807) : FlOK w A n c fs := by
  obtain ⟨A', c', hv, hn, hm, hr⟩ := own_form h
  injection hv with e1 e2 e3
  subst e1 e3
  exact ⟨hr, hn, Nat.le_trans hn hm, hs⟩

set_option maxRecDepth 100000 in
set_option maxHeartbeats 4000000 in
theorem lwrite_own (A : Option Addr) (n c : Nat) (fs : List ByteArray) (k : Int) (b : ByteArray) (cut : Int) (w : World) (hok : FlOK w A n c fs) (hn : n ≤ 1000000) :
    Calls Try.prog 64 #[flv A n c, .int .i64 k, .string b, .int .i64 cut] w (GivesLO (flWrite fs k b cut) (flWErr fs k b) w) := by
  have HX := fun A n c W hW => Lib.hid (lexists_any A n c fs k W hW)
  have HCL := fun W hW => Lib.hid (cloneS_any A n c fs hn W hW)
  have HWR := fun W => Lib.hid (writer_any b cut W)
  have HLN := Lib.hid hok.len
  have HSZ := Lib.hid hok.2.2.2
  have hr := hok.1
  have hnm := hok.2.2.1
  unfold GivesLO flv at *
  clear hok
  cases hx : flIn fs k with
  | false =>
    have HE := Lib.hid (flWrite_no (b := b) hx cut)
    have HO := Lib.hid (flWErr_no (b := b) hx)
    rw [hx] at HX
    clear hx
    generalize flWrite fs k b cut = E at *
    generalize flWErr fs k b = O at *
    go_enter Try.func64, Try.ntmps64
    go_wp2_with (first
      | (with_reducible refine wpList_box_row (o := ⟨some 4, _, _, _, _, _⟩) rfl _ _ rfl [.slice A n c] rfl ?_; intro w1 r1 s1 g1)
      | (with_reducible refine wpList_alloc_row (o := ⟨some 8, _, _, _, _, _⟩) rfl _ rfl [.slice none 0 0] (by kernel_rfl) ?_; intro w2 r2 s2 g2; have q1 := r1.kept g2 (by simp); have c1 := q1.cell (j := 0) rfl; have b2 := below_kept (grown_below g1 (Nat.le_refl _) (by simp)) g2 (Nat.le_of_lt s1) (by simp)))
    refine (HCL _ (hr.on b2)).out.mono ?_
    rintro e w3 ⟨v, rfl, hown, b3⟩
    have q3 := q1.on b3
    have r3 := r2.on b3
    have B3 := b2.trans (b3.mono b2.size)
    obtain ⟨A3, c3, rfl, hnc3, hcm3, hr3⟩ := own_form hown
    clear c1 hr3
    go_wp2_with ((with_reducible refine wpList_at ⟨none, .store _ (.tmp 14) _, _, _, _, _⟩ ?_); refine wpList_store_elem rfl _ _ _ rfl w.heap.size 0 rfl _ _ q3 (.slice A3 n c3) rfl rfl (by simp) (by kernel_rfl) ?_; intro w4 q4 g4; have c4 := q4.cell (j := 0) rfl; have hown4 := own_kept_lt hown g4 (by omega); have r4 := r3.kept g4 (by simp; omega); have B4 := below_kept B3 g4 B3.size (by rintro q hq; cases hq; exact Nat.le_refl _))
    refine (HX A3 n c3 w4 ⟨Reads.of_own hown4, hnc3, hnm, HSZ.out⟩).out.mono ?_
    rintro e w5 ⟨rfl, b5⟩
    have c5 := (q4.on b5).cell (j := 0) rfl
    have r5 := r4.on b5
    have hown5 := own_below hown4 b5
    have B5 := B4.trans (b5.mono B4.size)
    go_wp2_with (with_reducible refine wpList_at ⟨none, .store _ (.tmp 8) _, _, _, _, _⟩ ?_; refine wpList_store_all rfl _ _ _ rfl w1.heap.size rfl _ _ r5 [.slice A3 n c3] rfl (slice_one _ _ _) rfl (by kernel_rfl) ?_; intro w6 r6 g6; have f6 := r6.cell (j := 0) rfl)
    have hload := run_loadVar_at (P := Try.prog) w6 27 ⟨w1.heap.size, 0, none⟩ [.slice A3 n c3] r6.cells _ Try.underlying27 rfl (by kernel_rfl)
    refine bodyPost_ret (results_cellE Try.results64 _ _ _ _ rfl hload) rfl ⟨A3, n, c3, by rw [HO.out]; rfl, by rw [HE.out]; exact own_base (own_kept_lt hown5 g6 r2.lt) b2.size, by rw [HE.out]; exact HSZ.out, below_kept B5 g6 B5.size (by rintro q hq; cases hq; exact Nat.le_of_lt s1)⟩
  | true =>
    obtain ⟨i, rfl, hi⟩ := flIn_iff.1 hx
    rw [HLN.out] at hi
    by_cases h256 : b.size = 256
    · obtain ⟨s, hs⟩ : ∃ s, fs[i]? = some s := ⟨_, List.getElem?_eq_getElem (by rw [HLN.out]; exact hi)⟩
      have HE := Lib.hid (flWrite_nat hs h256 cut)
      have HO := Lib.hid (flWErr_yes hx h256)
      have HSS := Lib.hid hs
      have HS9 := Lib.hid (HSZ.out s (List.mem_of_getElem? hs))
      have HWN := fun g W h => Lib.hid (written_any b cut s HS9.out h256 g W h)
      have HSM : Hid (∀ x ∈ fs.set i (flW b cut s), x.size ≤ 9223372036854775807) := Lib.hid fun x hx => by
        rcases List.mem_or_eq_of_mem_set hx with hx | rfl
        · exact HSZ.out x hx
        · exact flW_max h256 (by omega) HS9.out cut
      rw [hx] at HX
      clear hx hs
      generalize flWrite fs i b cut = E at *
      generalize flWErr fs i b = O at *
      generalize flW b cut s = F at *
      have HB := Lib.hid h256
      have hb : ((b.size : Int) != 256) = false := by simp; omega
      clear h256
      go_enter Try.func64, Try.ntmps64
      go_wp2_with (first
        | (with_reducible refine wpList_box_row (o := ⟨some 4, _, _, _, _, _⟩) rfl _ _ rfl [.slice A n c] rfl ?_; intro w1 r1 s1 g1)
        | (with_reducible refine wpList_alloc_row (o := ⟨some 8, _, _, _, _, _⟩) rfl _ rfl [.slice none 0 0] (by kernel_rfl) ?_; intro w2 r2 s2 g2; have q1 := r1.kept g2 (by simp); have c1 := q1.cell (j := 0) rfl; have b2 := below_kept (grown_below g1 (Nat.le_refl _) (by simp)) g2 (Nat.le_of_lt s1) (by simp)))
      refine (HCL _ (hr.on b2)).out.mono ?_
      rintro e w3 ⟨v, rfl, hown, b3⟩
      have q3 := q1.on b3
      have r3 := r2.on b3
      have B3 := b2.trans (b3.mono b2.size)
      obtain ⟨A3, c3, rfl, hnc3, hcm3, hr3⟩ := own_form hown
      clear c1 hr3
      go_wp2_with ((with_reducible refine wpList_at ⟨none, .store _ (.tmp 14) _, _, _, _, _⟩ ?_); refine wpList_store_elem rfl _ _ _ rfl w.heap.size 0 rfl _ _ q3 (.slice A3 n c3) rfl rfl (by simp) (by kernel_rfl) ?_; intro w4 q4 g4; have c4 := q4.cell (j := 0) rfl; have hown4 := own_kept_lt hown g4 (by omega); have r4 := r3.kept g4 (by simp; omega); have B4 := below_kept B3 g4 B3.size (by rintro q hq; cases hq; exact Nat.le_refl _))
      refine (HX A3 n c3 w4 ⟨Reads.of_own hown4, hnc3, hnm, HSZ.out⟩).out.mono ?_
      rintro e w5 ⟨rfl, b5⟩
      have q5 := q4.on b5
      have c5 := q5.cell (j := 0) rfl
      have r5 := r4.on b5
      have hown5 := own_below hown4 b5
      have B5 := B4.trans (b5.mono B4.size)
      clear c4
      go_wp2_with fail
      refine (HWR w5).out.mono ?_
      rintro e w6 ⟨rfl, hwr, b6⟩
      have q6 := q5.on b6
      have c6 := q6.cell (j := 0) rfl
      have r6 := r5.on b6
      have hown6 := own_below hown5 b6
      have B6 := B5.trans (b6.mono B5.size)
      obtain ⟨G, cs, rfl, hG, hrow6, hncs, htk, hcc, hcm⟩ := own_rowc hown6 (by omega)
      unfold wrv
      clear c5
      go_wp2_with fail
      have HCI : Hid (cs[i]? = some (.string s)) := Lib.hid (by
        have h1 : (cs.take n)[i]? = some (.string s) := by rw [htk]; exact svs_get HSS.out
        rwa [List.getElem?_take, if_pos hi] at h1)
      have HCL2 : Hid (i < cs.length) := Lib.hid (by omega)
      have HCT : Hid ((cs.set i (.string F)).take n = svs (fs.set i F)) := Lib.hid (by rw [List.take_set, htk, svs_set])
      have HCC := Lib.hid hcc
      clear hcc hncs
      refine wp_region_plan (fun w' => Row w' w.heap.size 27 [.slice (some ⟨G, 0, none⟩) n c3]) (.take 0 <| .take 1 <| .take 2 <| .take 3 <| .take 4 <| .take 5 <| .take 6 <| .take 7 <| .one 8 <| .one 9 <| .take 10 <| .one 11 <| .done) (by kernel_rfl) (by kernel_rfl) (by kernel_rfl) (fun _ _ _ _ _ h => h) q6.drew ?_
      repeat (refine plan_take _ rfl ?_; (first | (refine wpQuiet_valueG (o := ⟨some 28, _, _, _, _, _⟩) rfl _ (by intro _ h; exact exec_load1 _ 25 _ rfl ⟨w.heap.size, 0, none⟩ rfl _ (h.cell (j := 0) rfl) _ Try.underlying25 rfl) (wpQuiet_nil ?_); simp only [Act.put, List.setIfInBounds_toArray, List.set_cons_zero, List.set_cons_succ]) | (refine wpQuiet_valueG (o := ⟨some 32, _, _, _, _, _⟩) rfl _ (by intro _ h; exact exec_load1 _ 25 _ rfl ⟨w.heap.size, 0, none⟩ rfl _ (h.cell (j := 0) rfl) _ Try.underlying25 rfl) (wpQuiet_nil ?_); simp only [Act.put, List.setIfInBounds_toArray, List.set_cons_zero, List.set_cons_succ]) | (go_big_quiet_step ((intros; rfl)); refine wpQuiet_nil ?_)))
      refine plan_one _ rfl fun K hK => ?_
      refine step_valueG (o := ⟨some 35, _, _, _, _, _⟩) rfl _ _ (by exact exec_load1 _ 9 _ rfl ⟨G, i, none⟩ rfl _ (hrow6.drew.cell HCI.out) _ Try.underlying9 rfl) ?_
      refine hK _ _ q6.drew ?_
      clear hK K
      simp only [Act.put, List.setIfInBounds_toArray, List.set_cons_zero, List.set_cons_succ]
      refine plan_one _ rfl fun K hK => ?_
      go_simp
      refine (HWN w5.heap.size w6.drew ⟨hwr.1.drew, hwr.2.drew⟩).out.mono ?_
      rintro e w7 ⟨rfl, b7⟩
      have q7 := q6.drew.on b7
      have r7 := r6.drew.on b7
      have hrow7 := hrow6.drew.on b7
      have B7 := B6.drew.trans (b7.mono B6.drew.size)
      refine hK _ _ q7 ?_
      clear hK K
      repeat (refine plan_take _ rfl ?_; (go_big_quiet_step ((intros; rfl)); refine wpQuiet_nil ?_))
      refine plan_one _ rfl fun K hK => ?_
      refine step_store_elem rfl _ _ _ rfl G i rfl _ _ hrow7 (.string F) rfl rfl HCL2.out (by kernel_rfl) ?_
      intro w8 hrow8 g8
      have q8 := q7.kept g8 (by simp; omega)
      have r8 := r7.kept g8 (by simp; omega)
      have B8 := below_kept B7 g8 B7.size (by rintro k hk; cases hk; omega)
      refine hK _ _ q8 ?_
      clear hK K
      refine plan_done ?_
      have c8 := q8.cell (j := 0) rfl
      go_wp2_with (with_reducible refine wpList_at ⟨none, .store _ (.tmp 8) _, _, _, _, _⟩ ?_; refine wpList_store_all rfl _ _ _ rfl w1.heap.size rfl _ _ r8 [.slice (some ⟨G, 0, none⟩) n c3] rfl (slice_one _ _ _) rfl (by kernel_rfl) ?_; intro w9 r9 g9)
      have hload := run_loadVar_at (P := Try.prog) w9 27 ⟨w1.heap.size, 0, none⟩ [.slice (some ⟨G, 0, none⟩) n c3] r9.cells _ Try.underlying27 rfl (by kernel_rfl)
      have hrow9 := hrow8.kept g9 (by simp; have := r2.lt; omega)
      refine bodyPost_ret (results_cellE Try.results64 _ _ _ _ rfl hload) rfl ⟨some ⟨G, 0, none⟩, n, c3, by rw [HO.out]; rfl, by rw [HE.out]; exact own_of_row hrow9 (Nat.le_trans b2.size hG) (by rw [List.length_set]; exact HCC.out) hnc3 hcm HCT.out, by rw [HE.out]; exact HSM.out, below_kept B8 g9 B8.size (by rintro q hq; cases hq; exact Nat.le_of_lt s1)⟩
    · have HE := Lib.hid (flWrite_len (fs := fs) (k := (i : Int)) h256 cut)
      have HO := Lib.hid (flWErr_len hx h256)
      rw [hx] at HX
      clear hx
      generalize flWrite fs i b cut = E at *
      generalize flWErr fs i b = O at *
      have hb : ((b.size : Int) != 256) = true := by simp; omega
      clear h256
      go_enter Try.func64, Try.ntmps64
      go_wp2_with (first
        | (with_reducible refine wpList_box_row (o := ⟨some 4, _, _, _, _, _⟩) rfl _ _ rfl [.slice A n c] rfl ?_; intro w1 r1 s1 g1)
        | (with_reducible refine wpList_alloc_row (o := ⟨some 8, _, _, _, _, _⟩) rfl _ rfl [.slice none 0 0] (by kernel_rfl) ?_; intro w2 r2 s2 g2; have q1 := r1.kept g2 (by simp); have c1 := q1.cell (j := 0) rfl; have b2 := below_kept (grown_below g1 (Nat.le_refl _) (by simp)) g2 (Nat.le_of_lt s1) (by simp)))
      refine (HCL _ (hr.on b2)).out.mono ?_
      rintro e w3 ⟨v, rfl, hown, b3⟩
      have q3 := q1.on b3
      have r3 := r2.on b3
      have B3 := b2.trans (b3.mono b2.size)
      obtain ⟨A3, c3, rfl, hnc3, hcm3, hr3⟩ := own_form hown
      clear c1 hr3
      go_wp2_with ((with_reducible refine wpList_at ⟨none, .store _ (.tmp 14) _, _, _, _, _⟩ ?_); refine wpList_store_elem rfl _ _ _ rfl w.heap.size 0 rfl _ _ q3 (.slice A3 n c3) rfl rfl (by simp) (by kernel_rfl) ?_; intro w4 q4 g4; have c4 := q4.cell (j := 0) rfl; have hown4 := own_kept_lt hown g4 (by omega); have r4 := r3.kept g4 (by simp; omega); have B4 := below_kept B3 g4 B3.size (by rintro q hq; cases hq; exact Nat.le_refl _))
      refine (HX A3 n c3 w4 ⟨Reads.of_own hown4, hnc3, hnm, HSZ.out⟩).out.mono ?_
      rintro e w5 ⟨rfl, b5⟩
      have c5 := (q4.on b5).cell (j := 0) rfl
      have r5 := r4.on b5
      have hown5 := own_below hown4 b5
      have B5 := B4.trans (b5.mono B4.size)
      go_wp2_with (with_reducible refine wpList_at ⟨none, .store _ (.tmp 8) _, _, _, _, _⟩ ?_; refine wpList_store_all rfl _ _ _ rfl w1.heap.size rfl _ _ r5 [.slice A3 n c3] rfl (slice_one _ _ _) rfl (by kernel_rfl) ?_; intro w6 r6 g6; have f6 := r6.cell (j := 0) rfl)
      have hload := run_loadVar_at (P := Try.prog) w6 27 ⟨w1.heap.size, 0, none⟩ [.slice A3 n c3] r6.cells _ Try.underlying27 rfl (by kernel_rfl)
      refine bodyPost_ret (results_cellE Try.results64 _ _ _ _ rfl hload) rfl ⟨A3, n, c3, by rw [HO.out]; rfl, by rw [HE.out]; exact own_base (own_kept_lt hown5 g6 r2.lt) b2.size, by rw [HE.out]; exact HSZ.out, below_kept B5 g6 B5.size (by rintro q hq; cases hq; exact Nat.le_of_lt s1)⟩

theorem lwrite_any (A : Option Addr) (n c : Nat) (fs : List ByteArray) (k : Int) (b : ByteArray) (cut : Int) (w : World) (hok : FlOK w A n c fs) (hn : n ≤ 1000000) :
    Calls Try.prog 64 #[flv A n c, .int .i64 k, .string b, .int .i64 cut] w (GivesLE (flWrite fs k b cut) (flWErr fs k b) w) :=
  (lwrite_own A n c fs k b cut w hok hn).mono fun _ _ ⟨A, n, c, h1, h2, h3, h4⟩ => ⟨A, n, c, h1, own_flok h2 h3, h4⟩
end Go.Proofs.Ytkepmhkakkkliaa
