/-
  FuseCut's walk. No condition but bounded lengths.
-/
import Derived.Test.YtliaapgnknbmbaaW77
import Derived.Test.YtliaapgnknbmbaaFuL
namespace Go.Proofs.Ytliaapgnknbmbaa
open Go.RowKit

theorem pulse_diff {bs : List (List UInt8)} {b c : Int} {cut : Bool} {k j : Nat} {l l' : List UInt8} {s s' : UInt8} (h1 : bs[k]? = some l) (h2 : (fuPulse bs b c cut)[k]? = some l') (g1 : l[j]? = some s) (g2 : l'[j]? = some s') (hne : s ≠ s') : b = (k : Int) ∧ c = (j : Int) := by
  by_cases hx : fuEx bs b c = true
  · obtain ⟨k0, j0, l0, rfl, rfl, hl, hj⟩ := fuEx_iff.1 hx
    have hs : l0[j0]? = some l0[j0] := List.getElem?_eq_getElem hj
    rw [fuPulse_nat hl hs, List.getElem?_set] at h2
    split at h2
    · rename_i e
      subst e
      rw [hl] at h1
      cases h1
      rw [if_pos (List.getElem?_eq_some_iff.1 hl).1] at h2
      cases h2
      rw [List.getElem?_set] at g2
      split at g2
      · rename_i e
        subst e
        exact ⟨rfl, rfl⟩
      · rw [g1] at g2
        cases g2
        exact absurd rfl hne
    · rw [h1] at h2
      cases h2
      rw [g1] at g2
      cases g2
      exact absurd rfl hne
  · rw [fuPulse_out (by simpa using hx), h1] at h2
    cases h2
    rw [g1] at g2
    cases g2
    exact absurd rfl hne

set_option maxRecDepth 100000 in
set_option maxHeartbeats 4000000 in
theorem walk75 (A : Option Addr) (n c : Nat) (ps : List Part) (b i : Int) (w : World) (hok : FuOK w A n c ps) :
    Calls Try.prog 7 #[fuv A n c, .int .i64 b, .int .i64 i] w (TellsB true w) := by
  have HSA := fun W => sanity7_any W
  have HV := fun W (h : FuOK W A n c ps) => Lib.hid (rvalid_any A n c ps W h.1)
  have HLF := fun k W (h : FuOK W A n c ps) => Lib.hid (fleast_any A n c ps k W h.1 h.2.2)
  unfold fuv at *
  cases hv : fuValid (bk ps) with
  | false =>
    rw [hv] at HV
    clear hv
    go_enter Try.func7, Try.ntmps7
    go_wp2_with (with_reducible refine wpList_box_row (o := ⟨some 3, _, _, _, _, _⟩) rfl _ _ rfl ([.slice A n c]) rfl ?_; intro w1 bx_1 s1 g1; have k1 : Below w.heap.size w w1 := grown_below g1 (Nat.le_refl _) (by simp); have B1 : Below w.heap.size w w1 := k1; have ok_1 := hok.on k1; have cbx := bx_1.cell (j := 0) rfl)
    refine ((HV _ ok_1).out).mono ?_
    rintro e w2 ⟨rfl, h2⟩
    have B2 := B1.trans (h2.mono B1.size)
    have ok_2 := ok_1.on h2
    have bx_2 := bx_1.on h2
    clear ok_1 bx_1
    have cbx := bx_2.cell (j := 0) rfl
    go_wp2_with fail
    refine (HSA _).mono ?_
    rintro e w3 ⟨rfl, h3⟩
    have B3 := B2.trans (h3.mono B2.size)
    have ok_3 := ok_2.on h3
    have bx_3 := bx_2.on h3
    clear ok_2 bx_2
    have cbx := bx_3.cell (j := 0) rfl
    go_wp2_with fail
    go_ret
    exact ⟨rfl, B3⟩
  | true =>
    rw [hv] at HV
    have HLN := Lib.hid hok.1.len
    have hn4 := valid_n hok hv
    have HLL := Lib.hid (valid_l hv)
    have HP := fun W (h : FuOK W A n c ps) => Lib.hid (fpulse_any A n c ps b i true W h.1 (by omega) (parts_le h (bs := bk ps) (k := 1000) rfl (by rw [bk_len, HLN.out]) HLL.out).2)
    have HNN := fun W A' n' c' ps' (h : FuOK W A' n' c' ps') (hb : bk ps' = fuPulse (bk ps) b i true) => Lib.hid (parts_le h (bs := bk ps) (k := 1000) (by rw [hb, fuPulse_lens]) (by rw [bk_len, HLN.out]) HLL.out).1
    have HLG := fun (k : Int) W A' n' c' ps' (h : FuOK W A' n' c' ps') (hb : bk ps' = fuPulse (bk ps) b i true) => Lib.hid (show Calls Try.prog 20 #[fuv A' n' c', .int .i64 k] W (TellsI (fuLevel (bk ps) k false) W) by
      have h0 := fleast_any A' n' c' ps' k W h.1 h.2.2
      rw [hb, cut_level] at h0
      exact h0)
    have HVB := fun k l (h : (bk ps)[k]? = some l) => Lib.hid (valid_bank hv h)
    unfold fuv at *
    generalize fuErr (bk ps) b i = xe at *
    clear hv
    go_enter Try.func7, Try.ntmps7
    go_wp2_with (with_reducible refine wpList_box_row (o := ⟨some 3, _, _, _, _, _⟩) rfl _ _ rfl ([.slice A n c]) rfl ?_; intro w1 bx_1 s1 g1; have k1 : Below w.heap.size w w1 := grown_below g1 (Nat.le_refl _) (by simp); have B1 : Below w.heap.size w w1 := k1; have ok_1 := hok.on k1; have cbx := bx_1.cell (j := 0) rfl)
    refine ((HV _ ok_1).out).mono ?_
    rintro e w2 ⟨rfl, h2⟩
    have B2 := B1.trans (h2.mono B1.size)
    have ok_2 := ok_1.on h2
    have bx_2 := bx_1.on h2
    clear ok_1 bx_1
    have cbx := bx_2.cell (j := 0) rfl
    go_wp2_with fail
    refine ((HP _ ok_2).out).mono ?_
    rintro e w3 ⟨A7, n7, c7, qs, rfl, okg3, hb7, h3⟩
    have B3 := B2.trans (h3.mono B2.size)
    have ok_3 := ok_2.on h3
    have bx_3 := bx_2.on h3
    clear ok_2 bx_2
    have cbx := bx_3.cell (j := 0) rfl
    obtain rfl := (HNN _ _ _ _ _ okg3 hb7).out
    have HBQ := Lib.hid hb7
    clear hb7
    unfold fuv
    go_wp2_with (first
      | (with_reducible refine wpList_alloc_row (o := ⟨some 7, _, _, _, _, _⟩) rfl _ rfl [.slice none 0 0] (by kernel_rfl) ?_; intro w4 r4 s4 g4)
      | ((with_reducible refine wpList_at ⟨none, .store _ (.tmp 7) _, _, _, _, _⟩ ?_); refine wpList_store_all rfl _ _ _ rfl w3.heap.size rfl _ _ r4 [.slice A7 n7 c7] rfl (slice_one _ _ _) rfl (by kernel_rfl) ?_; intro w5 by_5 g5; have k5 : Below w3.heap.size w3 w5 := below_kept (grown_below g4 (Nat.le_refl _) (by simp)) g5 (Nat.le_of_lt s4) (by rintro q hq; cases hq; exact Nat.le_refl _); have B5 := B3.trans (k5.mono B3.size); have ok_5 := ok_3.on k5; have bx_5 := bx_3.on k5; have okg_5 := okg3.on k5; clear ok_3 bx_3; have cbx := bx_5.cell (j := 0) rfl; have cby := by_5.cell (j := 0) rfl; clear r4 g4 g5))
    have HOK := Lib.hid ok_5
    have HOG := Lib.hid okg_5
    have BB := B5
    have e1 := bx_5
    have e2 := by_5
    clear cbx cby
    go_loopg [9, 33] n7 (fun g s9 s33 wr => ∃ k x : Nat, Hid (k + g = n7) ∧ k ≤ n7 ∧ s33 = .int .i64 (k : Int) ∧ s9 = .int .i64 (x : Int) ∧ x ≤ 1 ∧ Hid (0 < x → b < (k : Int)) ∧ Below w5.heap.size w5 wr)
    case atStart => exact ⟨0, 0, by show _ = _; omega, by omega, rfl, rfl, by omega, Lib.hid (fun h => by omega), Below.refl _ _⟩
    case round =>
     obtain ⟨k, x, HK, hk, rfl, rfl, hx1, HX, hB⟩ := hrel
     by_cases hlt : k < n7
     · obtain ⟨ad, p, rfl, hlta, hpk, hc0, hp, hpc⟩ := HOK.out.1.at_ hlt
       obtain ⟨gd, q, rfl, hltg, hqk, hd0, hq, hqc⟩ := HOG.out.1.at_ hlt
       have HPK := Lib.hid (bk_get hpk)
       have HQK : Hid ((fuPulse (bk ps) b i true)[k]? = some q.l) := Lib.hid (by rw [← HBQ.out]; exact bk_get hqk)
       have HLE : Hid (p.l.length = q.l.length) := Lib.hid (((Rel.pulse (P := fun _ _ => True) (fun _ => trivial) (bk ps) b i true (fun _ => trivial)).2 k _ _ HPK.out HQK.out).1)
       have HPL := Lib.hid hp.bytes_len
       have HQL := Lib.hid hq.bytes_len
       have hpq : q.n = p.n := by rw [← HPL.out, ← HQL.out, HLE.out]
       have HPR := Lib.hid hp
       have HQR := Lib.hid hq
       have hp48 := (HVB k p.l HPK.out).out.2.1
       rw [HPL.out] at hp48
       obtain ⟨pA, pn, pc, pl⟩ := p
       obtain ⟨qA, qn, qc, ql⟩ := q
       simp only at *
       subst hpq
       have HC0 := Lib.hid hc0
       have HD0 := Lib.hid hd0
       have y1 := (e1.on hB).cell (j := 0) rfl
       have y2 := (e2.on hB).cell (j := 0) rfl
       have hca := (hB.cell (by rw [block_of_add]; exact hlta)).trans hc0
       have hda := (hB.cell (by rw [block_of_add]; exact hltg)).trans hd0
       clear hpk hqk hc0 hd0 hp hq
       obtain ⟨g0, hg0⟩ : ∃ g0 : Nat, g0 = gk := ⟨_, rfl⟩
       have HG0 := Lib.hid hg0
       clear hg0
       rcases Nat.eq_zero_or_pos qn with h0 | h0
       · subst h0
         go_wp2_with fail
         refine wp_region_plan (fun w' => Row w' w.heap.size 24 [.slice (some ad) n7 c] ∧ Row w' w3.heap.size 24 [.slice (some gd) n7 c7] ∧ w'.cell? (ad.add k) = some (.slice pA 0 pc) ∧ w'.cell? (gd.add k) = some (.slice qA 0 qc)) (.take 0 <| .take 1 <| .take 2 <| .take 3 <| .take 4 <| .take 5 <| .take 6 <| .take 7 <| .take 8 <| .take 9 <| .take 10 <| .take 11 <| .take 12 <| .take 13 <| .take 14 <| .take 15 <| .take 17 <| .take 18 <| .one 16 <| .one 19 <| .take 20 <| .take 21 <| .done) (by kernel_rfl) (by kernel_rfl) (by kernel_rfl) (fun _ _ _ _ _ h => h) ⟨e1.on hB.drew, e2.on hB.drew, (hB.drew.cell (by rw [block_of_add]; exact hlta)).trans HC0.out, (hB.drew.cell (by rw [block_of_add]; exact hltg)).trans HD0.out⟩ ?_
         repeat (refine plan_take _ rfl ?_; (first | (refine wpQuiet_valueG (o := ⟨some 37, _, _, _, _, _⟩) rfl _ (by intro _ h; exact exec_load1 _ 22 _ rfl ⟨w3.heap.size, 0, none⟩ rfl _ (h.2.1.cell (j := 0) rfl) _ Try.underlying22 rfl) (wpQuiet_nil ?_); simp only [Act.put, List.setIfInBounds_toArray, List.set_cons_zero, List.set_cons_succ]) | (refine wpQuiet_valueG (o := ⟨some 40, _, _, _, _, _⟩) rfl _ (by intro _ h; exact exec_load1 _ 26 _ rfl (gd.add k) rfl _ h.2.2.2 _ Try.underlying26 rfl) (wpQuiet_nil ?_); simp only [Act.put, List.setIfInBounds_toArray, List.set_cons_zero, List.set_cons_succ]) | (refine wpQuiet_valueG (o := ⟨some 43, _, _, _, _, _⟩) rfl _ (by intro _ h; exact exec_load1 _ 22 _ rfl ⟨w.heap.size, 0, none⟩ rfl _ (h.1.cell (j := 0) rfl) _ Try.underlying22 rfl) (wpQuiet_nil ?_); simp only [Act.put, List.setIfInBounds_toArray, List.set_cons_zero, List.set_cons_succ]) | (refine wpQuiet_valueG (o := ⟨some 46, _, _, _, _, _⟩) rfl _ (by intro _ h; exact exec_load1 _ 26 _ rfl (ad.add k) rfl _ h.2.2.1 _ Try.underlying26 rfl) (wpQuiet_nil ?_); simp only [Act.put, List.setIfInBounds_toArray, List.set_cons_zero, List.set_cons_succ]) | (refine wpQuiet_valueG (o := ⟨some 50, _, _, _, _, _⟩) rfl _ (by intro _ h; exact exec_load _ 24 _ rfl ⟨w3.heap.size, 0, none⟩ rfl [.slice (some gd) n7 c7] h.2.1.cells _ Try.underlying24 rfl (by kernel_rfl)) (wpQuiet_nil ?_); simp only [Act.put, List.setIfInBounds_toArray, List.set_cons_zero, List.set_cons_succ]) | (refine wpQuiet_valueG (o := ⟨some 53, _, _, _, _, _⟩) rfl _ (by intro _ h; exact exec_load _ 24 _ rfl ⟨w.heap.size, 0, none⟩ rfl [.slice (some ad) n7 c] h.1.cells _ Try.underlying24 rfl (by kernel_rfl)) (wpQuiet_nil ?_); simp only [Act.put, List.setIfInBounds_toArray, List.set_cons_zero, List.set_cons_succ]) | (go_big_quiet_step ((intros; rfl)); refine wpQuiet_nil ?_)))
         refine plan_one _ rfl fun K hK => ?_
         go_simp
         refine (HLG (k : Int) _ (some gd) n7 c7 qs (HOG.out.on hB.drew) HBQ.out).out.mono ?_
         rintro e wa ⟨rfl, ha⟩
         have Ba := hB.drew.trans (ha.mono hB.drew.size)
         refine hK _ _ ⟨e1.on Ba, e2.on Ba, (Ba.cell (by rw [block_of_add]; exact hlta)).trans HC0.out, (Ba.cell (by rw [block_of_add]; exact hltg)).trans HD0.out⟩ ?_
         clear hK K
         refine plan_one _ rfl fun K hK => ?_
         go_simp
         refine (HLF (k : Int) _ (HOK.out.on Ba)).out.mono ?_
         rintro e wb ⟨rfl, hb⟩
         have Bb := Ba.trans (hb.mono Ba.size)
         refine hK _ _ ⟨e1.on Bb, e2.on Bb, (Bb.cell (by rw [block_of_add]; exact hlta)).trans HC0.out, (Bb.cell (by rw [block_of_add]; exact hltg)).trans HD0.out⟩ ?_
         clear hK K
         repeat (refine plan_take _ rfl ?_; (first | (refine wpQuiet_valueG (o := ⟨some 37, _, _, _, _, _⟩) rfl _ (by intro _ h; exact exec_load1 _ 22 _ rfl ⟨w3.heap.size, 0, none⟩ rfl _ (h.2.1.cell (j := 0) rfl) _ Try.underlying22 rfl) (wpQuiet_nil ?_); simp only [Act.put, List.setIfInBounds_toArray, List.set_cons_zero, List.set_cons_succ]) | (refine wpQuiet_valueG (o := ⟨some 40, _, _, _, _, _⟩) rfl _ (by intro _ h; exact exec_load1 _ 26 _ rfl (gd.add k) rfl _ h.2.2.2 _ Try.underlying26 rfl) (wpQuiet_nil ?_); simp only [Act.put, List.setIfInBounds_toArray, List.set_cons_zero, List.set_cons_succ]) | (refine wpQuiet_valueG (o := ⟨some 43, _, _, _, _, _⟩) rfl _ (by intro _ h; exact exec_load1 _ 22 _ rfl ⟨w.heap.size, 0, none⟩ rfl _ (h.1.cell (j := 0) rfl) _ Try.underlying22 rfl) (wpQuiet_nil ?_); simp only [Act.put, List.setIfInBounds_toArray, List.set_cons_zero, List.set_cons_succ]) | (refine wpQuiet_valueG (o := ⟨some 46, _, _, _, _, _⟩) rfl _ (by intro _ h; exact exec_load1 _ 26 _ rfl (ad.add k) rfl _ h.2.2.1 _ Try.underlying26 rfl) (wpQuiet_nil ?_); simp only [Act.put, List.setIfInBounds_toArray, List.set_cons_zero, List.set_cons_succ]) | (refine wpQuiet_valueG (o := ⟨some 50, _, _, _, _, _⟩) rfl _ (by intro _ h; exact exec_load _ 24 _ rfl ⟨w3.heap.size, 0, none⟩ rfl [.slice (some gd) n7 c7] h.2.1.cells _ Try.underlying24 rfl (by kernel_rfl)) (wpQuiet_nil ?_); simp only [Act.put, List.setIfInBounds_toArray, List.set_cons_zero, List.set_cons_succ]) | (refine wpQuiet_valueG (o := ⟨some 53, _, _, _, _, _⟩) rfl _ (by intro _ h; exact exec_load _ 24 _ rfl ⟨w.heap.size, 0, none⟩ rfl [.slice (some ad) n7 c] h.1.cells _ Try.underlying24 rfl (by kernel_rfl)) (wpQuiet_nil ?_); simp only [Act.put, List.setIfInBounds_toArray, List.set_cons_zero, List.set_cons_succ]) | (go_big_quiet_step ((intros; rfl)); refine wpQuiet_nil ?_)))
         refine plan_done ?_
         have x1 := (e1.on Bb).cell (j := 0) rfl
         have x2 := (e2.on Bb).cell (j := 0) rfl
         have hcb := (Bb.cell (by rw [block_of_add]; exact hlta)).trans HC0.out
         clear y1 y2 hca hda
         go_wp2_with fail
         go_loopg [9, 64] 0 (fun _ s9 s64 wi => s64 = .int .i64 0 ∧ s9 = .int .i64 (x : Int) ∧ wi = wb)
         case atStart => exact ⟨rfl, rfl, rfl⟩
         case round =>
           obtain ⟨rfl, rfl, rfl⟩ := hrel
           go_wp2_with fail
           go_roundg (g0 - 1)
           case measure => have := HK.out; have := HG0.out; omega
           case rel => exact ⟨k + 1, x, by have := HK.out; have := HG0.out; show _ = _; omega, by omega, by go_num, rfl, hx1, Lib.hid (fun h => by have := HX.out h; omega), Bb⟩
       · obtain ⟨pd, rfl, hlp, _⟩ := HPR.out.2 h0
         obtain ⟨qd, rfl, hlq, _⟩ := HQR.out.2 h0
         go_wp2_with fail
         refine wp_region_plan (fun w' => Row w' w.heap.size 24 [.slice (some ad) n7 c] ∧ Row w' w3.heap.size 24 [.slice (some gd) n7 c7] ∧ w'.cell? (ad.add k) = some (.slice (some pd) qn pc) ∧ w'.cell? (gd.add k) = some (.slice (some qd) qn qc)) (.take 0 <| .take 1 <| .take 2 <| .take 3 <| .take 4 <| .take 5 <| .take 6 <| .take 7 <| .take 8 <| .take 9 <| .take 10 <| .take 11 <| .take 12 <| .take 13 <| .take 14 <| .take 15 <| .take 17 <| .take 18 <| .one 16 <| .one 19 <| .take 20 <| .take 21 <| .done) (by kernel_rfl) (by kernel_rfl) (by kernel_rfl) (fun _ _ _ _ _ h => h) ⟨e1.on hB.drew, e2.on hB.drew, (hB.drew.cell (by rw [block_of_add]; exact hlta)).trans HC0.out, (hB.drew.cell (by rw [block_of_add]; exact hltg)).trans HD0.out⟩ ?_
         repeat (refine plan_take _ rfl ?_; (first | (refine wpQuiet_valueG (o := ⟨some 37, _, _, _, _, _⟩) rfl _ (by intro _ h; exact exec_load1 _ 22 _ rfl ⟨w3.heap.size, 0, none⟩ rfl _ (h.2.1.cell (j := 0) rfl) _ Try.underlying22 rfl) (wpQuiet_nil ?_); simp only [Act.put, List.setIfInBounds_toArray, List.set_cons_zero, List.set_cons_succ]) | (refine wpQuiet_valueG (o := ⟨some 40, _, _, _, _, _⟩) rfl _ (by intro _ h; exact exec_load1 _ 26 _ rfl (gd.add k) rfl _ h.2.2.2 _ Try.underlying26 rfl) (wpQuiet_nil ?_); simp only [Act.put, List.setIfInBounds_toArray, List.set_cons_zero, List.set_cons_succ]) | (refine wpQuiet_valueG (o := ⟨some 43, _, _, _, _, _⟩) rfl _ (by intro _ h; exact exec_load1 _ 22 _ rfl ⟨w.heap.size, 0, none⟩ rfl _ (h.1.cell (j := 0) rfl) _ Try.underlying22 rfl) (wpQuiet_nil ?_); simp only [Act.put, List.setIfInBounds_toArray, List.set_cons_zero, List.set_cons_succ]) | (refine wpQuiet_valueG (o := ⟨some 46, _, _, _, _, _⟩) rfl _ (by intro _ h; exact exec_load1 _ 26 _ rfl (ad.add k) rfl _ h.2.2.1 _ Try.underlying26 rfl) (wpQuiet_nil ?_); simp only [Act.put, List.setIfInBounds_toArray, List.set_cons_zero, List.set_cons_succ]) | (refine wpQuiet_valueG (o := ⟨some 50, _, _, _, _, _⟩) rfl _ (by intro _ h; exact exec_load _ 24 _ rfl ⟨w3.heap.size, 0, none⟩ rfl [.slice (some gd) n7 c7] h.2.1.cells _ Try.underlying24 rfl (by kernel_rfl)) (wpQuiet_nil ?_); simp only [Act.put, List.setIfInBounds_toArray, List.set_cons_zero, List.set_cons_succ]) | (refine wpQuiet_valueG (o := ⟨some 53, _, _, _, _, _⟩) rfl _ (by intro _ h; exact exec_load _ 24 _ rfl ⟨w.heap.size, 0, none⟩ rfl [.slice (some ad) n7 c] h.1.cells _ Try.underlying24 rfl (by kernel_rfl)) (wpQuiet_nil ?_); simp only [Act.put, List.setIfInBounds_toArray, List.set_cons_zero, List.set_cons_succ]) | (go_big_quiet_step ((intros; rfl)); refine wpQuiet_nil ?_)))
         refine plan_one _ rfl fun K hK => ?_
         go_simp
         refine (HLG (k : Int) _ (some gd) n7 c7 qs (HOG.out.on hB.drew) HBQ.out).out.mono ?_
         rintro e wa ⟨rfl, ha⟩
         have Ba := hB.drew.trans (ha.mono hB.drew.size)
         refine hK _ _ ⟨e1.on Ba, e2.on Ba, (Ba.cell (by rw [block_of_add]; exact hlta)).trans HC0.out, (Ba.cell (by rw [block_of_add]; exact hltg)).trans HD0.out⟩ ?_
         clear hK K
         refine plan_one _ rfl fun K hK => ?_
         go_simp
         refine (HLF (k : Int) _ (HOK.out.on Ba)).out.mono ?_
         rintro e wb ⟨rfl, hb⟩
         have Bb := Ba.trans (hb.mono Ba.size)
         refine hK _ _ ⟨e1.on Bb, e2.on Bb, (Bb.cell (by rw [block_of_add]; exact hlta)).trans HC0.out, (Bb.cell (by rw [block_of_add]; exact hltg)).trans HD0.out⟩ ?_
         clear hK K
         repeat (refine plan_take _ rfl ?_; (first | (refine wpQuiet_valueG (o := ⟨some 37, _, _, _, _, _⟩) rfl _ (by intro _ h; exact exec_load1 _ 22 _ rfl ⟨w3.heap.size, 0, none⟩ rfl _ (h.2.1.cell (j := 0) rfl) _ Try.underlying22 rfl) (wpQuiet_nil ?_); simp only [Act.put, List.setIfInBounds_toArray, List.set_cons_zero, List.set_cons_succ]) | (refine wpQuiet_valueG (o := ⟨some 40, _, _, _, _, _⟩) rfl _ (by intro _ h; exact exec_load1 _ 26 _ rfl (gd.add k) rfl _ h.2.2.2 _ Try.underlying26 rfl) (wpQuiet_nil ?_); simp only [Act.put, List.setIfInBounds_toArray, List.set_cons_zero, List.set_cons_succ]) | (refine wpQuiet_valueG (o := ⟨some 43, _, _, _, _, _⟩) rfl _ (by intro _ h; exact exec_load1 _ 22 _ rfl ⟨w.heap.size, 0, none⟩ rfl _ (h.1.cell (j := 0) rfl) _ Try.underlying22 rfl) (wpQuiet_nil ?_); simp only [Act.put, List.setIfInBounds_toArray, List.set_cons_zero, List.set_cons_succ]) | (refine wpQuiet_valueG (o := ⟨some 46, _, _, _, _, _⟩) rfl _ (by intro _ h; exact exec_load1 _ 26 _ rfl (ad.add k) rfl _ h.2.2.1 _ Try.underlying26 rfl) (wpQuiet_nil ?_); simp only [Act.put, List.setIfInBounds_toArray, List.set_cons_zero, List.set_cons_succ]) | (refine wpQuiet_valueG (o := ⟨some 50, _, _, _, _, _⟩) rfl _ (by intro _ h; exact exec_load _ 24 _ rfl ⟨w3.heap.size, 0, none⟩ rfl [.slice (some gd) n7 c7] h.2.1.cells _ Try.underlying24 rfl (by kernel_rfl)) (wpQuiet_nil ?_); simp only [Act.put, List.setIfInBounds_toArray, List.set_cons_zero, List.set_cons_succ]) | (refine wpQuiet_valueG (o := ⟨some 53, _, _, _, _, _⟩) rfl _ (by intro _ h; exact exec_load _ 24 _ rfl ⟨w.heap.size, 0, none⟩ rfl [.slice (some ad) n7 c] h.1.cells _ Try.underlying24 rfl (by kernel_rfl)) (wpQuiet_nil ?_); simp only [Act.put, List.setIfInBounds_toArray, List.set_cons_zero, List.set_cons_succ]) | (go_big_quiet_step ((intros; rfl)); refine wpQuiet_nil ?_)))
         refine plan_done ?_
         have x1 := (e1.on Bb).cell (j := 0) rfl
         have x2 := (e2.on Bb).cell (j := 0) rfl
         have hcb := (Bb.cell (by rw [block_of_add]; exact hlta)).trans HC0.out
         clear y1 y2 hca hda
         go_wp2_with fail
         go_loopg [9, 64] qn (fun g s9 s64 wi => ∃ j x : Nat, Hid (j + g = qn) ∧ j ≤ qn ∧ s64 = .int .i64 (j : Int) ∧ s9 = .int .i64 (x : Int) ∧ x ≤ 1 ∧ Hid (0 < x → b < (k : Int) ∨ b = (k : Int) ∧ i < (j : Int)) ∧ Below w5.heap.size w5 wi)
         case atStart => exact ⟨0, x, by show _ = _; omega, by omega, rfl, rfl, hx1, Lib.hid (fun h => .inl (HX.out h)), Bb⟩
         case round =>
           obtain ⟨j, x, HJ, hj, rfl, rfl, hx1, HX2, hBi⟩ := hrel
           by_cases hlj : j < qn
           · obtain ⟨s, hs⟩ : ∃ s, pl[j]? = some s := ⟨_, List.getElem?_eq_getElem (by rw [HPL.out]; exact hlj)⟩
             obtain ⟨t, ht⟩ : ∃ t, ql[j]? = some t := ⟨_, List.getElem?_eq_getElem (by rw [HQL.out]; exact hlj)⟩
             obtain ⟨pd', hpA, _, hsc⟩ := (HPR.out.below hBi).byte_at hs
             cases hpA
             obtain ⟨qd', hqA, _, htc⟩ := (HQR.out.below hBi).byte_at ht
             cases hqA
             have HDF : Hid (s ≠ t → b = (k : Int) ∧ i = (j : Int)) := Lib.hid (fun h => pulse_diff HPK.out HQK.out hs ht h)
             have z1 := (e1.on hBi).cell (j := 0) rfl
             have z2 := (e2.on hBi).cell (j := 0) rfl
             have z3 := (hBi.cell (by rw [block_of_add]; exact hlta)).trans HC0.out
             have z4 := (hBi.cell (by rw [block_of_add]; exact hltg)).trans HD0.out
             unfold bv at hsc htc
             clear hs ht x1 x2 hcb
             by_cases hst : s = t
             · have hz2 : (((t.toNat : Nat) : Int) != (s.toNat : Nat)) = false := by rw [hst]; simp
               clear hst HDF
               generalize s.toNat = sv at *
               generalize t.toNat = tv at *
               go_wp2_with fail
               go_quiet (fail)
               have hBn := below_drewN hBi nq
               generalize wr.drewN nq = wm at *
               go_wp2_with fail
               go_roundg (gk - 1)
               case measure => have := HJ.out; omega
               case rel => exact ⟨j + 1, x, by have := HJ.out; show _ = _; omega, by omega, by go_num, rfl, hx1, Lib.hid (fun h => (HX2.out h).imp id (fun e => ⟨e.1, by omega⟩)), hBn⟩
             · have hz2 : (((t.toNat : Nat) : Int) != (s.toNat : Nat)) = true := by
                 have : t.toNat ≠ s.toNat := fun e => hst (UInt8.toNat.inj e).symm
                 simp only [bne_iff_ne, ne_eq]
                 omega
               obtain ⟨hbk, hij⟩ := HDF.out hst
               have hx0 : x = 0 := by
                 rcases Nat.eq_zero_or_pos x with h | h
                 · exact h
                 · rcases HX2.out h with h | h <;> omega
               have HBI := Lib.hid (And.intro hbk hij)
               clear hst HDF hbk hij
               subst hx0
               generalize s.toNat = sv at *
               generalize t.toNat = tv at *
               go_wp2_with fail
               go_quiet (fail)
               have hBn := below_drewN hBi nq
               generalize wr.drewN nq = wm at *
               go_wp2_with fail
               go_roundg (gk - 1)
               case measure => have := HJ.out; omega
               case rel => exact ⟨j + 1, 1, by have := HJ.out; show _ = _; omega, by omega, by go_num, rfl, by omega, Lib.hid (fun _ => .inr ⟨HBI.out.1, by have := HBI.out.2; omega⟩), hBn⟩
           · go_wp2_with fail
             go_roundg (g0 - 1)
             case measure => have := HK.out; have := HG0.out; omega
             case rel => exact ⟨k + 1, x, by have := HK.out; have := HG0.out; show _ = _; omega, by omega, by go_num, rfl, hx1, Lib.hid (fun h => by rcases HX2.out h with h | h <;> omega), hBi⟩
     · have hx1' : decide ((x : Int) ≤ 1) = true := decide_eq_true (by omega)
       go_wp2_with fail
       refine (HSA _).mono ?_
       rintro e w9 ⟨rfl, h9⟩
       go_wp2_with fail
       go_ret
       exact ⟨by simp, BB.trans ((hB.trans (h9.mono hB.size)).mono BB.size)⟩
end Go.Proofs.Ytliaapgnknbmbaa
