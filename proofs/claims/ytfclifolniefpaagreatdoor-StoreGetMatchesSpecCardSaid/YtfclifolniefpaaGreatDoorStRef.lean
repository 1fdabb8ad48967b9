/-
  What the reference's Current, Load and Get return: contracts by walks. Condition: bounded lengths.
-/
import Derived.Test.YtfclifolniefpaaGreatDoorStRcd
import Derived.Test.YtfclifolniefpaaGreatDoorStI
set_option linter.unusedSimpArgs false
set_option linter.unusedVariables false
namespace Go.Proofs.YtfclifolniefpaaGreatDoor
open Go.RowKit

theorem arS_cat (l : List StR) (j : Nat) : ∀ k, j + k ≤ l.length → arS l j k = stCat (((l.map StR.s).drop j).take k)
  | 0, _ => by simp [arS, stCat]
  | k + 1, h => by
    have hk : (l.map StR.s).drop j = (l.map StR.s).drop j := rfl
    have hj : j + k < l.length := by omega
    have hg : ((l.map StR.s).drop j)[k]? = some l[j + k].s := by rw [List.getElem?_drop, List.getElem?_map, List.getElem?_eq_getElem hj]; rfl
    rw [arS_succ, arS_cat l j k (by omega), List.take_add_one, hg]
    have : rdS l (j + k) = l[j + k].s := by unfold rdS; rw [List.getD, List.getElem?_eq_getElem hj]; rfl
    rw [this]
    unfold stCat
    rw [List.flatMap_append]
    simp
def cuCur (rec : Int) (n : Nat) (ls : List ByteArray) : Int × Int × ByteArray := if n < 16 then (0, 0, em) else (1 - stTgt rec ls, (stCur rec ls).1, mk (stCur rec ls).2)
theorem cuCur_few {rec : Int} {n : Nat} {ls : List ByteArray} (h : n < 16) : cuCur rec n ls = (0, 0, em) := if_pos h
theorem cuCur_a {rec : Int} {n : Nat} {ls : List ByteArray} (h : ¬ n < 16) (h0 : (stA0 rec ls).1 = 0 ∨ (stA0 rec ls).1 < (stA1 rec ls).1) : cuCur rec n ls = (1, (stA1 rec ls).1, mk (stA1 rec ls).2) := by
  have hc : stCur rec ls = stA1 rec ls := by
    unfold stCur stNew
    by_cases hlt : (stA0 rec ls).1 < (stA1 rec ls).1
    · rw [if_pos (decide_eq_true hlt)]
    · have h1 : (stA0 rec ls).1 = 0 := by omega
      have h2 : (stA1 rec ls).1 = 0 := by have := (stDec_nn rec (stCat ((ls.drop 8).take 8))).1; unfold stA1 at *; omega
      rw [if_neg (by rw [decide_eq_false hlt]; decide)]
      unfold stA0 stA1 at *
      rw [stDec_none h1, stDec_none h2]
  have ht : stTgt rec ls = 0 := by
    unfold stTgt
    rw [hc]
    by_cases hz : (stA1 rec ls).1 = 0
    · rw [if_pos hz]
    · rw [if_neg hz, if_pos]
      unfold stNew
      refine decide_eq_true ?_
      have := (stDec_nn rec (stCat ((ls.drop 8).take 8))).1
      rcases h0 with h0 | h0
      · unfold stA1 at *; omega
      · exact h0
  unfold cuCur
  rw [if_neg h, hc, ht]
  rfl
theorem cuCur_b {rec : Int} {n : Nat} {ls : List ByteArray} (h : ¬ n < 16) (h0 : ¬ (stA0 rec ls).1 = 0) (h1 : ¬ (stA0 rec ls).1 < (stA1 rec ls).1) : cuCur rec n ls = (0, (stA0 rec ls).1, mk (stA0 rec ls).2) := by
  have hn : stNew rec ls = false := decide_eq_false h1
  have hc : stCur rec ls = stA0 rec ls := by unfold stCur; rw [hn]; rfl
  unfold cuCur stTgt
  rw [if_neg h, hc, if_neg h0, hn]
  rfl
theorem cuS_16 {A : Option Addr} {n d : Nat} {acc : Nat → StA} (h : ¬ n < 16) : cuS A n d acc 16 = ⟨A, n, d, 16, noA, false⟩ := by unfold cuS; rw [if_pos (by omega)]
theorem cuS_few {A : Option Addr} {n d : Nat} {acc : Nat → StA} {j : Nat} (h : n < j) : cuS A n d acc j = ⟨A, n, d, n, acc n, true⟩ := by unfold cuS; rw [if_neg (by omega)]
set_option maxRecDepth 100000 in
set_option maxHeartbeats 4000000 in
theorem ccur_any (g : Nat) (A : Option Addr) (n d : Nat) (acc : Nat → StA) (rec : Int) (l : List StR) (hin : stIn rec = true) (hacc : ∀ j, j < 16 → acc j = stRead rec j) (w : World) (hrow : Row w g 68 (cuS A n d acc 0).cs) (hr : Reads w w.heap.size 2 A n (rcs l)) (hA : 0 < n → ∀ ad, A = some ad → ad.block ≠ g) (hn : n ≤ 1000) (hs : ∀ r ∈ l, r.s.size ≤ 400) :
    Calls Tryz.prog 35 #[.pointer (some ⟨g, 0, none⟩), .int .i64 rec] w (GivesC g (cuS A n d acc 16) (.tuple #[.int .i64 (cuCur rec n (l.map StR.s)).1, .int .i64 (cuCur rec n (l.map StR.s)).2.1, .string (cuCur rec n (l.map StR.s)).2.2]) w) := by
  have hl := hr.len_of (by decide) StR.cs_len
  have HAR0 := Lib.hid (carea_any g A n d acc 0 rec l hin (by omega) hacc w hrow hr hA (by omega) hs)
  have HAR1 : ∀ W : World, Row W g 68 (cuS A n d acc 8).cs → w.grownBy W (some g) → Hid (Calls Tryz.prog 58 #[.pointer (some ⟨g, 0, none⟩), .int .i64 rec, .int .i64 1] W (fun e w' => ∃ v, e = .returned v ∧ w'.ownsRow W.heap.size 5 1 v (arS l 8 8).length (bvs (arS l 8 8)) ∧ Row w' g 68 (cuS A n d acc 16).cs ∧ W.grownBy w' (some g))) := fun W hR hG =>
    Lib.hid (carea_any g A n d acc 1 rec l hin (by omega) hacc W hR (hr.keptG hG hA) hA (by omega) hs)
  have HL0 := Lib.hid (arS_len hs 0 8)
  have HL1 := Lib.hid (arS_len hs 8 8)
  simp only [Nat.mul_zero, Nat.zero_add] at HAR0
  have HDC := fun A n c l W hr hc hn => Lib.hid (rdecode_any rec A n c l W hin hr hc hn)
  unfold TellsD at HDC
  have hgl := hrow.lt
  by_cases h16 : n < 16
  · have HE := Lib.hid (cuCur_few (rec := rec) (ls := l.map StR.s) h16)
    have HS := Lib.hid (cuS_few (A := A) (d := d) (acc := acc) (j := 16) h16)
    generalize cuCur rec n (l.map StR.s) = R at *
    clear hr hA hs hacc hl
    go_enter Tryz.func35, Tryz.ntmps35
    go_wp2_with fail
    refine HAR0.out.mono ?_
    rintro e w1 ⟨v1, rfl, o1, r1, g1⟩
    go_wp2_with fail
    refine ((HAR1 w1 r1 g1).out).mono ?_
    rintro e w2 ⟨v2, rfl, o2, r2, g2⟩
    have c6 : w2.cell? ⟨g, 6, none⟩ = some (.bool true) := by rw [HS.out] at r2; exact r2.cell (j := 6) rfl
    go_wp2_with fail
    go_ret3
    exact ⟨by rw [HE.out]; rfl, r2, grown_trans g1 g2⟩
  · have hb0 := arS_cat l 0 8 (by omega)
    have hb1 := arS_cat l 8 8 (by omega)
    rw [List.drop_zero] at hb0
    have HS := Lib.hid (cuS_16 (A := A) (d := d) (acc := acc) h16)
    have HP0 : Hid (stDec rec (arS l 0 8) = stA0 rec (l.map StR.s)) := Lib.hid (by rw [hb0]; rfl)
    have HP1 : Hid (stDec rec (arS l 8 8) = stA1 rec (l.map StR.s)) := Lib.hid (by rw [hb1]; rfl)
    have HEA := fun h => Lib.hid (cuCur_a (rec := rec) (ls := l.map StR.s) h16 h)
    have HEB := fun h h' => Lib.hid (cuCur_b (rec := rec) (ls := l.map StR.s) h16 h h')
    generalize cuCur rec n (l.map StR.s) = R at *
    generalize stA0 rec (l.map StR.s) = p0 at *
    generalize stA1 rec (l.map StR.s) = p1 at *
    generalize arS l 0 8 = b0 at *
    generalize arS l 8 8 = b1 at *
    clear hr hA hs hacc hl hb0 hb1
    obtain ⟨m0, s0⟩ := p0
    obtain ⟨m1, s1⟩ := p1
    simp only at HEA HEB
    go_enter Tryz.func35, Tryz.ntmps35
    go_wp2_with fail
    refine HAR0.out.mono ?_
    rintro e w1 ⟨v1, rfl, o1, r1, g1⟩
    go_wp2_with fail
    refine ((HAR1 w1 r1 g1).out).mono ?_
    rintro e w2 ⟨v2, rfl, o2, r2, g2⟩
    have c6 : w2.cell? ⟨g, 6, none⟩ = some (.bool false) := by rw [HS.out] at r2; exact r2.cell (j := 6) rfl
    have o12 := o1.kept g2 (.inr (r1.not_row7 (by decide) o1).symm)
    obtain ⟨A1, c1, rfl, hc1, _, d1⟩ := own_form o12
    obtain ⟨A2, c2, rfl, hc2, _, d2⟩ := own_form o2
    have G2 := grown_trans g1 g2
    clear o1 o12 o2
    go_wp2_with fail
    refine ((HDC _ _ _ _ _ d1 hc1 (by have := HL0.out; omega)).out).mono ?_
    rintro e w3 ⟨rfl, b3⟩
    have d23 := d2.on b3
    rw [HP0.out]
    go_wp2_with fail
    refine ((HDC _ _ _ _ _ d23 hc2 (by have := HL1.out; omega)).out).mono ?_
    rintro e w4 ⟨rfl, b4⟩
    rw [HP1.out]
    have r4 := (r2.on b3).on b4
    have G4 := grown_trans G2 (below_grownBy (b3.trans (b4.mono b3.size)) (some g))
    by_cases h0 : m0 = 0
    · have HE := HEA (.inl h0)
      have q0 : (m0 == 0) = true := by simpa using h0
      clear h0
      go_wp2_with fail
      go_ret3
      exact ⟨by rw [HE.out]; rfl, r4, G4⟩
    · have q0 : (m0 == 0) = false := by simpa using h0
      by_cases h1 : m0 < m1
      · have HE := HEA (.inr h1)
        clear h0
        go_wp2_with fail
        go_ret3
        exact ⟨by rw [HE.out]; rfl, r4, G4⟩
      · have HE := HEB h0 (by omega)
        clear h0
        go_wp2_with fail
        go_ret3
        exact ⟨by rw [HE.out]; rfl, r4, G4⟩
def cuLoad (rec : Int) (n : Nat) (ls : List ByteArray) : StO := if (cuCur rec n ls).2.1 = 0 then ⟨em, 0, 13⟩ else ⟨(cuCur rec n ls).2.2, (cuCur rec n ls).2.1, 0⟩
set_option maxRecDepth 100000 in
set_option maxHeartbeats 4000000 in
theorem cload_in (g : Nat) (A : Option Addr) (n d : Nat) (acc : Nat → StA) (rec : Int) (l : List StR) (hin : stIn rec = true) (hacc : ∀ j, j < 16 → acc j = stRead rec j) (w : World) (hrow : Row w g 68 (cuS A n d acc 0).cs) (hr : Reads w w.heap.size 2 A n (rcs l)) (hA : 0 < n → ∀ ad, A = some ad → ad.block ≠ g) (hn : n ≤ 1000) (hs : ∀ r ∈ l, r.s.size ≤ 400) :
    Calls Tryz.prog 22 #[.pointer (some ⟨g, 0, none⟩), .int .i64 rec] w (GivesC g (cuS A n d acc 16) (cuLoad rec n (l.map StR.s)).v w) := by
  have HF := fun W => Lib.hid (rfirst_any rec 0 W)
  rw [stFirst_ok hin (by omega) (by omega)] at HF
  have hrb := stIn_iff.1 hin
  obtain ⟨hr0, hr3⟩ := hrb
  have HCU : ∀ W : World, Row W g 68 (cuS A n d acc 0).cs → Below w.heap.size w W → Hid (Calls Tryz.prog 35 #[.pointer (some ⟨g, 0, none⟩), .int .i64 rec] W (GivesC g (cuS A n d acc 16) (.tuple #[.int .i64 (cuCur rec n (l.map StR.s)).1, .int .i64 (cuCur rec n (l.map StR.s)).2.1, .string (cuCur rec n (l.map StR.s)).2.2]) W)) := fun W hR hB =>
    Lib.hid (ccur_any g A n d acc rec l hin hacc W hR (hr.on hB) hA hn hs)
  have hgl := hrow.lt
  unfold cuLoad
  generalize cuCur rec n (l.map StR.s) = R at *
  obtain ⟨x, m, s⟩ := R
  simp only at HCU ⊢
  clear hr hA hs hacc hin
  by_cases h0 : m = 0
  · have q0 : (m == 0) = true := by simpa using h0
    rw [if_pos h0]
    clear h0
    go_enter Tryz.func22, Tryz.ntmps22
    go_wp2_with (with_reducible refine wpList_alloc_row (o := ⟨some 4, _, _, _, _, _⟩) rfl _ rfl zeroO zero_so ?_; intro w1 z1 s1 g1; have b1 : Below w.heap.size w w1 := grown_below g1 (Nat.le_refl _) (by simp); have r1 := hrow.on b1)
    refine ((HF _).out).mono ?_
    rintro e _ ⟨rfl, rfl⟩
    go_wp2_with fail
    refine ((HCU w1 r1 b1).out).mono ?_
    rintro e w2 ⟨rfl, r2, g2⟩
    have z2 := z1.kept g2 (by simp; omega)
    have hs2 := g2.size
    go_wp2_with ((with_reducible refine wpList_at ⟨none, .store _ (.tmp 4) _, _, _, _, _⟩ ?_); refine wpList_store_all rfl _ _ _ rfl w.heap.size rfl _ _ z2 ((⟨em, 0, 13⟩ : StO).cs) rfl (StO.cs_one _) rfl (by kernel_rfl) ?_; intro w3 z3 g3; have r3 := r2.kept g3 (by simp; omega))
    exact bodyPost_ret (results_cell1 Tryz.results22 _ _ _ _ rfl (load_so (a := ⟨em, 0, 13⟩) z3)) rfl ⟨rfl, r3, grown_new (grown_trans (below_grownBy b1 (some g)) g2) g3 (Nat.le_refl _)⟩
  · have q0 : (m == 0) = false := by simpa using h0
    rw [if_neg h0]
    clear h0
    go_enter Tryz.func22, Tryz.ntmps22
    go_wp2_with (with_reducible refine wpList_alloc_row (o := ⟨some 4, _, _, _, _, _⟩) rfl _ rfl zeroO zero_so ?_; intro w1 z1 s1 g1; have b1 : Below w.heap.size w w1 := grown_below g1 (Nat.le_refl _) (by simp); have r1 := hrow.on b1)
    refine ((HF _).out).mono ?_
    rintro e _ ⟨rfl, rfl⟩
    go_wp2_with fail
    refine ((HCU w1 r1 b1).out).mono ?_
    rintro e w2 ⟨rfl, r2, g2⟩
    have z2 := z1.kept g2 (by simp; omega)
    have hs2 := g2.size
    go_wp2_with ((with_reducible refine wpList_at ⟨none, .store _ (.tmp 4) _, _, _, _, _⟩ ?_); refine wpList_store_all rfl _ _ _ rfl w.heap.size rfl _ _ z2 ((⟨s, m, 0⟩ : StO).cs) rfl (StO.cs_one _) rfl (by kernel_rfl) ?_; intro w3 z3 g3; have r3 := r2.kept g3 (by simp; omega))
    exact bodyPost_ret (results_cell1 Tryz.results22 _ _ _ _ rfl (load_so (a := ⟨s, m, 0⟩) z3)) rfl ⟨rfl, r3, grown_new (grown_trans (below_grownBy b1 (some g)) g2) g3 (Nat.le_refl _)⟩
set_option maxRecDepth 100000 in
set_option maxHeartbeats 4000000 in
theorem cload_out (g : Nat) (rec : Int) (c : Cu) (hin : stIn rec = false) (w : World) (hrow : Row w g 68 c.cs) :
    Calls Tryz.prog 22 #[.pointer (some ⟨g, 0, none⟩), .int .i64 rec] w (GivesC g c (⟨em, 0, 1⟩ : StO).v w) := by
  have HF := fun W => Lib.hid (rfirst_any rec 0 W)
  rw [stFirst_no (.inl hin)] at HF
  have hgl := hrow.lt
  go_enter Tryz.func22, Tryz.ntmps22
  go_wp2_with (with_reducible refine wpList_alloc_row (o := ⟨some 4, _, _, _, _, _⟩) rfl _ rfl zeroO zero_so ?_; intro w1 z1 s1 g1; have b1 : Below w.heap.size w w1 := grown_below g1 (Nat.le_refl _) (by simp); have r1 := hrow.on b1)
  refine ((HF _).out).mono ?_
  rintro e _ ⟨rfl, rfl⟩
  go_wp2_with ((with_reducible refine wpList_at ⟨none, .store _ (.tmp 4) _, _, _, _, _⟩ ?_); refine wpList_store_all rfl _ _ _ rfl w.heap.size rfl _ _ z1 ((⟨em, 0, 1⟩ : StO).cs) rfl (StO.cs_one _) rfl (by kernel_rfl) ?_; intro w3 z3 g3; have r3 := r1.kept g3 (by simp; omega))
  exact bodyPost_ret (results_cell1 Tryz.results22 _ _ _ _ rfl (load_so (a := ⟨em, 0, 1⟩) z3)) rfl ⟨rfl, r3, grown_new (below_grownBy b1 (some g)) g3 (Nat.le_refl _)⟩
end Go.Proofs.YtfclifolniefpaaGreatDoor

/-
  What the reference's Get returns: a contract by a walk. Condition: bounded lengths.
-/
namespace Go.Proofs.YtfclifolniefpaaGreatDoor
open Go.RowKit

def zeroC : List Value := (⟨none, 0, 0, 0, noA, false⟩ : Cu).cs
theorem zero_cu : (Tryz.prog.info? 68).map (fun i => i.zero.map (·.cells)) = some (some zeroC.toArray) := by kernel_rfl
theorem cuLoad_all {rec : Int} {n : Nat} {ls : List ByteArray} (h : ¬ n < 16) : cuLoad rec n ls = stOut (stCur rec ls) := by
  unfold cuLoad cuCur stOut
  rw [if_neg h]
set_option maxRecDepth 100000 in
set_option maxHeartbeats 4000000 in
theorem rget_any (rec : Int) (A : Option Addr) (n d : Nat) (l : List StR) (w : World) (hr : Reads w w.heap.size 2 A n (rcs l)) (hn : n ≤ 1000) (hs : ∀ r ∈ l, r.s.size ≤ 400) :
    Calls Tryz.prog 8 #[.int .i64 rec, .slice A n d] w (GivesS (stGet rec (l.map StR.s)) w) := by
  have HML : Hid ((l.map StR.s).length = n) := Lib.hid (by rw [List.length_map, hr.len_of (by decide) StR.cs_len])
  cases hin : stIn rec with
  | false =>
    have HE := Lib.hid (stGet_out (l := l.map StR.s) hin)
    generalize stGet rec (l.map StR.s) = R at *
    have HLO := fun g W h => Lib.hid (cload_out g rec (⟨A, n, d, 0, noA, false⟩ : Cu) hin W h)
    clear hin
    go_enter Tryz.func8, Tryz.ntmps8
    go_wp2_with (first
      | (with_reducible refine wpList_alloc_row (o := ⟨some 4, _, _, _, _, _⟩) rfl _ rfl zeroA zero_ac ?_; intro w1 z4_1 s1 g1; have k1 : Below w.heap.size w w1 := grown_below g1 (Nat.le_refl _) (by simp); have B1 : Below w.heap.size w w1 := k1)
      | (with_reducible refine wpList_alloc_row (o := ⟨some 5, _, _, _, _, _⟩) rfl _ rfl zeroO zero_so ?_; intro w2 z5_2 s2 g2; have k2 : Below w1.heap.size w1 w2 := grown_below g2 (Nat.le_refl _) (by simp); have B2 := B1.trans (k2.mono B1.size); have z4_2 := z4_1.on k2; clear z4_1)
      | (with_reducible refine wpList_alloc_row (o := ⟨some 7, _, _, _, _, _⟩) rfl _ rfl zeroC zero_cu ?_; intro w3 r3 s3 g3)
      | ((with_reducible refine wpList_at ⟨none, .store _ (.tmp 7) _, _, _, _, _⟩ ?_); refine wpList_store_all rfl _ _ _ rfl w2.heap.size rfl _ _ r3 ((⟨A, n, d, 0, noA, false⟩ : Cu).cs) rfl ((⟨A, n, d, 0, noA, false⟩ : Cu).cs_one) rfl (by kernel_rfl) ?_; intro w4 cu_4 g4; have k4 : Below w2.heap.size w2 w4 := below_kept (grown_below g3 (Nat.le_refl _) (by simp)) g4 (Nat.le_of_lt s3) (by rintro q hq; cases hq; exact Nat.le_refl _); have B4 := B2.trans (k4.mono B2.size); have z4_4 := z4_2.on k4; have z5_4 := z5_2.on k4; clear z4_2 z5_2; clear r3 g3 g4; have s4 := cu_4.lt))
    have l5z4 := z4_4.lt
    have l5z5 := z5_4.lt
    have l5cu := cu_4.lt
    have lB5 := B4.size
    refine ((HLO _ _ cu_4).out).mono ?_
    rintro e w5 ⟨rfl, cu_5, g5⟩
    have z4_5 := z4_4.kept g5 (by simp; omega)
    have z5_5 := z5_4.kept g5 (by simp; omega)
    have B5 := below_kept B4 g5 B4.size (by rintro q hq; cases hq; omega)
    have sz5 := g5.size
    have c6 : w5.cell? ⟨w2.heap.size, 6, none⟩ = some (.bool false) := cu_5.cell (j := 6) rfl
    go_wp2_with (first
      | (with_reducible refine wpList_alloc_row (o := ⟨some 8, _, _, _, _, _⟩) rfl _ rfl zeroO zero_so ?_; intro w6 r6 s6 g6)
      | ((with_reducible refine wpList_at ⟨none, .store _ (.tmp 8) _, _, _, _, _⟩ ?_); refine wpList_store_all rfl _ _ _ rfl w5.heap.size rfl _ _ r6 ((⟨em, 0, 1⟩ : StO).cs) rfl ((⟨em, 0, 1⟩ : StO).cs_one) rfl (by kernel_rfl) ?_; intro w7 so_7 g7; have k7 : Below w5.heap.size w5 w7 := below_kept (grown_below g6 (Nat.le_refl _) (by simp)) g7 (Nat.le_of_lt s6) (by rintro q hq; cases hq; exact Nat.le_refl _); have B7 := B5.trans (k7.mono B5.size); have z4_7 := z4_5.on k7; have z5_7 := z5_5.on k7; have cu_7 := cu_5.on k7; clear z4_5 z5_5 cu_5; clear r6 g6 g7; have s7 := so_7.lt; have c6 := cu_7.cell (j := 6) rfl))
    try simp only [Act.put, List.setIfInBounds_toArray, List.set_cons_zero, List.set_cons_succ]
    have bq0 : Below w.heap.size w w7.drew := B7.drew
    have soq := so_7.drew
    have z4q := z4_7.drew
    have z5q := z5_7.drew
    refine wp_region_plan (fun w' => Row w' (w5.heap.size) 29 ((⟨em, 0, 1⟩ : StO)).cs) (.take 0 <| .take 1 <| .one 2 <| .one 3 <| .take 4 <| .done) (by kernel_rfl) (by kernel_rfl) (by kernel_rfl) (fun _ _ _ _ _ h => h) soq ?_
    repeat (refine plan_take _ rfl ?_; (first | ((with_reducible refine wpQuiet_at ⟨some 19, _, _, _, _, _⟩ ?_); refine wpQuiet_valueG rfl _ (by intro _ hS; exact exec_loadO _ _ rfl (w5.heap.size) rfl ((⟨em, 0, 1⟩ : StO)) hS) (wpQuiet_nil ?_); simp only [Act.put, List.setIfInBounds_toArray, List.set_cons_zero, List.set_cons_succ]) | (go_big_quiet_step ((intros; rfl)); refine wpQuiet_nil ?_)))
    refine plan_one _ rfl fun K hK => ?_
    refine step_store_all rfl _ _ _ rfl (w.heap.size) rfl _ _ z4q ((noA).cs) rfl ((noA).cs_one) rfl (by kernel_rfl) ?_
    intro wu1 z4u1 gu1
    have bu1 := below_kept bq0 gu1 bq0.size (by rintro q hq; cases hq; omega)
    have sou1 := soq.kept gu1 (by simp; omega)
    have z5u1 := z5q.kept gu1 (by simp; omega)
    refine hK _ _ sou1 ?_
    clear hK K
    simp only [Act.put, List.setIfInBounds_toArray, List.set_cons_zero, List.set_cons_succ]
    refine plan_one _ rfl fun K hK => ?_
    refine step_store_all rfl _ _ _ rfl (w1.heap.size) rfl _ _ z5u1 (((⟨em, 0, 1⟩ : StO)).cs) rfl (((⟨em, 0, 1⟩ : StO)).cs_one) rfl (by kernel_rfl) ?_
    intro wu2 z5u2 gu2
    have bu2 := below_kept bu1 gu2 bu1.size (by rintro q hq; cases hq; omega)
    have sou2 := sou1.kept gu2 (by simp; omega)
    have z4u2 := z4u1.kept gu2 (by simp; omega)
    refine hK _ _ sou2 ?_
    clear hK K
    simp only [Act.put, List.setIfInBounds_toArray, List.set_cons_zero, List.set_cons_succ]
    repeat (refine plan_take _ rfl ?_; (first | ((with_reducible refine wpQuiet_at ⟨some 19, _, _, _, _, _⟩ ?_); refine wpQuiet_valueG rfl _ (by intro _ hS; exact exec_loadO _ _ rfl (w5.heap.size) rfl ((⟨em, 0, 1⟩ : StO)) hS) (wpQuiet_nil ?_); simp only [Act.put, List.setIfInBounds_toArray, List.set_cons_zero, List.set_cons_succ]) | (go_big_quiet_step ((intros; rfl)); refine wpQuiet_nil ?_)))
    refine plan_done ?_
    go_wp2_with fail
    exact bodyPost_ret (results_cells2 Tryz.results8 _ _ _ _ _ _ rfl rfl (load_ac z4u2) (load_so z5u2)) rfl ⟨by first | (rw [HE.out]; done) | (rw [HE.out]; rfl), bu2⟩
  | true =>
    have HLI := fun g (W : World) (h : Row W g 68 (cuS A n d (stRead rec) 0).cs) (hB : Below w.heap.size w W) (hg : w.heap.size ≤ g) => Lib.hid (cload_in g A n d (stRead rec) rec l hin (fun _ _ => rfl) W h (hr.on hB) (fun h0 ad e => by obtain ⟨ad', e', hb, _⟩ := hr.2 h0; rw [e'] at e; cases e; omega) hn hs)
    have h0 : cuS A n d (stRead rec) 0 = ⟨A, n, d, 0, noA, false⟩ := by unfold cuS; rw [if_pos (Nat.zero_le _)]
    rw [h0] at HLI
    by_cases h16 : n < 16
    · have HE := Lib.hid (stGet_in (l := l.map StR.s) hin (by rw [HML.out]; exact h16))
      rw [HML.out] at HE
      rw [cuS_few h16] at HLI
      generalize stGet rec (l.map StR.s) = R at *
      generalize cuLoad rec n (l.map StR.s) = Lo at *
      clear hin h0 hr hs
      go_enter Tryz.func8, Tryz.ntmps8
      go_wp2_with (first
        | (with_reducible refine wpList_alloc_row (o := ⟨some 4, _, _, _, _, _⟩) rfl _ rfl zeroA zero_ac ?_; intro w8 z4_8 s8 g8; have k8 : Below w.heap.size w w8 := grown_below g8 (Nat.le_refl _) (by simp); have B8 : Below w.heap.size w w8 := k8)
        | (with_reducible refine wpList_alloc_row (o := ⟨some 5, _, _, _, _, _⟩) rfl _ rfl zeroO zero_so ?_; intro w9 z5_9 s9 g9; have k9 : Below w8.heap.size w8 w9 := grown_below g9 (Nat.le_refl _) (by simp); have B9 := B8.trans (k9.mono B8.size); have z4_9 := z4_8.on k9; clear z4_8)
        | (with_reducible refine wpList_alloc_row (o := ⟨some 7, _, _, _, _, _⟩) rfl _ rfl zeroC zero_cu ?_; intro w10 r10 s10 g10)
        | ((with_reducible refine wpList_at ⟨none, .store _ (.tmp 7) _, _, _, _, _⟩ ?_); refine wpList_store_all rfl _ _ _ rfl w9.heap.size rfl _ _ r10 ((⟨A, n, d, 0, noA, false⟩ : Cu).cs) rfl ((⟨A, n, d, 0, noA, false⟩ : Cu).cs_one) rfl (by kernel_rfl) ?_; intro w11 cu_11 g11; have k11 : Below w9.heap.size w9 w11 := below_kept (grown_below g10 (Nat.le_refl _) (by simp)) g11 (Nat.le_of_lt s10) (by rintro q hq; cases hq; exact Nat.le_refl _); have B11 := B9.trans (k11.mono B9.size); have z4_11 := z4_9.on k11; have z5_11 := z5_9.on k11; clear z4_9 z5_9; clear r10 g10 g11; have s11 := cu_11.lt))
      have l12z4 := z4_11.lt
      have l12z5 := z5_11.lt
      have l12cu := cu_11.lt
      have lB12 := B11.size
      refine ((HLI _ _ cu_11 B11 (by have := B11.size; omega)).out).mono ?_
      rintro e w12 ⟨rfl, cu_12, g12⟩
      have z4_12 := z4_11.kept g12 (by simp; omega)
      have z5_12 := z5_11.kept g12 (by simp; omega)
      have B12 := below_kept B11 g12 B11.size (by rintro q hq; cases hq; omega)
      have sz12 := g12.size
      have c6 : w12.cell? ⟨w9.heap.size, 6, none⟩ = some (.bool true) := cu_12.cell (j := 6) rfl
      go_wp2_with (first
        | (with_reducible refine wpList_alloc_row (o := ⟨some 8, _, _, _, _, _⟩) rfl _ rfl zeroO zero_so ?_; intro w13 r13 s13 g13)
        | ((with_reducible refine wpList_at ⟨none, .store _ (.tmp 8) _, _, _, _, _⟩ ?_); refine wpList_store_all rfl _ _ _ rfl w12.heap.size rfl _ _ r13 (Lo.cs) rfl (Lo.cs_one) rfl (by kernel_rfl) ?_; intro w14 so_14 g14; have k14 : Below w12.heap.size w12 w14 := below_kept (grown_below g13 (Nat.le_refl _) (by simp)) g14 (Nat.le_of_lt s13) (by rintro q hq; cases hq; exact Nat.le_refl _); have B14 := B12.trans (k14.mono B12.size); have z4_14 := z4_12.on k14; have z5_14 := z5_12.on k14; have cu_14 := cu_12.on k14; clear z4_12 z5_12 cu_12; clear r13 g13 g14; have s14 := so_14.lt; have c6 := cu_14.cell (j := 6) rfl)
        | ((with_reducible refine wpList_at ⟨some 16, _, _, _, _, _⟩ ?_); refine wpList_valueG rfl _ (by exact exec_load _ 26 _ rfl ⟨w9.heap.size, 2, none⟩ rfl (stRead rec n).cs (Row.part10 cu_14 (pre := [_, _]) rfl rfl) _ Tryz.underlying26 rfl (by kernel_rfl)) ?_)
        | ((with_reducible refine wpList_at ⟨none, .store _ (.tmp 4) _, _, _, _, _⟩ ?_); refine wpList_store_all rfl _ _ _ rfl (w.heap.size) rfl _ _ z4_14 ((stRead rec n).cs) rfl ((stRead rec n).cs_one) rfl (by kernel_rfl) ?_; intro w15 z4_15 g15; have z5_15 := z5_14.kept g15 (by simp; omega); have cu_15 := cu_14.kept g15 (by simp; omega); have so_15 := so_14.kept g15 (by simp; omega); have B15 := below_kept B14 g15 B14.size (by rintro q hq; cases hq; omega); have sz15 := g15.size; clear z5_14 cu_14 so_14)
        | ((with_reducible refine wpList_at ⟨none, .store _ (.tmp 5) _, _, _, _, _⟩ ?_); refine wpList_store_all rfl _ _ _ rfl (w8.heap.size) rfl _ _ z5_15 (noO.cs) rfl (noO.cs_one) rfl (by kernel_rfl) ?_; intro w16 z5_16 g16; have z4_16 := z4_15.kept g16 (by simp; omega); have cu_16 := cu_15.kept g16 (by simp; omega); have so_16 := so_15.kept g16 (by simp; omega); have B16 := below_kept B15 g16 B15.size (by rintro q hq; cases hq; omega); have sz16 := g16.size; clear z4_15 cu_15 so_15))
      exact bodyPost_ret (results_cells2 Tryz.results8 _ _ _ _ _ _ rfl rfl (load_ac z4_16) (load_so z5_16)) rfl ⟨by first | (rw [HE.out]; done) | (rw [HE.out]; rfl), B16⟩
    have HE := Lib.hid (stGet_all (l := l.map StR.s) hin (by rw [HML.out]; exact h16))
    rw [cuS_16 h16, cuLoad_all h16] at HLI
    generalize stGet rec (l.map StR.s) = R at *
    generalize stOut (stCur rec (l.map StR.s)) = Lo at *
    clear hin h0 hr hs
    go_enter Tryz.func8, Tryz.ntmps8
    go_wp2_with (first
      | (with_reducible refine wpList_alloc_row (o := ⟨some 4, _, _, _, _, _⟩) rfl _ rfl zeroA zero_ac ?_; intro w17 z4_17 s17 g17; have k17 : Below w.heap.size w w17 := grown_below g17 (Nat.le_refl _) (by simp); have B17 : Below w.heap.size w w17 := k17)
      | (with_reducible refine wpList_alloc_row (o := ⟨some 5, _, _, _, _, _⟩) rfl _ rfl zeroO zero_so ?_; intro w18 z5_18 s18 g18; have k18 : Below w17.heap.size w17 w18 := grown_below g18 (Nat.le_refl _) (by simp); have B18 := B17.trans (k18.mono B17.size); have z4_18 := z4_17.on k18; clear z4_17)
      | (with_reducible refine wpList_alloc_row (o := ⟨some 7, _, _, _, _, _⟩) rfl _ rfl zeroC zero_cu ?_; intro w19 r19 s19 g19)
      | ((with_reducible refine wpList_at ⟨none, .store _ (.tmp 7) _, _, _, _, _⟩ ?_); refine wpList_store_all rfl _ _ _ rfl w18.heap.size rfl _ _ r19 ((⟨A, n, d, 0, noA, false⟩ : Cu).cs) rfl ((⟨A, n, d, 0, noA, false⟩ : Cu).cs_one) rfl (by kernel_rfl) ?_; intro w20 cu_20 g20; have k20 : Below w18.heap.size w18 w20 := below_kept (grown_below g19 (Nat.le_refl _) (by simp)) g20 (Nat.le_of_lt s19) (by rintro q hq; cases hq; exact Nat.le_refl _); have B20 := B18.trans (k20.mono B18.size); have z4_20 := z4_18.on k20; have z5_20 := z5_18.on k20; clear z4_18 z5_18; clear r19 g19 g20; have s20 := cu_20.lt))
    have l21z4 := z4_20.lt
    have l21z5 := z5_20.lt
    have l21cu := cu_20.lt
    have lB21 := B20.size
    refine ((HLI _ _ cu_20 B20 (by have := B20.size; omega)).out).mono ?_
    rintro e w21 ⟨rfl, cu_21, g21⟩
    have z4_21 := z4_20.kept g21 (by simp; omega)
    have z5_21 := z5_20.kept g21 (by simp; omega)
    have B21 := below_kept B20 g21 B20.size (by rintro q hq; cases hq; omega)
    have sz21 := g21.size
    have c6 : w21.cell? ⟨w18.heap.size, 6, none⟩ = some (.bool false) := cu_21.cell (j := 6) rfl
    go_wp2_with (first
      | (with_reducible refine wpList_alloc_row (o := ⟨some 8, _, _, _, _, _⟩) rfl _ rfl zeroO zero_so ?_; intro w22 r22 s22 g22)
      | ((with_reducible refine wpList_at ⟨none, .store _ (.tmp 8) _, _, _, _, _⟩ ?_); refine wpList_store_all rfl _ _ _ rfl w21.heap.size rfl _ _ r22 (Lo.cs) rfl (Lo.cs_one) rfl (by kernel_rfl) ?_; intro w23 so_23 g23; have k23 : Below w21.heap.size w21 w23 := below_kept (grown_below g22 (Nat.le_refl _) (by simp)) g23 (Nat.le_of_lt s22) (by rintro q hq; cases hq; exact Nat.le_refl _); have B23 := B21.trans (k23.mono B21.size); have z4_23 := z4_21.on k23; have z5_23 := z5_21.on k23; have cu_23 := cu_21.on k23; clear z4_21 z5_21 cu_21; clear r22 g22 g23; have s23 := so_23.lt; have c6 := cu_23.cell (j := 6) rfl))
    try simp only [Act.put, List.setIfInBounds_toArray, List.set_cons_zero, List.set_cons_succ]
    have bq0 : Below w.heap.size w w23.drew := B23.drew
    have soq := so_23.drew
    have z4q := z4_23.drew
    have z5q := z5_23.drew
    refine wp_region_plan (fun w' => Row w' (w21.heap.size) 29 (Lo).cs) (.take 0 <| .take 1 <| .one 2 <| .one 3 <| .take 4 <| .done) (by kernel_rfl) (by kernel_rfl) (by kernel_rfl) (fun _ _ _ _ _ h => h) soq ?_
    repeat (refine plan_take _ rfl ?_; (first | ((with_reducible refine wpQuiet_at ⟨some 19, _, _, _, _, _⟩ ?_); refine wpQuiet_valueG rfl _ (by intro _ hS; exact exec_loadO _ _ rfl (w21.heap.size) rfl (Lo) hS) (wpQuiet_nil ?_); simp only [Act.put, List.setIfInBounds_toArray, List.set_cons_zero, List.set_cons_succ]) | (go_big_quiet_step ((intros; rfl)); refine wpQuiet_nil ?_)))
    refine plan_one _ rfl fun K hK => ?_
    refine step_store_all rfl _ _ _ rfl (w.heap.size) rfl _ _ z4q ((noA).cs) rfl ((noA).cs_one) rfl (by kernel_rfl) ?_
    intro wu3 z4u3 gu3
    have bu3 := below_kept bq0 gu3 bq0.size (by rintro q hq; cases hq; omega)
    have sou3 := soq.kept gu3 (by simp; omega)
    have z5u3 := z5q.kept gu3 (by simp; omega)
    refine hK _ _ sou3 ?_
    clear hK K
    simp only [Act.put, List.setIfInBounds_toArray, List.set_cons_zero, List.set_cons_succ]
    refine plan_one _ rfl fun K hK => ?_
    refine step_store_all rfl _ _ _ rfl (w17.heap.size) rfl _ _ z5u3 ((Lo).cs) rfl ((Lo).cs_one) rfl (by kernel_rfl) ?_
    intro wu4 z5u4 gu4
    have bu4 := below_kept bu3 gu4 bu3.size (by rintro q hq; cases hq; omega)
    have sou4 := sou3.kept gu4 (by simp; omega)
    have z4u4 := z4u3.kept gu4 (by simp; omega)
    refine hK _ _ sou4 ?_
    clear hK K
    simp only [Act.put, List.setIfInBounds_toArray, List.set_cons_zero, List.set_cons_succ]
    repeat (refine plan_take _ rfl ?_; (first | ((with_reducible refine wpQuiet_at ⟨some 19, _, _, _, _, _⟩ ?_); refine wpQuiet_valueG rfl _ (by intro _ hS; exact exec_loadO _ _ rfl (w21.heap.size) rfl (Lo) hS) (wpQuiet_nil ?_); simp only [Act.put, List.setIfInBounds_toArray, List.set_cons_zero, List.set_cons_succ]) | (go_big_quiet_step ((intros; rfl)); refine wpQuiet_nil ?_)))
    refine plan_done ?_
    go_wp2_with fail
    exact bodyPost_ret (results_cells2 Tryz.results8 _ _ _ _ _ _ rfl rfl (load_ac z4u4) (load_so z5u4)) rfl ⟨by first | (rw [HE.out]; done) | (rw [HE.out]; rfl), bu4⟩
end Go.Proofs.YtfclifolniefpaaGreatDoor
