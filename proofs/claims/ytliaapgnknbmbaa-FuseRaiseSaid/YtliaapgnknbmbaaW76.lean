/-
  FuseRaise's walk. No condition but bounded lengths.
-/
import Derived.Test.YtliaapgnknbmbaaW72
import Derived.Test.YtliaapgnknbmbaaW73
import Derived.Test.YtliaapgnknbmbaaW74
import Derived.Test.YtliaapgnknbmbaaFuRD
namespace Go.Proofs.Ytliaapgnknbmbaa
open Go.RowKit

theorem hvs_snoc (hs : List FHit) (x : FHit) : hvs (hs ++ [x]) = hvs hs ++ hv x := by
  rw [hvs_app]
  show hvs hs ++ (hv x ++ []) = _
  rw [List.append_nil]
theorem own_hit (w : World) (base : Nat) (x : FHit) (hb : base ≤ w.heap.size) : (w.alloc (.cells (hv x).toArray 47)).ownsRow base 47 3 (.slice (some ⟨w.heap.size, 0, none⟩) 1 1) 1 (hv x) :=
  ⟨rfl, .inr ⟨w.heap.size, 1, (hv x).toArray, rfl, hb, Go.heap_alloc_new w _, Nat.le_refl _, by unfold maxLen; omega, rfl, rfl⟩⟩

set_option maxRecDepth 100000 in
set_option maxHeartbeats 8000000 in
theorem walk76 (A : Option Addr) (n c : Nat) (ps : List Part) (b : Int) (nn : Nat) (hnn : nn ≤ 255) (x : Int) (L : Option Addr) (m d : Nat) (ho : List FHit) (w : World) (hok : FuOK w A n c ps) (hh : Reads w w.heap.size 3 L m (hvs ho)) :
    Calls Try.prog 8 #[fuv A n c, .int .i64 b, .int .u8 (nn : Int), .int .u64 x, .slice L m d] w (TellsB true w) := by
  have HSA := fun W => sanity7_any W
  obtain ⟨i0, hi0, hz0, hz1, hz2⟩ := info_parts info_hit
  have HV := fun W (h : FuOK W A n c ps) => Lib.hid (rvalid_any A n c ps W h.1)
  unfold fuv at *
  cases hv : fuValid (bk ps) with
  | false =>
    rw [hv] at HV
    clear hv
    go_enter Try.func8, Try.ntmps8
    go_wp2_with (with_reducible refine wpList_box_row (o := ⟨some 5, _, _, _, _, _⟩) rfl _ _ rfl ([.slice A n c]) rfl ?_; intro w1 bx_1 s1 g1; have k1 : Below w.heap.size w w1 := grown_below g1 (Nat.le_refl _) (by simp); have B1 : Below w.heap.size w w1 := k1; have ok_1 := hok.on k1; have rh_1 := hh.on k1; have cbx := bx_1.cell (j := 0) rfl)
    refine ((HV _ ok_1).out).mono ?_
    rintro e w2 ⟨rfl, h2⟩
    have B2 := B1.trans (h2.mono B1.size)
    have ok_2 := ok_1.on h2
    have rh_2 := rh_1.on h2
    have bx_2 := bx_1.on h2
    clear ok_1 rh_1 bx_1
    have cbx := bx_2.cell (j := 0) rfl
    go_wp2_with fail
    refine (HSA _).mono ?_
    rintro e w3 ⟨rfl, h3⟩
    have B3 := B2.trans (h3.mono B2.size)
    have ok_3 := ok_2.on h3
    have rh_3 := rh_2.on h3
    have bx_3 := bx_2.on h3
    clear ok_2 rh_2 bx_2
    have cbx := bx_3.cell (j := 0) rfl
    go_wp2_with fail
    go_ret
    exact ⟨rfl, B3⟩
  | true =>
   rw [hv] at HV
   have hn4 := valid_n hok hv
   have HBT := Lib.hid (valid_bits hv)
   have HS := fun W (h : FuOK W A n c ps) => Lib.hid (rsound_any A n c ps W h.1 (by omega) HBT.out)
   unfold fuv at *
   cases hs : fuSound (bk ps) with
   | false =>
    rw [hs] at HS
    clear hv hs
    go_enter Try.func8, Try.ntmps8
    go_wp2_with (with_reducible refine wpList_box_row (o := ⟨some 5, _, _, _, _, _⟩) rfl _ _ rfl ([.slice A n c]) rfl ?_; intro w1 bx_1 s1 g1; have k1 : Below w.heap.size w w1 := grown_below g1 (Nat.le_refl _) (by simp); have B1 : Below w.heap.size w w1 := k1; have ok_1 := hok.on k1; have rh_1 := hh.on k1; have cbx := bx_1.cell (j := 0) rfl)
    refine ((HV _ ok_1).out).mono ?_
    rintro e w2 ⟨rfl, h2⟩
    have B2 := B1.trans (h2.mono B1.size)
    have ok_2 := ok_1.on h2
    have rh_2 := rh_1.on h2
    have bx_2 := bx_1.on h2
    clear ok_1 rh_1 bx_1
    have cbx := bx_2.cell (j := 0) rfl
    go_wp2_with fail
    refine ((HS _ ok_2).out).mono ?_
    rintro e w3 ⟨rfl, h3⟩
    have B3 := B2.trans (h3.mono B2.size)
    have ok_3 := ok_2.on h3
    have rh_3 := rh_2.on h3
    have bx_3 := bx_2.on h3
    clear ok_2 rh_2 bx_2
    have cbx := bx_3.cell (j := 0) rfl
    go_wp2_with fail
    refine (HSA _).mono ?_
    rintro e w4 ⟨rfl, h4⟩
    have B4 := B3.trans (h4.mono B3.size)
    have ok_4 := ok_3.on h4
    have rh_4 := rh_3.on h4
    have bx_4 := bx_3.on h4
    clear ok_3 rh_3 bx_3
    have cbx := bx_4.cell (j := 0) rfl
    go_wp2_with fail
    go_ret
    exact ⟨rfl, B4⟩
   | true =>
    rw [hs] at HS
    by_cases hb0 : b < 0
    · go_enter Try.func8, Try.ntmps8
      go_wp2_with (with_reducible refine wpList_box_row (o := ⟨some 5, _, _, _, _, _⟩) rfl _ _ rfl ([.slice A n c]) rfl ?_; intro w1 bx_1 s1 g1; have k1 : Below w.heap.size w w1 := grown_below g1 (Nat.le_refl _) (by simp); have B1 : Below w.heap.size w w1 := k1; have ok_1 := hok.on k1; have rh_1 := hh.on k1; have cbx := bx_1.cell (j := 0) rfl)
      refine ((HV _ ok_1).out).mono ?_
      rintro e w2 ⟨rfl, h2⟩
      have B2 := B1.trans (h2.mono B1.size)
      have ok_2 := ok_1.on h2
      have rh_2 := rh_1.on h2
      have bx_2 := bx_1.on h2
      clear ok_1 rh_1 bx_1
      have cbx := bx_2.cell (j := 0) rfl
      go_wp2_with fail
      refine ((HS _ ok_2).out).mono ?_
      rintro e w3 ⟨rfl, h3⟩
      have B3 := B2.trans (h3.mono B2.size)
      have ok_3 := ok_2.on h3
      have rh_3 := rh_2.on h3
      have bx_3 := bx_2.on h3
      clear ok_2 rh_2 bx_2
      have cbx := bx_3.cell (j := 0) rfl
      go_wp2_with fail
      refine (HSA _).mono ?_
      rintro e w4 ⟨rfl, h4⟩
      have B4 := B3.trans (h4.mono B3.size)
      have ok_4 := ok_3.on h4
      have rh_4 := rh_3.on h4
      have bx_4 := bx_3.on h4
      clear ok_3 rh_3 bx_3
      have cbx := bx_4.cell (j := 0) rfl
      go_wp2_with fail
      go_ret
      exact ⟨rfl, B4⟩
    obtain ⟨k, rfl⟩ : ∃ k : Nat, b = (k : Int) := ⟨b.toNat, by omega⟩
    by_cases hkn : k < n
    rotate_left
    · go_enter Try.func8, Try.ntmps8
      go_wp2_with (with_reducible refine wpList_box_row (o := ⟨some 5, _, _, _, _, _⟩) rfl _ _ rfl ([.slice A n c]) rfl ?_; intro w1 bx_1 s1 g1; have k1 : Below w.heap.size w w1 := grown_below g1 (Nat.le_refl _) (by simp); have B1 : Below w.heap.size w w1 := k1; have ok_1 := hok.on k1; have rh_1 := hh.on k1; have cbx := bx_1.cell (j := 0) rfl)
      refine ((HV _ ok_1).out).mono ?_
      rintro e w2 ⟨rfl, h2⟩
      have B2 := B1.trans (h2.mono B1.size)
      have ok_2 := ok_1.on h2
      have rh_2 := rh_1.on h2
      have bx_2 := bx_1.on h2
      clear ok_1 rh_1 bx_1
      have cbx := bx_2.cell (j := 0) rfl
      go_wp2_with fail
      refine ((HS _ ok_2).out).mono ?_
      rintro e w3 ⟨rfl, h3⟩
      have B3 := B2.trans (h3.mono B2.size)
      have ok_3 := ok_2.on h3
      have rh_3 := rh_2.on h3
      have bx_3 := bx_2.on h3
      clear ok_2 rh_2 bx_2
      have cbx := bx_3.cell (j := 0) rfl
      go_wp2_with fail
      refine (HSA _).mono ?_
      rintro e w4 ⟨rfl, h4⟩
      have B4 := B3.trans (h4.mono B3.size)
      have ok_4 := ok_3.on h4
      have rh_4 := rh_3.on h4
      have bx_4 := bx_3.on h4
      clear ok_3 rh_3 bx_3
      have cbx := bx_4.cell (j := 0) rfl
      go_wp2_with fail
      go_ret
      exact ⟨rfl, B4⟩
    by_cases hm1 : 100 < m
    · go_enter Try.func8, Try.ntmps8
      go_wp2_with (with_reducible refine wpList_box_row (o := ⟨some 5, _, _, _, _, _⟩) rfl _ _ rfl ([.slice A n c]) rfl ?_; intro w1 bx_1 s1 g1; have k1 : Below w.heap.size w w1 := grown_below g1 (Nat.le_refl _) (by simp); have B1 : Below w.heap.size w w1 := k1; have ok_1 := hok.on k1; have rh_1 := hh.on k1; have cbx := bx_1.cell (j := 0) rfl)
      refine ((HV _ ok_1).out).mono ?_
      rintro e w2 ⟨rfl, h2⟩
      have B2 := B1.trans (h2.mono B1.size)
      have ok_2 := ok_1.on h2
      have rh_2 := rh_1.on h2
      have bx_2 := bx_1.on h2
      clear ok_1 rh_1 bx_1
      have cbx := bx_2.cell (j := 0) rfl
      go_wp2_with fail
      refine ((HS _ ok_2).out).mono ?_
      rintro e w3 ⟨rfl, h3⟩
      have B3 := B2.trans (h3.mono B2.size)
      have ok_3 := ok_2.on h3
      have rh_3 := rh_2.on h3
      have bx_3 := bx_2.on h3
      clear ok_2 rh_2 bx_2
      have cbx := bx_3.cell (j := 0) rfl
      go_wp2_with fail
      refine (HSA _).mono ?_
      rintro e w4 ⟨rfl, h4⟩
      have B4 := B3.trans (h4.mono B3.size)
      have ok_4 := ok_3.on h4
      have rh_4 := rh_3.on h4
      have bx_4 := bx_3.on h4
      clear ok_3 rh_3 bx_3
      have cbx := bx_4.cell (j := 0) rfl
      go_wp2_with fail
      go_ret
      exact ⟨rfl, B4⟩
    obtain ⟨ad, p, rfl, hlt, hpk, hc, hp, _⟩ := hok.1.at_ hkn
    have hvb := valid_bank hv (bk_get hpk)
    have HLN := Lib.hid hok.1.len
    have HLL := Lib.hid (valid_l hv)
    have HPK := Lib.hid (bk_get hpk)
    have HPL := Lib.hid hp.bytes_len
    have HVB := Lib.hid hvb
    have HSD := Lib.hid hs
    have HVL := Lib.hid hv
    have HC := Lib.hid hc
    have hp48 := hvb.2.1
    rw [HPL.out] at hp48
    obtain ⟨M, hM⟩ : ∃ M, p.n = 3 * M := ⟨p.n / 3, by have := hvb.1; rw [HPL.out] at this; omega⟩
    clear hv hs hpk hp hvb hc
    have HH1 := fun W (h : FuOK W (some ad) n c ps) (g : Reads W W.heap.size 3 L m (hvs ho)) => Lib.hid (fhits_any (some ad) n c ps L m d ho W h (by omega) HLL.out g (by omega))
    have HH2 := fun W A' n' c' ps' Lh (mh dh : Nat) (h : FuOK W A' n' c' ps') (hb : bk ps' = fuHits (bk ps) ho) => fun {hs : List FHit} (g : Reads W W.heap.size 3 Lh mh (hvs hs)) (hmh : mh ≤ 1000) => Lib.hid (show Calls Try.prog 28 #[.agg #[.slice A' n' c'], .slice Lh mh dh] W (GivesF (fuHits (fuHits (bk ps) ho) hs) W) by
      have h0 := fhits_any A' n' c' ps' Lh mh dh hs W h (fuok_n h hb (by rw [← (hits_rel (bk ps) ho).1, bk_len, HLN.out]; omega)) (by rw [hb]; exact valid_l (by rw [hits_valid]; exact HVL.out)) g (by omega)
      rw [hb] at h0
      exact h0)
    have HH3 := fun W A' n' c' ps' {hs : List FHit} (h : FuOK W A' n' c' ps') (hb : bk ps' = fuHits (fuHits (bk ps) ho) hs) (g : Reads W W.heap.size 3 L m (hvs ho)) => Lib.hid (show Calls Try.prog 28 #[.agg #[.slice A' n' c'], .slice L m d] W (GivesF (fuHits (fuHits (fuHits (bk ps) ho) hs) ho) W) by
      have h0 := fhits_any A' n' c' ps' L m d ho W h (fuok_n h hb (by rw [← (hits_rel _ hs).1, ← (hits_rel (bk ps) ho).1, bk_len, HLN.out]; omega)) (by rw [hb]; exact valid_l (by rw [hits_valid, hits_valid]; exact HVL.out)) g (by omega)
      rw [hb] at h0
      exact h0)
    by_cases hle : nn ≤ M
    · go_enter Try.func8, Try.ntmps8
      go_wp2_with (with_reducible refine wpList_box_row (o := ⟨some 5, _, _, _, _, _⟩) rfl _ _ rfl ([.slice (some ad) n c]) rfl ?_; intro w1 bx_1 s1 g1; have k1 : Below w.heap.size w w1 := grown_below g1 (Nat.le_refl _) (by simp); have B1 : Below w.heap.size w w1 := k1; have ok_1 := hok.on k1; have rh_1 := hh.on k1; have cbx := bx_1.cell (j := 0) rfl)
      refine ((HV _ ok_1).out).mono ?_
      rintro e w2 ⟨rfl, h2⟩
      have B2 := B1.trans (h2.mono B1.size)
      have ok_2 := ok_1.on h2
      have rh_2 := rh_1.on h2
      have bx_2 := bx_1.on h2
      clear ok_1 rh_1 bx_1
      have cbx := bx_2.cell (j := 0) rfl
      go_wp2_with fail
      refine ((HS _ ok_2).out).mono ?_
      rintro e w3 ⟨rfl, h3⟩
      have B3 := B2.trans (h3.mono B2.size)
      have ok_3 := ok_2.on h3
      have rh_3 := rh_2.on h3
      have bx_3 := bx_2.on h3
      clear ok_2 rh_2 bx_2
      have cbx := bx_3.cell (j := 0) rfl
      have hk3 := (B3.cell (by rw [block_of_add]; exact hlt)).trans HC.out
      go_wp2_with fail
      have HRL : Hid (∀ hs : List FHit, (∀ i, i < nn * 3 → (⟨(k : Int), (i : Int), false⟩ : FHit) ∈ hs) → (nn : Int) ≤ fuLevel (fuHits (fuHits (fuHits (bk ps) ho) hs) ho) (k : Int) false) := Lib.hid fun hs hm => by
        obtain ⟨l', h1, h2, _⟩ := ((hits_rel (bk ps) ho).trans Hit1.trans ((hits_rel _ hs).trans Hit1.trans (hits_rel _ ho))).bank HPK.out
        refine raise_level h1 (by rw [hits_sound, hits_sound, hits_sound]; exact HSD.out) nn (by rw [← h2, HPL.out]; omega) fun i hi => ?_
        have hil : i < p.l.length := by rw [HPL.out]; omega
        refine hits_done2 (bk ps) ho hs (k : Int) (i : Int) (by rw [fuEx_nat HPK.out]; exact decide_eq_true hil) ?_ (hm i (by omega))
        rw [fuAt_nat HPK.out (List.getElem?_eq_getElem hil)]
        exact HVB.out.2.2 _ (List.getElem_mem _)
      have hnk : decide (n ≤ k) = false := decide_eq_false (by omega)
      simp only [hnk, Bool.or_false]
      go_loopg [12, 53] (nn * 3) (fun g s12 s53 wr => ∃ (j : Nat) (v : Value) (hs : List FHit), Hid (j + g = nn * 3) ∧ j ≤ nn * 3 ∧ s53 = .int .i64 (j : Int) ∧ s12 = v ∧ wr.ownsRow w3.heap.size 47 3 v j (hvs hs) ∧ Hid (∀ i, i < j → (⟨(k : Int), (i : Int), false⟩ : FHit) ∈ hs) ∧ Below w3.heap.size w3 wr)
      case atStart => exact ⟨0, _, [], by show _ = _; omega, by omega, rfl, rfl, World.ownsRow_nil _ _ _ _, Lib.hid (fun i hi => by omega), Below.refl _ _⟩
      case round =>
       obtain ⟨j, v, hs, HJ, hj, rfl, rfl, ev, HM, hB⟩ := hrel
       obtain ⟨Av, cv, rfl, hcv, _, _⟩ := own_form ev
       by_cases hlj : j < nn * 3
       · have hszb := hB.size
         cases hz : nz x j with
         | true =>
          have hbit : (bits BinOp.and IntKind.u64 (x / 2 ^ j) 1 == 1) = true := hz
          clear hz cbx hk3
          go_wp2_with (first
            | (with_reducible refine wpList_alloc_row (o := ⟨some 14, _, _, _, _, _⟩) rfl _ rfl [.int .i64 0, .int .i64 0, .bool false] zero_hit ?_; intro w4 r4 s4 g4)
            | ((with_reducible refine wpList_at ⟨none, .store _ (.tmp 14) _, _, _, _, _⟩ ?_); refine wpList_store_all rfl _ _ _ rfl wr.heap.size rfl _ _ r4 (hv (⟨(k : Int), (j : Int), false⟩ : FHit)) rfl (hv_one _) rfl size_hit ?_; intro w5 r5 g5; have b5 := below_kept (grown_below g4 (Nat.le_refl _) (by simp)) g5 (Nat.le_of_lt s4) (by rintro z hz; cases hz; exact Nat.le_refl _); have ev5 := own_below ev b5; have ba : Below w5.heap.size w5 (w5.alloc (.cells (hv (⟨(k : Int), (j : Int), false⟩ : FHit)).toArray 47)) := (Below.refl _ _).alloc (Nat.le_refl _) _; have ev6 := own_below ev5 ba; have h56 := b5.size; have h57 := ba.size; clear r4 g4 g5)
            | (refine wpList_valueW (o := ⟨some 65, _, _, _, _, _⟩) rfl _ (by exact exec_load _ 47 _ rfl ⟨wr.heap.size, 0, none⟩ rfl (hv (⟨(k : Int), (j : Int), false⟩ : FHit)) r5.cells _ Try.underlying47 rfl size_hit) ?_)
            | (refine wpList_valueW (o := ⟨some 66, _, _, _, _, _⟩) rfl _ (by exact exec_slice1 _ 40 47 _ rfl Try.underlying40 i0 _ hi0 hz0 (hv (⟨(k : Int), (j : Int), false⟩ : FHit)) hz1 (by show 0 < 3; omega) (by show 3 ≤ 1000; omega) rfl) ?_)
            | (at_builtin; refine wpList_append_src _ rfl (.tmp 64) (.tmp 66) _ _ rfl w3.heap.size 47 i0 _ 3 24 Try.underlying40 hi0 hz0 hz1 hz2 rfl _ _ _ rfl ev6 1 _ (Src.ofReads _ Try.underlying40 ((row_alloc w5 47 (hv (⟨(k : Int), (j : Int), false⟩ : FHit))).reads rfl) (hv_one _)) (by unfold maxLen; omega) (by omega) (by omega) ?_; intro v7 w7 ev7 hb7))
          rw [← hvs_snoc] at ev7
          have B7 := (hB.trans (b5.mono hB.size)).trans ((ba.mono (Nat.le_trans hB.size h56)).trans hb7)
          go_roundg (gk - 1)
          case measure => have := HJ.out; omega
          case rel => exact ⟨j + 1, v7, hs ++ [(⟨(k : Int), (j : Int), false⟩ : FHit)], by have := HJ.out; show _ = _; omega, by omega, by go_num, rfl, ev7, Lib.hid (fun i hi => by
            rcases Nat.lt_or_ge i j with h | h
            · have := HM.out i h
              simp [this]
            · obtain rfl : i = j := by omega
              simp), B7⟩
         | false =>
          have hbit : (bits BinOp.and IntKind.u64 (x / 2 ^ j) 1 == 1) = false := hz
          clear hz cbx hk3
          go_wp2_with (first
            | (with_reducible refine wpList_alloc_row (o := ⟨some 14, _, _, _, _, _⟩) rfl _ rfl [.int .i64 0, .int .i64 0, .bool false] zero_hit ?_; intro w4 r4 s4 g4)
            | ((with_reducible refine wpList_at ⟨none, .store _ (.tmp 14) _, _, _, _, _⟩ ?_); refine wpList_store_all rfl _ _ _ rfl wr.heap.size rfl _ _ r4 (hv (⟨(k : Int), (j : Int), false⟩ : FHit)) rfl (hv_one _) rfl size_hit ?_; intro w5 r5 g5; have b5 := below_kept (grown_below g4 (Nat.le_refl _) (by simp)) g5 (Nat.le_of_lt s4) (by rintro z hz; cases hz; exact Nat.le_refl _); have ev5 := own_below ev b5; have ba : Below w5.heap.size w5 (w5.alloc (.cells (hv (⟨(k : Int), (j : Int), false⟩ : FHit)).toArray 47)) := (Below.refl _ _).alloc (Nat.le_refl _) _; have ev6 := own_below ev5 ba; have h56 := b5.size; have h57 := ba.size; clear r4 g4 g5)
            | (refine wpList_valueW (o := ⟨some 68, _, _, _, _, _⟩) rfl _ (by exact exec_load _ 47 _ rfl ⟨wr.heap.size, 0, none⟩ rfl (hv (⟨(k : Int), (j : Int), false⟩ : FHit)) r5.cells _ Try.underlying47 rfl size_hit) ?_)
            | (refine wpList_valueW (o := ⟨some 69, _, _, _, _, _⟩) rfl _ (by exact exec_slice1 _ 40 47 _ rfl Try.underlying40 i0 _ hi0 hz0 (hv (⟨(k : Int), (j : Int), false⟩ : FHit)) hz1 (by show 0 < 3; omega) (by show 3 ≤ 1000; omega) rfl) ?_)
            | (at_builtin; refine wpList_append_src _ rfl (.tmp 69) (.tmp 70) _ _ rfl w3.heap.size 47 i0 _ 3 24 Try.underlying40 hi0 hz0 hz1 hz2 rfl _ _ _ rfl (own_hit w5 w3.heap.size (⟨(k : Int), (j : Int), false⟩ : FHit) (by omega)) j _ (Src.ofReads _ Try.underlying40 (Reads.of_own ev6) (hvs_one hs)) (by unfold maxLen; omega) (by omega) (by omega) ?_; intro v7 w7 ev7 hb7))
          rw [Nat.add_comm 1 j] at ev7
          have B7 := (hB.trans (b5.mono hB.size)).trans ((ba.mono (Nat.le_trans hB.size h56)).trans hb7)
          go_roundg (gk - 1)
          case measure => have := HJ.out; omega
          case rel => exact ⟨j + 1, v7, (⟨(k : Int), (j : Int), false⟩ : FHit) :: hs, by have := HJ.out; show _ = _; omega, by omega, by go_num, rfl, ev7, Lib.hid (fun i hi => by
            rcases Nat.lt_or_ge i j with h | h
            · have := HM.out i h
              simp [this]
            · obtain rfl : i = j := by omega
              simp), B7⟩
       · obtain rfl : j = nn * 3 := by omega
         clear cbx
         have cbx := (bx_3.on hB).cell (j := 0) rfl
         go_wp2_with fail
         refine ((HH1 _ (ok_3.on hB) (rh_3.on hB)).out).mono ?_
         rintro e w31 ⟨A1, n1, c1, q1, rfl, oka31, hba, h31⟩
         have B31 := hB.trans (h31.mono hB.size)
         have ok_31 := (ok_3.on hB).on h31
         have bx_31 := (bx_3.on hB).on h31
         have rh_31 := (rh_3.on hB).on h31
         have rl_31 := (Reads.of_own ev).on h31
         have cbx := bx_31.cell (j := 0) rfl
         have HBA := Lib.hid hba
         clear hba
         unfold fuv
         go_wp2_with fail
         refine ((HH2 _ A1 n1 c1 q1 _ _ _ oka31 HBA.out rl_31 (by omega)).out).mono ?_
         rintro e w32 ⟨A2, n2, c2, q2, rfl, okb32, hbb, h32⟩
         have B32 := B31.trans (h32.mono B31.size)
         have ok_32 := ok_31.on h32
         have bx_32 := bx_31.on h32
         have rh_32 := rh_31.on h32
         have rl_32 := rl_31.on h32
         have oka_32 := oka31.on h32
         clear ok_31 bx_31 rh_31 rl_31
         have cbx := bx_32.cell (j := 0) rfl
         have HBB := Lib.hid hbb
         clear hbb
         unfold fuv
         go_wp2_with fail
         refine ((HH3 _ A2 n2 c2 q2 okb32 HBB.out rh_32).out).mono ?_
         rintro e w33 ⟨A3, n3, c3, q3, rfl, okc33, hbc, h33⟩
         have B33 := B32.trans (h33.mono B32.size)
         have ok_33 := ok_32.on h33
         have bx_33 := bx_32.on h33
         have rh_33 := rh_32.on h33
         have rl_33 := rl_32.on h33
         have oka_33 := oka_32.on h33
         have okb_33 := okb32.on h33
         clear ok_32 bx_32 rh_32 rl_32 oka_32
         have cbx := bx_33.cell (j := 0) rfl
         have HBC := Lib.hid hbc
         clear hbc
         unfold fuv
         go_wp2_with (first
           | (with_reducible refine wpList_alloc_row (o := ⟨some 15, _, _, _, _, _⟩) rfl _ rfl [.slice none 0 0] (by kernel_rfl) ?_; intro w34 r34 s34 g34)
           | ((with_reducible refine wpList_at ⟨none, .store _ (.tmp 15) _, _, _, _, _⟩ ?_); refine wpList_store_all rfl _ _ _ rfl w33.heap.size rfl _ _ r34 [.slice A3 n3 c3] rfl (slice_one _ _ _) rfl (by kernel_rfl) ?_; intro w35 bz_35 g35; have k35 : Below w33.heap.size w33 w35 := below_kept (grown_below g34 (Nat.le_refl _) (by simp)) g35 (Nat.le_of_lt s34) (by rintro q hq; cases hq; exact Nat.le_refl _); have B35 := B33.trans (k35.mono B33.size); have ok_35 := ok_33.on k35; have bx_35 := bx_33.on k35; have rh_35 := rh_33.on k35; have rl_35 := rl_33.on k35; have oka_35 := oka_33.on k35; have okb_35 := okb_33.on k35; have okc_35 := okc33.on k35; clear ok_33 bx_33 rh_33 rl_33 oka_33 okb_33; have cbx := bx_35.cell (j := 0) rfl; have cbz := bz_35.cell (j := 0) rfl; clear r34 g34 g35))
         refine (HSA _).mono ?_
         rintro e w36 ⟨rfl, h36⟩
         have B36 := B35.trans (h36.mono B35.size)
         have ok_36 := ok_35.on h36
         have bx_36 := bx_35.on h36
         have rh_36 := rh_35.on h36
         have rl_36 := rl_35.on h36
         have oka_36 := oka_35.on h36
         have okb_36 := okb_35.on h36
         have okc_36 := okc_35.on h36
         have bz_36 := bz_35.on h36
         clear ok_35 bx_35 rh_35 rl_35 oka_35 okb_35 okc_35 bz_35
         have cbx := bx_36.cell (j := 0) rfl
         have cbz := bz_36.cell (j := 0) rfl
         go_wp2_with fail
         obtain ⟨E, hE⟩ : ∃ E, E = fuLevel (fuHits (fuHits (fuHits (bk ps) ho) hs) ho) (k : Int) false := ⟨_, rfl⟩
         have HLV := Lib.hid (show Calls Try.prog 20 #[.agg #[.slice A3 n3 c3], .int .i64 (k : Int)] w36 (TellsI E w36) from by
           have h0 := fleast_any A3 n3 c3 q3 (k : Int) w36 okc_36.1 okc_36.2.2
           rw [HBC.out, ← hE] at h0
           exact h0)
         have hTE : (nn : Int) ≤ E := by rw [hE]; exact HRL.out hs HM.out
         clear hE
         refine HLV.out.mono ?_
         rintro e wz ⟨rfl, hz⟩
         have Bz := B36.trans (hz.mono B36.size)
         go_wp2_with fail
         go_ret
         exact ⟨by simp, B3.trans (Bz.mono B3.size)⟩
    · go_enter Try.func8, Try.ntmps8
      go_wp2_with (with_reducible refine wpList_box_row (o := ⟨some 5, _, _, _, _, _⟩) rfl _ _ rfl ([.slice (some ad) n c]) rfl ?_; intro w1 bx_1 s1 g1; have k1 : Below w.heap.size w w1 := grown_below g1 (Nat.le_refl _) (by simp); have B1 : Below w.heap.size w w1 := k1; have ok_1 := hok.on k1; have rh_1 := hh.on k1; have cbx := bx_1.cell (j := 0) rfl)
      refine ((HV _ ok_1).out).mono ?_
      rintro e w2 ⟨rfl, h2⟩
      have B2 := B1.trans (h2.mono B1.size)
      have ok_2 := ok_1.on h2
      have rh_2 := rh_1.on h2
      have bx_2 := bx_1.on h2
      clear ok_1 rh_1 bx_1
      have cbx := bx_2.cell (j := 0) rfl
      go_wp2_with fail
      refine ((HS _ ok_2).out).mono ?_
      rintro e w3 ⟨rfl, h3⟩
      have B3 := B2.trans (h3.mono B2.size)
      have ok_3 := ok_2.on h3
      have rh_3 := rh_2.on h3
      have bx_3 := bx_2.on h3
      clear ok_2 rh_2 bx_2
      have cbx := bx_3.cell (j := 0) rfl
      have hk3 := (B3.cell (by rw [block_of_add]; exact hlt)).trans HC.out
      go_wp2_with fail
      have HRL : Hid (∀ hs : List FHit, (∀ i, i < M * 3 → (⟨(k : Int), (i : Int), false⟩ : FHit) ∈ hs) → (M : Int) ≤ fuLevel (fuHits (fuHits (fuHits (bk ps) ho) hs) ho) (k : Int) false) := Lib.hid fun hs hm => by
        obtain ⟨l', h1, h2, _⟩ := ((hits_rel (bk ps) ho).trans Hit1.trans ((hits_rel _ hs).trans Hit1.trans (hits_rel _ ho))).bank HPK.out
        refine raise_level h1 (by rw [hits_sound, hits_sound, hits_sound]; exact HSD.out) M (by rw [← h2, HPL.out]; omega) fun i hi => ?_
        have hil : i < p.l.length := by rw [HPL.out]; omega
        refine hits_done2 (bk ps) ho hs (k : Int) (i : Int) (by rw [fuEx_nat HPK.out]; exact decide_eq_true hil) ?_ (hm i (by omega))
        rw [fuAt_nat HPK.out (List.getElem?_eq_getElem hil)]
        exact HVB.out.2.2 _ (List.getElem_mem _)
      have hnk : decide (n ≤ k) = false := decide_eq_false (by omega)
      simp only [hnk, Bool.or_false]
      go_loopg [12, 53] (M * 3) (fun g s12 s53 wr => ∃ (j : Nat) (v : Value) (hs : List FHit), Hid (j + g = M * 3) ∧ j ≤ M * 3 ∧ s53 = .int .i64 (j : Int) ∧ s12 = v ∧ wr.ownsRow w3.heap.size 47 3 v j (hvs hs) ∧ Hid (∀ i, i < j → (⟨(k : Int), (i : Int), false⟩ : FHit) ∈ hs) ∧ Below w3.heap.size w3 wr)
      case atStart => exact ⟨0, _, [], by show _ = _; omega, by omega, rfl, rfl, World.ownsRow_nil _ _ _ _, Lib.hid (fun i hi => by omega), Below.refl _ _⟩
      case round =>
       obtain ⟨j, v, hs, HJ, hj, rfl, rfl, ev, HM, hB⟩ := hrel
       obtain ⟨Av, cv, rfl, hcv, _, _⟩ := own_form ev
       by_cases hlj : j < M * 3
       · have hszb := hB.size
         cases hz : nz x j with
         | true =>
          have hbit : (bits BinOp.and IntKind.u64 (x / 2 ^ j) 1 == 1) = true := hz
          clear hz cbx hk3
          go_wp2_with (first
            | (with_reducible refine wpList_alloc_row (o := ⟨some 14, _, _, _, _, _⟩) rfl _ rfl [.int .i64 0, .int .i64 0, .bool false] zero_hit ?_; intro w4 r4 s4 g4)
            | ((with_reducible refine wpList_at ⟨none, .store _ (.tmp 14) _, _, _, _, _⟩ ?_); refine wpList_store_all rfl _ _ _ rfl wr.heap.size rfl _ _ r4 (hv (⟨(k : Int), (j : Int), false⟩ : FHit)) rfl (hv_one _) rfl size_hit ?_; intro w5 r5 g5; have b5 := below_kept (grown_below g4 (Nat.le_refl _) (by simp)) g5 (Nat.le_of_lt s4) (by rintro z hz; cases hz; exact Nat.le_refl _); have ev5 := own_below ev b5; have ba : Below w5.heap.size w5 (w5.alloc (.cells (hv (⟨(k : Int), (j : Int), false⟩ : FHit)).toArray 47)) := (Below.refl _ _).alloc (Nat.le_refl _) _; have ev6 := own_below ev5 ba; have h56 := b5.size; have h57 := ba.size; clear r4 g4 g5)
            | (refine wpList_valueW (o := ⟨some 65, _, _, _, _, _⟩) rfl _ (by exact exec_load _ 47 _ rfl ⟨wr.heap.size, 0, none⟩ rfl (hv (⟨(k : Int), (j : Int), false⟩ : FHit)) r5.cells _ Try.underlying47 rfl size_hit) ?_)
            | (refine wpList_valueW (o := ⟨some 66, _, _, _, _, _⟩) rfl _ (by exact exec_slice1 _ 40 47 _ rfl Try.underlying40 i0 _ hi0 hz0 (hv (⟨(k : Int), (j : Int), false⟩ : FHit)) hz1 (by show 0 < 3; omega) (by show 3 ≤ 1000; omega) rfl) ?_)
            | (at_builtin; refine wpList_append_src _ rfl (.tmp 64) (.tmp 66) _ _ rfl w3.heap.size 47 i0 _ 3 24 Try.underlying40 hi0 hz0 hz1 hz2 rfl _ _ _ rfl ev6 1 _ (Src.ofReads _ Try.underlying40 ((row_alloc w5 47 (hv (⟨(k : Int), (j : Int), false⟩ : FHit))).reads rfl) (hv_one _)) (by unfold maxLen; omega) (by omega) (by omega) ?_; intro v7 w7 ev7 hb7))
          rw [← hvs_snoc] at ev7
          have B7 := (hB.trans (b5.mono hB.size)).trans ((ba.mono (Nat.le_trans hB.size h56)).trans hb7)
          go_roundg (gk - 1)
          case measure => have := HJ.out; omega
          case rel => exact ⟨j + 1, v7, hs ++ [(⟨(k : Int), (j : Int), false⟩ : FHit)], by have := HJ.out; show _ = _; omega, by omega, by go_num, rfl, ev7, Lib.hid (fun i hi => by
            rcases Nat.lt_or_ge i j with h | h
            · have := HM.out i h
              simp [this]
            · obtain rfl : i = j := by omega
              simp), B7⟩
         | false =>
          have hbit : (bits BinOp.and IntKind.u64 (x / 2 ^ j) 1 == 1) = false := hz
          clear hz cbx hk3
          go_wp2_with (first
            | (with_reducible refine wpList_alloc_row (o := ⟨some 14, _, _, _, _, _⟩) rfl _ rfl [.int .i64 0, .int .i64 0, .bool false] zero_hit ?_; intro w4 r4 s4 g4)
            | ((with_reducible refine wpList_at ⟨none, .store _ (.tmp 14) _, _, _, _, _⟩ ?_); refine wpList_store_all rfl _ _ _ rfl wr.heap.size rfl _ _ r4 (hv (⟨(k : Int), (j : Int), false⟩ : FHit)) rfl (hv_one _) rfl size_hit ?_; intro w5 r5 g5; have b5 := below_kept (grown_below g4 (Nat.le_refl _) (by simp)) g5 (Nat.le_of_lt s4) (by rintro z hz; cases hz; exact Nat.le_refl _); have ev5 := own_below ev b5; have ba : Below w5.heap.size w5 (w5.alloc (.cells (hv (⟨(k : Int), (j : Int), false⟩ : FHit)).toArray 47)) := (Below.refl _ _).alloc (Nat.le_refl _) _; have ev6 := own_below ev5 ba; have h56 := b5.size; have h57 := ba.size; clear r4 g4 g5)
            | (refine wpList_valueW (o := ⟨some 68, _, _, _, _, _⟩) rfl _ (by exact exec_load _ 47 _ rfl ⟨wr.heap.size, 0, none⟩ rfl (hv (⟨(k : Int), (j : Int), false⟩ : FHit)) r5.cells _ Try.underlying47 rfl size_hit) ?_)
            | (refine wpList_valueW (o := ⟨some 69, _, _, _, _, _⟩) rfl _ (by exact exec_slice1 _ 40 47 _ rfl Try.underlying40 i0 _ hi0 hz0 (hv (⟨(k : Int), (j : Int), false⟩ : FHit)) hz1 (by show 0 < 3; omega) (by show 3 ≤ 1000; omega) rfl) ?_)
            | (at_builtin; refine wpList_append_src _ rfl (.tmp 69) (.tmp 70) _ _ rfl w3.heap.size 47 i0 _ 3 24 Try.underlying40 hi0 hz0 hz1 hz2 rfl _ _ _ rfl (own_hit w5 w3.heap.size (⟨(k : Int), (j : Int), false⟩ : FHit) (by omega)) j _ (Src.ofReads _ Try.underlying40 (Reads.of_own ev6) (hvs_one hs)) (by unfold maxLen; omega) (by omega) (by omega) ?_; intro v7 w7 ev7 hb7))
          rw [Nat.add_comm 1 j] at ev7
          have B7 := (hB.trans (b5.mono hB.size)).trans ((ba.mono (Nat.le_trans hB.size h56)).trans hb7)
          go_roundg (gk - 1)
          case measure => have := HJ.out; omega
          case rel => exact ⟨j + 1, v7, (⟨(k : Int), (j : Int), false⟩ : FHit) :: hs, by have := HJ.out; show _ = _; omega, by omega, by go_num, rfl, ev7, Lib.hid (fun i hi => by
            rcases Nat.lt_or_ge i j with h | h
            · have := HM.out i h
              simp [this]
            · obtain rfl : i = j := by omega
              simp), B7⟩
       · obtain rfl : j = M * 3 := by omega
         clear cbx
         have cbx := (bx_3.on hB).cell (j := 0) rfl
         go_wp2_with fail
         refine ((HH1 _ (ok_3.on hB) (rh_3.on hB)).out).mono ?_
         rintro e w31 ⟨A1, n1, c1, q1, rfl, oka31, hba, h31⟩
         have B31 := hB.trans (h31.mono hB.size)
         have ok_31 := (ok_3.on hB).on h31
         have bx_31 := (bx_3.on hB).on h31
         have rh_31 := (rh_3.on hB).on h31
         have rl_31 := (Reads.of_own ev).on h31
         have cbx := bx_31.cell (j := 0) rfl
         have HBA := Lib.hid hba
         clear hba
         unfold fuv
         go_wp2_with fail
         refine ((HH2 _ A1 n1 c1 q1 _ _ _ oka31 HBA.out rl_31 (by omega)).out).mono ?_
         rintro e w32 ⟨A2, n2, c2, q2, rfl, okb32, hbb, h32⟩
         have B32 := B31.trans (h32.mono B31.size)
         have ok_32 := ok_31.on h32
         have bx_32 := bx_31.on h32
         have rh_32 := rh_31.on h32
         have rl_32 := rl_31.on h32
         have oka_32 := oka31.on h32
         clear ok_31 bx_31 rh_31 rl_31
         have cbx := bx_32.cell (j := 0) rfl
         have HBB := Lib.hid hbb
         clear hbb
         unfold fuv
         go_wp2_with fail
         refine ((HH3 _ A2 n2 c2 q2 okb32 HBB.out rh_32).out).mono ?_
         rintro e w33 ⟨A3, n3, c3, q3, rfl, okc33, hbc, h33⟩
         have B33 := B32.trans (h33.mono B32.size)
         have ok_33 := ok_32.on h33
         have bx_33 := bx_32.on h33
         have rh_33 := rh_32.on h33
         have rl_33 := rl_32.on h33
         have oka_33 := oka_32.on h33
         have okb_33 := okb32.on h33
         clear ok_32 bx_32 rh_32 rl_32 oka_32
         have cbx := bx_33.cell (j := 0) rfl
         have HBC := Lib.hid hbc
         clear hbc
         unfold fuv
         go_wp2_with (first
           | (with_reducible refine wpList_alloc_row (o := ⟨some 15, _, _, _, _, _⟩) rfl _ rfl [.slice none 0 0] (by kernel_rfl) ?_; intro w34 r34 s34 g34)
           | ((with_reducible refine wpList_at ⟨none, .store _ (.tmp 15) _, _, _, _, _⟩ ?_); refine wpList_store_all rfl _ _ _ rfl w33.heap.size rfl _ _ r34 [.slice A3 n3 c3] rfl (slice_one _ _ _) rfl (by kernel_rfl) ?_; intro w35 bz_35 g35; have k35 : Below w33.heap.size w33 w35 := below_kept (grown_below g34 (Nat.le_refl _) (by simp)) g35 (Nat.le_of_lt s34) (by rintro q hq; cases hq; exact Nat.le_refl _); have B35 := B33.trans (k35.mono B33.size); have ok_35 := ok_33.on k35; have bx_35 := bx_33.on k35; have rh_35 := rh_33.on k35; have rl_35 := rl_33.on k35; have oka_35 := oka_33.on k35; have okb_35 := okb_33.on k35; have okc_35 := okc33.on k35; clear ok_33 bx_33 rh_33 rl_33 oka_33 okb_33; have cbx := bx_35.cell (j := 0) rfl; have cbz := bz_35.cell (j := 0) rfl; clear r34 g34 g35))
         refine (HSA _).mono ?_
         rintro e w36 ⟨rfl, h36⟩
         have B36 := B35.trans (h36.mono B35.size)
         have ok_36 := ok_35.on h36
         have bx_36 := bx_35.on h36
         have rh_36 := rh_35.on h36
         have rl_36 := rl_35.on h36
         have oka_36 := oka_35.on h36
         have okb_36 := okb_35.on h36
         have okc_36 := okc_35.on h36
         have bz_36 := bz_35.on h36
         clear ok_35 bx_35 rh_35 rl_35 oka_35 okb_35 okc_35 bz_35
         have cbx := bx_36.cell (j := 0) rfl
         have cbz := bz_36.cell (j := 0) rfl
         go_wp2_with fail
         obtain ⟨E, hE⟩ : ∃ E, E = fuLevel (fuHits (fuHits (fuHits (bk ps) ho) hs) ho) (k : Int) false := ⟨_, rfl⟩
         have HLV := Lib.hid (show Calls Try.prog 20 #[.agg #[.slice A3 n3 c3], .int .i64 (k : Int)] w36 (TellsI E w36) from by
           have h0 := fleast_any A3 n3 c3 q3 (k : Int) w36 okc_36.1 okc_36.2.2
           rw [HBC.out, ← hE] at h0
           exact h0)
         have hTE : (M : Int) ≤ E := by rw [hE]; exact HRL.out hs HM.out
         clear hE
         refine HLV.out.mono ?_
         rintro e wz ⟨rfl, hz⟩
         have Bz := B36.trans (hz.mono B36.size)
         go_wp2_with fail
         go_ret
         exact ⟨by simp, B3.trans (Bz.mono B3.size)⟩
end Go.Proofs.Ytliaapgnknbmbaa
