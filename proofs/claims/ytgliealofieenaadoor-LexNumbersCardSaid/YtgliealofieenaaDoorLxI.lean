/-
  What lex.Show returns: a contract by a walk. For at most 1000 tokens of at most 2000 bytes each.
-/
import Derived.Test.YtgliealofieenaaDoorLxG
set_option linter.unusedSimpArgs false
set_option linter.unusedVariables false
namespace Go.Proofs.YtgliealofieenaaDoor
open Go.RowKit

set_option maxRecDepth 100000 in
set_option maxHeartbeats 8000000 in
theorem lshow_any (A : Option Addr) (n c : Nat) (ts : List Tk) (w : World) (hr : Reads w w.heap.size 4 A n (tks ts)) (hn : n ≤ 1000) (hsz : ∀ t ∈ ts, t.t.size ≤ 2000) :
    Calls Tryd.prog 13 #[.slice A n c] w (TellsS (mk (shw ts)) w) := by
  have HLN := Lib.hid hr.tk_len
  have HSZ := Lib.hid hsz
  have HSB := Lib.hid (fun i => shw_bound (ts := ts) (N := 1000) (M := 2000) (by rw [hr.tk_len]; exact hn) hsz i)
  have HWB := fun l x W h1 h2 h3 => Lib.hid (wbyte_any w.heap.size w.heap.size l x W h1 h2 h3)
  have HWS := fun l x W h1 h2 h3 => Lib.hid (wstr_any w.heap.size w.heap.size l x W h1 h2 h3)
  clear hsz
  unfold TellsS
  go_enter Tryd.func13, Tryd.ntmps13
  go_wp2_with fail
  go_loopg [8] n (fun g s8 wr => ∃ i : Nat, Hid (i + g = n) ∧ i ≤ n ∧ s8 = .int .i64 (i : Int) ∧ IsBld w.heap.size w.heap.size (shw (ts.take i)) wr ∧ Below w.heap.size w wr)
  case atStart => exact ⟨0, by show _ = _; omega, by omega, rfl, bld_fresh w, (Below.refl _ _).alloc (Nat.le_refl _) _⟩
  case round =>
    obtain ⟨i, HI, hi, rfl, hI, hB⟩ := hrel
    by_cases hlt : i < n
    · obtain ⟨ad, t, rfl, hlta, ht, hc⟩ := (hr.below hB).tk_at hlt
      have HCC := Lib.hid hc
      have hts := HSZ.out t (List.mem_of_getElem? ht)
      have hbd := HSB.out i
      have HST := Lib.hid (shw_step ht)
      have hbs := hB.size
      have hlt1 := hI.lt
      clear ht hc
      by_cases h0 : i = 0
      · subst h0
        have HS1 : Hid (shw (ts.take (0 + 1)) = tl t.t) := Lib.hid (by rw [HST.out, if_pos rfl])
        clear HST
        go_wp2_with (first
          | ((with_reducible refine wpList_at ⟨some 12, _, _, _, _, _⟩ ?_); refine wpList_valueG rfl _ (by exact exec_loadTk _ _ rfl (ad.add (0 * 4)) (by first | rfl | (simp; done)) t HCC.out) ?_)
          | (with_reducible refine wpList_alloc_row (o := ⟨some 5, _, _, _, _, _⟩) rfl _ rfl zeroTk zero_tk ?_; intro w4 r4 z4 g4; have b4 := grown_below g4 (Nat.le_refl _) (by simp))
          | ((with_reducible refine wpList_at ⟨none, .store _ (.tmp 5) _, _, _, _, _⟩ ?_); refine wpList_store_all rfl _ _ _ rfl wr.heap.size rfl _ _ r4 t.cs rfl (t.cs_one) rfl (by kernel_rfl) ?_; intro w5 r5 g5; have z5 := g5.size; have b5 := below_kept b4 g5 b4.size (by rintro q hq; cases hq; omega); have hI5 := hI.on b5; have B5 := hB.trans (b5.mono hbs); have c51 := r5.cell (j := 1) rfl))
        refine (HWS _ t.t w5 hI5 (by simp [shw]; omega) B5.size).out.mono ?_
        rintro e w6 ⟨v, rfl, hI6, b6, _⟩
        go_wp2_with fail
        go_roundg (gk - 1)
        case measure => have := HI.out; omega
        case rel => exact ⟨0 + 1, by have := HI.out; show _ = _; omega, by omega, by go_num, by rw [HS1.out]; exact hI6, B5.trans b6⟩
      · have q1 : decide ((0 : Int) < (i : Int)) = true := decide_eq_true (by omega)
        have q2 : decide (0 < i) = true := decide_eq_true (by omega)
        have hpos : 0 < i := by omega
        have HS1 : Hid (shw (ts.take (i + 1)) = (shw (ts.take i) ++ [32]) ++ t.t.data.toList) := Lib.hid (by rw [HST.out, if_neg h0, List.append_assoc]; rfl)
        clear HST h0
        go_wp2_with (first
          | ((with_reducible refine wpList_at ⟨some 12, _, _, _, _, _⟩ ?_); refine wpList_valueG rfl _ (by exact exec_loadTk _ _ rfl (ad.add (i * 4)) rfl t HCC.out) ?_)
          | (with_reducible refine wpList_alloc_row (o := ⟨some 5, _, _, _, _, _⟩) rfl _ rfl zeroTk zero_tk ?_; intro w4 r4 z4 g4; have b4 := grown_below g4 (Nat.le_refl _) (by simp))
          | ((with_reducible refine wpList_at ⟨none, .store _ (.tmp 5) _, _, _, _, _⟩ ?_); refine wpList_store_all rfl _ _ _ rfl wr.heap.size rfl _ _ r4 t.cs rfl (t.cs_one) rfl (by kernel_rfl) ?_; intro w5 r5 g5; have z5 := g5.size; have b5 := below_kept b4 g5 b4.size (by rintro q hq; cases hq; omega); have hI5 := hI.on b5; have B5 := hB.trans (b5.mono hbs)))
        refine (HWB _ 32 w5 hI5 (by omega) B5.size).out.mono ?_
        rintro e w6 ⟨rfl, hI6, b6, k6⟩
        have r6 : Row w6 wr.heap.size 30 t.cs := k6 wr.heap.size _ r5 (by simp; omega) (by intro c fz e; cases e)
        have B6 := B5.trans b6
        have c61 := r6.cell (j := 1) rfl
        go_wp2_with fail
        refine (HWS _ t.t w6 hI6 (by rw [List.length_append]; simp; omega) B6.size).out.mono ?_
        rintro e w7 ⟨v, rfl, hI7, b7, _⟩
        go_wp2_with fail
        go_roundg (gk - 1)
        case measure => have := HI.out; omega
        case rel => exact ⟨i + 1, by have := HI.out; show _ = _; omega, by omega, by go_num, by rw [HS1.out]; exact hI7, B6.trans b7⟩
    · obtain rfl : i = n := by omega
      have HTA : Hid (ts.take i = ts) := Lib.hid (List.take_of_length_le (by rw [HLN.out]; exact Nat.le_refl _))
      rw [HTA.out] at hI
      have HBS := Lib.hid (bstr_any w.heap.size w.heap.size (shw ts) wr hI hB.size)
      clear hI
      go_wp2_with fail
      refine HBS.out.mono ?_
      rintro e w6 ⟨rfl, b6⟩
      go_wp2_with fail
      go_ret
      exact ⟨rfl, hB.trans b6⟩
end Go.Proofs.YtgliealofieenaaDoor
