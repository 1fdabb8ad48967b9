/-
  What lex.first and lex.Show return: contracts by walks. No condition but bounded lengths.
-/
import Derived.Test.YtgliealofieenaaDoorLxD
import Derived.Test.YtgliealofieenaaDoorLxB
set_option linter.unusedSimpArgs false
set_option linter.unusedVariables false
namespace Go.Proofs.YtgliealofieenaaDoor
open Go.RowKit

def TellsF (l : List UInt8) (w : World) (e : Ending) (w' : World) : Prop :=
  ∃ t : Tk, e = .returned (.tuple #[.agg t.cs.toArray, .bool (lxFirst l).isSome]) ∧ (∀ k m n, lxFirst l = some (k, m, n) → t = ⟨k, mk (l.take m), n, 0⟩) ∧ Below w.heap.size w w'
theorem load_tk {w : World} {g : Nat} {e : TypeId} {t : Tk} (hr : Row w g e t.cs) : (loadVar 30 ⟨g, 0, none⟩).run Tryd.prog w = .ok (.agg t.cs.toArray) w :=
  run_loadVar_at (P := Tryd.prog) w _ ⟨g, 0, none⟩ t.cs hr.cells _ Tryd.underlying30 rfl (by kernel_rfl)
theorem mk_extract (s : ByteArray) (n : Nat) : s.extract 0 n = mk ((tl s).take n) := by
  refine ba_ext ?_
  rw [tl_extract, tl_mk, List.drop_zero, Nat.sub_zero]
theorem extract_le (s : ByteArray) (n : Nat) : (s.extract 0 n).size ≤ s.size := by
  rw [mk_extract, mk_size, List.length_take, tl_len]
  omega
set_option maxRecDepth 100000 in
set_option maxHeartbeats 4000000 in
theorem first_any (r : Int) (s : ByteArray) (c : UInt8) (w : World) (hs : s.size ≤ 1000000) (hK : Sgs w) (hc : (tl s)[0]? = some c) (h1 : lxLet r = lxLet (bz c)) (h2 : lxDig r = lxDig (bz c)) :
    Calls Tryd.prog 19 #[.int .i32 r, .string s] w (TellsF (tl s) w) := by
  have HK := Lib.hid hK
  obtain ⟨R, hR⟩ : ∃ R, tl s = c :: R := by
    cases hl : tl s with
    | nil => rw [hl] at hc; cases hc
    | cons x R => rw [hl] at hc; cases hc; exact ⟨R, rfl⟩
  have HR := Lib.hid hR
  have HL := fun W => Lib.hid (letter_any r W)
  have HDG := fun W => Lib.hid (digit_any r W)
  have HWD := fun W => Lib.hid (word_any s W (by omega))
  have HX := Lib.hid (mk_extract s (wLen (tl s)))
  have hxs := extract_le s (wLen (tl s))
  have HXL : Hid ((s.extract 0 (wLen (tl s))).size = wLen (tl s)) := Lib.hid (by rw [mk_extract, mk_size, List.length_take, Nat.min_eq_left (wLen_le _)])
  have HNM := fun W => Lib.hid (number_any (s.extract 0 (wLen (tl s))) W (by omega))
  have HSG := fun W hW => Lib.hid (lsign_any s W (by omega) hW)
  generalize s.extract 0 (wLen (tl s)) = x at *
  clear hK hR hc
  unfold TellsF
  cases hl : lxLet (bz c) with
  | true =>
    rw [h1, hl] at HL
    have HF : Hid (lxFirst (tl s) = if wLen (tl s) ≤ 12 then some (1, wLen (tl s), 0) else none) := Lib.hid (by rw [HR.out]; exact first_let hl)
    clear hl h1 h2
    go_enter Tryd.func19, Tryd.ntmps19
    go_wp2_with (with_reducible refine wpList_alloc_row (o := ⟨some 4, _, _, _, _, _⟩) rfl _ rfl zeroTk zero_tk ?_; intro w1 r1 s1 g1; have b1 := grown_below g1 (Nat.le_refl _) (by simp))
    refine (HL _).out.mono ?_
    rintro e _ ⟨rfl, rfl⟩
    go_wp2_with fail
    refine (HWD _).out.mono ?_
    rintro e w2 ⟨rfl, b2⟩
    have r2 := r1.on b2
    have B2 := b1.trans (b2.mono b1.size)
    go_wp2_with (with_reducible refine wpList_store_all (o := ⟨none, _, _, _, _, _⟩) rfl _ _ _ rfl w.heap.size rfl _ _ r2 (Tk.cs ⟨1, x, 0, 0⟩) rfl (Tk.cs_one _) rfl (by kernel_rfl) ?_; intro w3 r3 g3)
    have hload := load_tk r3
    refine bodyPost_ret (results_cellE Tryd.results19 _ _ _ _ rfl hload) rfl ⟨⟨1, x, 0, 0⟩, ?_, ?_, below_kept B2 g3 B2.size (by rintro q hq; cases hq; omega)⟩
    · rw [HF.out]
      rw [show (x.size : Int) = (wLen (tl s) : Int) by rw [HXL.out]]
      by_cases h12 : wLen (tl s) ≤ 12
      · rw [if_pos h12]
        rw [decide_eq_true (show ((wLen (tl s) : Nat) : Int) ≤ 12 by omega)]; rfl
      · rw [if_neg h12]
        rw [decide_eq_false (show ¬ ((wLen (tl s) : Nat) : Int) ≤ 12 by omega)]; rfl
    · intro k m n h
      rw [HF.out] at h
      split at h
      · simp only [Option.some.injEq, Prod.mk.injEq] at h
        obtain ⟨rfl, rfl, rfl⟩ := h
        rw [HX.out]
      · cases h
  | false =>
    rw [h1, hl] at HL
    cases hd : lxDig (bz c) with
    | true =>
      rw [h2, hd] at HDG
      have HF : Hid (lxFirst (tl s) = if numOK ((tl s).take (wLen (tl s))) = true then some (2, wLen (tl s), numV ((tl s).take (wLen (tl s)))) else none) := Lib.hid (by rw [HR.out]; exact first_dig hd)
      have HXT : Hid (tl x = (tl s).take (wLen (tl s))) := Lib.hid (by rw [HX.out, tl_mk])
      clear hl h1 h2 hd
      go_enter Tryd.func19, Tryd.ntmps19
      go_wp2_with (with_reducible refine wpList_alloc_row (o := ⟨some 4, _, _, _, _, _⟩) rfl _ rfl zeroTk zero_tk ?_; intro w1 r1 s1 g1; have b1 := grown_below g1 (Nat.le_refl _) (by simp))
      refine (HL _).out.mono ?_
      rintro e _ ⟨rfl, rfl⟩
      go_wp2_with fail
      refine (HDG _).out.mono ?_
      rintro e _ ⟨rfl, rfl⟩
      go_wp2_with fail
      refine (HWD _).out.mono ?_
      rintro e w2 ⟨rfl, b2⟩
      have r2 := r1.on b2
      have B2 := b1.trans (b2.mono b1.size)
      go_wp2_with fail
      refine (HNM _).out.mono ?_
      rintro e w4 ⟨v, rfl, hv, b4⟩
      have HV := Lib.hid hv
      clear hv
      have r4 := r2.on b4
      have B4 := B2.trans (b4.mono B2.size)
      go_wp2_with (with_reducible refine wpList_store_all (o := ⟨none, _, _, _, _, _⟩) rfl _ _ _ rfl w.heap.size rfl _ _ r4 (Tk.cs ⟨2, x, v, 0⟩) rfl (Tk.cs_one _) rfl (by kernel_rfl) ?_; intro w3 r3 g3)
      have hload := load_tk r3
      refine bodyPost_ret (results_cellE Tryd.results19 _ _ _ _ rfl hload) rfl ⟨⟨2, x, v, 0⟩, ?_, ?_, below_kept B4 g3 B4.size (by rintro q hq; cases hq; omega)⟩
      · rw [HF.out, ← HXT.out]
        cases numOK (tl x) <;> rfl
      · intro k m n h
        rw [HF.out] at h
        split at h
        · rename_i hok
          rw [← HXT.out] at hok h
          simp only [Option.some.injEq, Prod.mk.injEq] at h
          obtain ⟨rfl, rfl, rfl⟩ := h
          rw [HV.out hok, HX.out]
        · cases h
    | false =>
      rw [h2, hd] at HDG
      have HF : Hid (lxFirst (tl s) = if sgn (tl s) = 0 then none else some (3, sgn (tl s), 0)) := Lib.hid (by rw [HR.out]; exact first_sgn hl hd)
      clear hl h1 h2 hd
      go_enter Tryd.func19, Tryd.ntmps19
      go_wp2_with (with_reducible refine wpList_alloc_row (o := ⟨some 4, _, _, _, _, _⟩) rfl _ rfl zeroTk zero_tk ?_; intro w1 r1 s1 g1; have b1 := grown_below g1 (Nat.le_refl _) (by simp))
      refine (HL _).out.mono ?_
      rintro e _ ⟨rfl, rfl⟩
      go_wp2_with fail
      refine (HDG _).out.mono ?_
      rintro e _ ⟨rfl, rfl⟩
      go_wp2_with fail
      refine (HSG _ (HK.out.on b1)).out.mono ?_
      rintro e w2 ⟨y, rfl, hy, b2⟩
      have HY := Lib.hid hy
      clear hy
      have r2 := r1.on b2
      have B2 := b1.trans (b2.mono b1.size)
      go_wp2_with (with_reducible refine wpList_store_all (o := ⟨none, _, _, _, _, _⟩) rfl _ _ _ rfl w.heap.size rfl _ _ r2 (Tk.cs ⟨3, y, 0, 0⟩) rfl (Tk.cs_one _) rfl (by kernel_rfl) ?_; intro w3 r3 g3)
      have hload := load_tk r3
      refine bodyPost_ret (results_cellE Tryd.results19 _ _ _ _ rfl hload) rfl ⟨⟨3, y, 0, 0⟩, ?_, ?_, below_kept B2 g3 B2.size (by rintro q hq; cases hq; omega)⟩
      · rw [HF.out]
        by_cases hz : sgn (tl s) = 0
        · rw [if_pos hz]; simp [hz]
        · rw [if_neg hz]; simp [hz]
      · intro k m n h
        rw [HF.out] at h
        split at h
        · cases h
        · rename_i hz
          simp only [Option.some.injEq, Prod.mk.injEq] at h
          obtain ⟨rfl, rfl, rfl⟩ := h
          rw [← HY.out hz, mk_tl]
end Go.Proofs.YtgliealofieenaaDoor
