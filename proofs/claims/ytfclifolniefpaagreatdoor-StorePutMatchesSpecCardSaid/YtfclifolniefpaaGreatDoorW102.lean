/-
  StorePutMatchesSpec: a walk. Condition: the table of constants as laid.
-/
import Derived.Test.YtfclifolniefpaaGreatDoorStL
import Derived.Test.YtfclifolniefpaaGreatDoorStRj
import Derived.Test.YtfclifolniefpaaGreatDoorStX
import Derived.Test.YtfclifolniefpaaGreatDoorSan10
set_option linter.unusedSimpArgs false
set_option linter.unusedVariables false
namespace Go.Proofs.YtfclifolniefpaaGreatDoor
open Go.RowKit

theorem exec_eqlAS2 {ρ : Operand → Value} {o : Oper} (w : World) (x y : Operand) (ho : o.op = .binOp .eql 26 x y 26) (a : StA) (h1 : ρ x = .agg a.cs.toArray) (h2 : ρ y = .agg a.cs.toArray) :
    (execOp ρ o).run Tryz.prog w = .ok (.value (.bool true)) w := exec_eqlA (ρ := ρ) (o := o) w x y ho a h1 h2
set_option maxRecDepth 100000 in
set_option maxHeartbeats 4000000 in
theorem w102_any (rec : Int) (cb : ByteArray) (A : Option Addr) (n d : Nat) (l : List StR) (w : World) (hK : Consts w) (hr : Reads w w.heap.size 2 A n (rcs l)) (hc : n ≤ d) (hn : n ≤ 9223372036854775807) (hs : ∀ r ∈ l, r.s.size ≤ 9223372036854775807) (hcb : cb.size ≤ 9223372036854775807) :
    Calls Tryz.prog 4 #[.int .i64 rec, .string cb, .slice A n d] w (GivesX (.bool true) w) := by
  have HS := fun W h => Lib.hid (san10_any W h)
  have HF := Lib.hid (few_any A n d l w hr (by omega) hs)
  cases hf : stFew l with
  | false =>
    rw [hf] at HF
    go_enter Tryz.func4, Tryz.ntmps4
    go_wp2_with fail
    refine HF.out.mono ?_
    rintro e w1 ⟨rfl, B1⟩
    have hlB1 := B1.size
    go_wp2_with fail
    refine (HS _ (hK.on B1)).out.mono ?_
    rintro e w2 ⟨rfl, B2⟩
    go_wp2_with fail
    go_ret
    exact ⟨rfl, B1.trans (B2.mono hlB1)⟩
  | true =>
    by_cases hbig : 2100 < cb.size
    · rw [hf] at HF
      go_enter Tryz.func4, Tryz.ntmps4
      go_wp2_with fail
      refine HF.out.mono ?_
      rintro e w1 ⟨rfl, B1⟩
      have hlB1 := B1.size
      go_wp2_with fail
      refine (HS _ (hK.on B1)).out.mono ?_
      rintro e w2 ⟨rfl, B2⟩
      go_wp2_with fail
      go_ret
      exact ⟨rfl, B1.trans (B2.mono hlB1)⟩
    rw [hf] at HF
    obtain ⟨hs4, hl4⟩ := stFew_iff.1 hf
    have hln := hr.len_of (by decide) StR.cs_len
    have hn40 : n ≤ 1000 := by omega
    have HG : ∀ W, Below w.heap.size w W → Hid (Calls Tryz.prog 11 #[.int .i64 rec, .string cb, .slice A n d] W (GivesS (stPut rec cb (l.map StR.s)) W)) := fun W h => Lib.hid (sput_any rec cb A n d l W (hK.on h) (hr.on h) hc (by omega) hs4 (by omega))
    have HR : ∀ W, Below w.heap.size w W → Hid (Calls Tryz.prog 12 #[.int .i64 rec, .string cb, .slice A n d] W (GivesS (stPut rec cb (l.map StR.s)) W)) := fun W h => Lib.hid (rput_any rec cb A n d l W (hr.on h) (by omega) hs4 (by omega))
    generalize stPut rec cb (l.map StR.s) = R at *
    obtain ⟨ra, ro, rb⟩ := R
    clear hs4 hl4 hf hs hr
    go_enter Tryz.func4, Tryz.ntmps4
    go_wp2_with fail
    refine HF.out.mono ?_
    rintro e w1 ⟨rfl, B1⟩
    have hlB1 := B1.size
    go_wp2_with fail
    have lB6 := B1.size
    refine (HG _ B1).out.mono ?_
    rintro e w6 ⟨rfl, h6⟩
    have hs6 := h6.size
    have B6 := B1.trans (h6.mono B1.size)
    go_wp2_with (first
      | (with_reducible refine wpList_alloc_row (o := ⟨some 7, _, _, _, _, _⟩) rfl _ rfl zeroA zero_ac ?_; intro w7 a7_7 s7 g7; have k7 : Below w6.heap.size w6 w7 := grown_below g7 (Nat.le_refl _) (by simp); have B7 := B6.trans (k7.mono B6.size))
      | (with_reducible refine wpList_alloc_row (o := ⟨some 8, _, _, _, _, _⟩) rfl _ rfl zeroO zero_so ?_; intro w8 o8_8 s8 g8; have k8 : Below w7.heap.size w7 w8 := grown_below g8 (Nat.le_refl _) (by simp); have B8 := B7.trans (k8.mono B7.size); have a7_8 := a7_7.on k8; clear a7_7)
      | ((with_reducible refine wpList_at ⟨none, .store _ (.tmp 7) _, _, _, _, _⟩ ?_); refine wpList_store_all rfl _ _ _ rfl (w6.heap.size) rfl _ _ a7_8 (ra.cs) rfl (ra.cs_one) rfl (by kernel_rfl) ?_; intro w9 a7_9 g9; have o8_9 := o8_8.kept g9 (by simp; omega); have B9 := below_kept B8 g9 B8.size (by rintro q hq; cases hq; omega); have sz9 := g9.size; clear o8_8)
      | ((with_reducible refine wpList_at ⟨none, .store _ (.tmp 8) _, _, _, _, _⟩ ?_); refine wpList_store_all rfl _ _ _ rfl (w7.heap.size) rfl _ _ o8_9 (ro.cs) rfl (ro.cs_one) rfl (by kernel_rfl) ?_; intro w10 o8_10 g10; have a7_10 := a7_9.kept g10 (by simp; omega); have B10 := below_kept B9 g10 B9.size (by rintro q hq; cases hq; omega); have sz10 := g10.size; clear a7_9))
    have l11a7 := a7_10.lt
    have l11o8 := o8_10.lt
    have lB11 := B10.size
    refine (HR _ B10).out.mono ?_
    rintro e w11 ⟨rfl, h11⟩
    have hs11 := h11.size
    have B11 := B10.trans (h11.mono B10.size)
    have a7_11 := a7_10.on h11
    have o8_11 := o8_10.on h11
    clear a7_10 o8_10
    go_wp2_with (first
      | (with_reducible refine wpList_alloc_row (o := ⟨some 10, _, _, _, _, _⟩) rfl _ rfl zeroA zero_ac ?_; intro w12 a10_12 s12 g12; have k12 : Below w11.heap.size w11 w12 := grown_below g12 (Nat.le_refl _) (by simp); have B12 := B11.trans (k12.mono B11.size); have a7_12 := a7_11.on k12; have o8_12 := o8_11.on k12; clear a7_11 o8_11)
      | (with_reducible refine wpList_alloc_row (o := ⟨some 11, _, _, _, _, _⟩) rfl _ rfl zeroO zero_so ?_; intro w13 o11_13 s13 g13; have k13 : Below w12.heap.size w12 w13 := grown_below g13 (Nat.le_refl _) (by simp); have B13 := B12.trans (k13.mono B12.size); have a7_13 := a7_12.on k13; have o8_13 := o8_12.on k13; have a10_13 := a10_12.on k13; clear a7_12 o8_12 a10_12)
      | ((with_reducible refine wpList_at ⟨none, .store _ (.tmp 10) _, _, _, _, _⟩ ?_); refine wpList_store_all rfl _ _ _ rfl (w11.heap.size) rfl _ _ a10_13 (ra.cs) rfl (ra.cs_one) rfl (by kernel_rfl) ?_; intro w14 a10_14 g14; have a7_14 := a7_13.kept g14 (by simp; omega); have o8_14 := o8_13.kept g14 (by simp; omega); have o11_14 := o11_13.kept g14 (by simp; omega); have B14 := below_kept B13 g14 B13.size (by rintro q hq; cases hq; omega); have sz14 := g14.size; clear a7_13 o8_13 o11_13)
      | ((with_reducible refine wpList_at ⟨none, .store _ (.tmp 11) _, _, _, _, _⟩ ?_); refine wpList_store_all rfl _ _ _ rfl (w12.heap.size) rfl _ _ o11_14 (ro.cs) rfl (ro.cs_one) rfl (by kernel_rfl) ?_; intro w15 o11_15 g15; have a7_15 := a7_14.kept g15 (by simp; omega); have o8_15 := o8_14.kept g15 (by simp; omega); have a10_15 := a10_14.kept g15 (by simp; omega); have B15 := below_kept B14 g15 B14.size (by rintro q hq; cases hq; omega); have sz15 := g15.size; clear a7_14 o8_14 a10_14))
    have l16a7 := a7_15.lt
    have l16o8 := o8_15.lt
    have l16a10 := a10_15.lt
    have l16o11 := o11_15.lt
    have lB16 := B15.size
    refine (HS _ (hK.on B15)).out.mono ?_
    rintro e w16 ⟨rfl, h16⟩
    have hs16 := h16.size
    have B16 := B15.trans (h16.mono B15.size)
    have a7_16 := a7_15.on h16
    have o8_16 := o8_15.on h16
    have a10_16 := a10_15.on h16
    have o11_16 := o11_15.on h16
    clear a7_15 o8_15 a10_15 o11_15
    go_wp2_with (first
      | ((with_reducible refine wpList_at ⟨some 40, _, _, _, _, _⟩ ?_); refine wpList_valueG rfl _ (by exact exec_loadA _ _ rfl (w6.heap.size) rfl ra a7_16) ?_)
      | ((with_reducible refine wpList_at ⟨some 41, _, _, _, _, _⟩ ?_); refine wpList_valueG rfl _ (by exact exec_loadA _ _ rfl (w11.heap.size) rfl ra a10_16) ?_)
      | ((with_reducible refine wpList_at ⟨some 45, _, _, _, _, _⟩ ?_); refine wpList_valueG rfl _ (by exact exec_loadO _ _ rfl (w7.heap.size) rfl ro o8_16) ?_)
      | ((with_reducible refine wpList_at ⟨some 46, _, _, _, _, _⟩ ?_); refine wpList_valueG rfl _ (by exact exec_loadO _ _ rfl (w12.heap.size) rfl ro o11_16) ?_)
      | ((with_reducible refine wpList_at ⟨some 42, _, _, _, _, _⟩ ?_); refine wpList_valueG rfl _ (by exact exec_eqlAS2 _ _ _ rfl ra rfl rfl) ?_)
      | ((with_reducible refine wpList_at ⟨some 47, _, _, _, _, _⟩ ?_); refine wpList_valueG rfl _ (by exact exec_eqlS _ _ _ rfl ro rfl rfl) ?_))
    go_ret
    exact ⟨by simp; done, B16⟩
end Go.Proofs.YtfclifolniefpaaGreatDoor
