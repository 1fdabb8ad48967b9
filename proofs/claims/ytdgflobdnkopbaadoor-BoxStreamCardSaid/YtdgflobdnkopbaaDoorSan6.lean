/-
  What the law's sanity returns: a contract by a walk. Condition: the table of constants as laid.
-/
import Derived.Test.YtdgflobdnkopbaaDoorBxR
namespace Go.Proofs.YtdgflobdnkopbaaDoor
open Go.RowKit

set_option maxRecDepth 100000 in
set_option maxHeartbeats 4000000 in
theorem sanity6_any (w : World) (hCo : Consts w) : Calls Tryd.prog 8 #[] w (TellsB true w) := by
  have HK7 : Hid (key7.length = 16) := rfl
  have HK8 : Hid (key8.length = 16) := rfl
  have HT7 : Hid (tag7.length = 16) := rfl
  have HTB : Hid (bad7.length = 16) := rfl
  have HTE : Hid (tagE.length = 16) := rfl
  have hk7 : (#[.int .u8 7, .int .u8 0, .int .u8 0, .int .u8 0, .int .u8 0, .int .u8 0, .int .u8 0, .int .u8 0, .int .u8 0, .int .u8 0, .int .u8 0, .int .u8 0, .int .u8 0, .int .u8 0, .int .u8 0, .int .u8 0] : Array Value) = (bvs key7).toArray := rfl
  have hk8 : (#[.int .u8 8, .int .u8 0, .int .u8 0, .int .u8 0, .int .u8 0, .int .u8 0, .int .u8 0, .int .u8 0, .int .u8 0, .int .u8 0, .int .u8 0, .int .u8 0, .int .u8 0, .int .u8 0, .int .u8 0, .int .u8 0] : Array Value) = (bvs key8).toArray := rfl
  have hxor : bits .xor .u8 102 1 = 103 := by decide
  have HZ7 := Lib.hid (zbox_len 3 ⟨#[77, 143, 216, 248, 50, 60]⟩ tag7 rfl)
  have HB7 := Lib.hid (box_size 3 ⟨#[77, 143, 216, 248, 50, 60]⟩ tag7 rfl)
  have HZE := Lib.hid (zbox_len 3 ⟨#[]⟩ tagE rfl)
  have HBE := Lib.hid (box_size 3 ⟨#[]⟩ tagE rfl)
  have HLB : Hid (2 < (boxCs 3 ⟨#[77, 143, 216, 248, 50, 60]⟩ tag7).length) := by show _ < _; rw [box_len _ _ _ rfl]; omega
  have HSE : ∀ W (_ : Consts W), Hid (Calls Tryd.prog 11 #[.agg (bvs key7).toArray, .int .i64 3, .string ⟨#[115, 101, 99, 114, 101, 116]⟩] W (GivesV (.agg (boxCs 3 ⟨#[77, 143, 216, 248, 50, 60]⟩ tag7).toArray) W)) := fun W hW => by
    have e := seal_any key7 rfl 3 (by omega) (by omega) ⟨#[115, 101, 99, 114, 101, 116]⟩ (by decide) W hW
    rw [show ((⟨#[115, 101, 99, 114, 101, 116]⟩ : ByteArray).data.toList) = secret from rfl, ciph7_eq, tag7_eq] at e
    exact e
  have HSX : ∀ W (_ : Consts W), Hid (Calls Tryd.prog 11 #[.agg (bvs key7).toArray, .int .i64 3, .string ⟨#[]⟩] W (GivesV (.agg (boxCs 3 ⟨#[]⟩ tagE).toArray) W)) := fun W hW => by
    have e := seal_any key7 rfl 3 (by omega) (by omega) ⟨#[]⟩ (by decide) W hW
    rw [show cryp key7 3 ((⟨#[]⟩ : ByteArray).data.toList) = [] from rfl, tagE_eq] at e
    exact e
  have HO1 : ∀ W (_ : Consts W), Hid (Calls Tryd.prog 9 #[.agg (bvs key7).toArray, .agg (boxCs 3 ⟨#[77, 143, 216, 248, 50, 60]⟩ tag7).toArray] W fun e w' => e = .returned (.tuple #[.string ⟨#[115, 101, 99, 114, 101, 116]⟩, .int .i64 0]) ∧ Below W.heap.size W w') := fun W hW => by
    have e := open_any key7 rfl 3 (by omega) (by omega) ⟨#[77, 143, 216, 248, 50, 60]⟩ (by decide) tag7 rfl W hW
    unfold openS openE at e
    rw [show ((⟨#[77, 143, 216, 248, 50, 60]⟩ : ByteArray).data.toList) = ciph7 from rfl, open7, if_pos rfl, if_pos rfl, ← ciph7_eq, cryp_twice] at e
    exact e
  have HO2 : ∀ W (_ : Consts W), Hid (Calls Tryd.prog 9 #[.agg (bvs key7).toArray, .agg (boxCs 3 ⟨#[77, 143, 216, 248, 50, 60]⟩ bad7).toArray] W fun e w' => e = .returned (.tuple #[.string ⟨#[]⟩, .int .i64 8]) ∧ Below W.heap.size W w') := fun W hW => by
    have e := open_any key7 rfl 3 (by omega) (by omega) ⟨#[77, 143, 216, 248, 50, 60]⟩ (by decide) bad7 rfl W hW
    unfold openS openE at e
    rw [show ((⟨#[77, 143, 216, 248, 50, 60]⟩ : ByteArray).data.toList) = ciph7 from rfl, open7_bad] at e
    exact e
  have HO3 : ∀ W (_ : Consts W), Hid (Calls Tryd.prog 9 #[.agg (bvs key8).toArray, .agg (boxCs 3 ⟨#[77, 143, 216, 248, 50, 60]⟩ tag7).toArray] W fun e w' => e = .returned (.tuple #[.string ⟨#[]⟩, .int .i64 8]) ∧ Below W.heap.size W w') := fun W hW => by
    have e := open_any key8 rfl 3 (by omega) (by omega) ⟨#[77, 143, 216, 248, 50, 60]⟩ (by decide) tag7 rfl W hW
    unfold openS openE at e
    rw [show ((⟨#[77, 143, 216, 248, 50, 60]⟩ : ByteArray).data.toList) = ciph7 from rfl, open8] at e
    exact e
  go_enter Tryd.func8, Tryd.ntmps8
  go_wp2_with (first
    | (with_reducible refine wpList_alloc_row (o := ⟨some 1, _, _, _, _, _⟩) rfl _ rfl zeros16 zero_b16 ?_; intro w1 r1 s1 g1)
    | (with_reducible refine wpList_at ⟨none, .store _ (.tmp 1) _, _, _, _, _⟩ ?_; refine wpList_store_all rfl _ _ _ rfl w.heap.size rfl _ _ r1 (bvs key7) rfl (bvs_one _) (b16_zeros _ HK7.out) (b16_size _ HK7.out) ?_; intro w2 ky_2 g2; have k2 : Below w.heap.size w w2 := below_kept (grown_below g1 (Nat.le_refl _) (by simp)) g2 (Nat.le_of_lt s1) (by rintro q hq; cases hq; exact Nat.le_refl _); have B2 : Below w.heap.size w w2 := k2; have K_2 := hCo.on k2; clear r1 g1 g2)
    | (refine wpList_valueG (o := ⟨some 12, _, _, _, _, _⟩) rfl _ (by exact exec_load16 _ _ rfl _ rfl key7 HK7.out ky_2.cells) ?_))
  refine ((HSE _ K_2).out).mono ?_
  rintro e w3 ⟨rfl, h3⟩
  have B3 := B2.trans (h3.mono B2.size)
  have K_3 := K_2.on h3
  have ky_3 := ky_2.on h3
  clear K_2 ky_2
  go_wp2_with (first
    | (with_reducible refine wpList_alloc_row (o := ⟨some 2, _, _, _, _, _⟩) rfl _ rfl zbox zero_box ?_; intro w4 r4 s4 g4)
    | (with_reducible refine wpList_at ⟨none, .store _ (.tmp 2) _, _, _, _, _⟩ ?_; refine wpList_store_all rfl _ _ _ rfl w3.heap.size rfl _ _ r4 (boxCs 3 ⟨#[77, 143, 216, 248, 50, 60]⟩ tag7) rfl (box_one _ _ _) HZ7.out HB7.out ?_; intro w5 bx_5 g5; have z5ky := ky_3.lt; have zz5 := B3.size; have k5 : Below w3.heap.size w3 w5 := below_kept (grown_below g4 (Nat.le_refl _) (by simp)) g5 (Nat.le_of_lt s4) (by rintro q hq; cases hq; exact Nat.le_refl _); have B5 := B3.trans (k5.mono B3.size); have K_5 := K_3.on k5; have ky_5 := ky_3.on k5; clear K_3 ky_3; clear r4 g4 g5)
    | (refine wpList_valueG (o := ⟨some 15, _, _, _, _, _⟩) rfl _ (by exact exec_load16 _ _ rfl _ rfl key7 HK7.out ky_5.cells) ?_)
    | (refine wpList_valueG (o := ⟨some 16, _, _, _, _, _⟩) rfl _ (by exact exec_load_box _ _ rfl _ rfl 3 ⟨#[77, 143, 216, 248, 50, 60]⟩ tag7 HT7.out bx_5.cells) ?_))
  refine ((HO1 _ K_5).out).mono ?_
  rintro e w6 ⟨rfl, h6⟩
  have B6 := B5.trans (h6.mono B5.size)
  have K_6 := K_5.on h6
  have ky_6 := ky_5.on h6
  have bx_6 := bx_5.on h6
  clear K_5 ky_5 bx_5
  go_wp2_with (first
    | (refine wpList_valueG (o := ⟨some 20, _, _, _, _, _⟩) rfl _ (by exact exec_load_box _ _ rfl _ rfl 3 ⟨#[77, 143, 216, 248, 50, 60]⟩ tag7 HT7.out bx_6.cells) ?_)
    | (with_reducible refine wpList_alloc_row (o := ⟨some 5, _, _, _, _, _⟩) rfl _ rfl zbox zero_box ?_; intro w7 r7 s7 g7)
    | (with_reducible refine wpList_at ⟨none, .store _ (.tmp 5) _, _, _, _, _⟩ ?_; refine wpList_store_all rfl _ _ _ rfl w6.heap.size rfl _ _ r7 (boxCs 3 ⟨#[77, 143, 216, 248, 50, 60]⟩ tag7) rfl (box_one _ _ _) HZ7.out HB7.out ?_; intro w8 bd_8 g8; have z8ky := ky_6.lt; have z8bx := bx_6.lt; have zz8 := B6.size; have k8 : Below w6.heap.size w6 w8 := below_kept (grown_below g7 (Nat.le_refl _) (by simp)) g8 (Nat.le_of_lt s7) (by rintro q hq; cases hq; exact Nat.le_refl _); have B8 := B6.trans (k8.mono B6.size); have K_8 := K_6.on k8; have ky_8 := ky_6.on k8; have bx_8 := bx_6.on k8; clear K_6 ky_6 bx_6; clear r7 g7 g8)
    | (refine wpList_valueG (o := ⟨some 23, _, _, _, _, _⟩) rfl _ (by exact exec_load1 _ 5 _ rfl ⟨w6.heap.size, 2, none⟩ rfl (.int .u8 102) (bd_8.cell (j := 2) rfl) _ Tryd.underlying5 rfl) ?_)
    | (with_reducible refine wpList_at ⟨none, .store _ (.tmp 26) _, _, _, _, _⟩ ?_; refine wpList_store_elem rfl _ _ _ rfl w6.heap.size 2 rfl _ _ bd_8 (.int .u8 103) rfl rfl HLB.out (by kernel_rfl) ?_; intro w9 bd_9 g9; have B9 := below_kept B8 g9 B8.size (by rintro q hq; cases hq; first | exact Nat.le_refl _ | omega); have K_9 := hCo.on B9; have ky_9 := ky_8.kept g9 (by have := ky_8.lt; simp; omega); have bx_9 := bx_8.kept g9 (by have := bx_8.lt; simp; omega))
    | (refine wpList_valueG (o := ⟨some 28, _, _, _, _, _⟩) rfl _ (by exact exec_load16 _ _ rfl _ rfl key7 HK7.out ky_9.cells) ?_)
    | (refine wpList_valueG (o := ⟨some 29, _, _, _, _, _⟩) rfl _ (by exact exec_load_box _ _ rfl _ rfl 3 ⟨#[77, 143, 216, 248, 50, 60]⟩ bad7 HTB.out (show ∀ j u, (boxCs 3 ⟨#[77, 143, 216, 248, 50, 60]⟩ bad7)[j]? = some u → _ from bd_9.cells)) ?_))
  refine ((HO2 _ K_9).out).mono ?_
  rintro e w10 ⟨rfl, h10⟩
  have B10 := B9.trans (h10.mono B9.size)
  have K_10 := K_9.on h10
  have ky_10 := ky_9.on h10
  have bx_10 := bx_9.on h10
  have bd_10 := bd_9.on h10
  clear K_9 ky_9 bx_9 bd_9
  go_wp2_with (refine wpList_valueG (o := ⟨some 35, _, _, _, _, _⟩) rfl _ (by exact exec_load_box _ _ rfl _ rfl 3 ⟨#[77, 143, 216, 248, 50, 60]⟩ tag7 HT7.out bx_10.cells) ?_)
  refine ((HO3 _ K_10).out).mono ?_
  rintro e w11 ⟨rfl, h11⟩
  have B11 := B10.trans (h11.mono B10.size)
  have K_11 := K_10.on h11
  have ky_11 := ky_10.on h11
  have bx_11 := bx_10.on h11
  have bd_11 := bd_10.on h11
  clear K_10 ky_10 bx_10 bd_10
  go_wp2_with (refine wpList_valueG (o := ⟨some 39, _, _, _, _, _⟩) rfl _ (by exact exec_load16 _ _ rfl _ rfl key7 HK7.out ky_11.cells) ?_)
  refine ((HSX _ K_11).out).mono ?_
  rintro e w12 ⟨rfl, h12⟩
  have B12 := B11.trans (h12.mono B11.size)
  have K_12 := K_11.on h12
  have ky_12 := ky_11.on h12
  have bx_12 := bx_11.on h12
  have bd_12 := bd_11.on h12
  clear K_11 ky_11 bx_11 bd_11
  go_wp2_with (first
    | (with_reducible refine wpList_alloc_row (o := ⟨some 10, _, _, _, _, _⟩) rfl _ rfl zbox zero_box ?_; intro w13 r13 s13 g13)
    | (with_reducible refine wpList_at ⟨none, .store _ (.tmp 10) _, _, _, _, _⟩ ?_; refine wpList_store_all rfl _ _ _ rfl w12.heap.size rfl _ _ r13 (boxCs 3 ⟨#[]⟩ tagE) rfl (box_one _ _ _) HZE.out HBE.out ?_; intro w14 em_14 g14; have z14ky := ky_12.lt; have z14bx := bx_12.lt; have z14bd := bd_12.lt; have zz14 := B12.size; have k14 : Below w12.heap.size w12 w14 := below_kept (grown_below g13 (Nat.le_refl _) (by simp)) g14 (Nat.le_of_lt s13) (by rintro q hq; cases hq; exact Nat.le_refl _); have B14 := B12.trans (k14.mono B12.size); have K_14 := K_12.on k14; have ky_14 := ky_12.on k14; have bx_14 := bx_12.on k14; have bd_14 := bd_12.on k14; clear K_12 ky_12 bx_12 bd_12; clear r13 g13 g14)
    | (refine wpList_valueG (o := ⟨some 57, _, _, _, _, _⟩) rfl _ (by exact exec_load1 _ 3 _ rfl ⟨w3.heap.size, 0, none⟩ rfl _ (bx_14.cell (j := 0) rfl) _ Tryd.underlying3 rfl) ?_)
    | (refine wpList_valueG (o := ⟨some 62, _, _, _, _, _⟩) rfl _ (by exact exec_load1 _ 9 _ rfl ⟨w3.heap.size, 1, none⟩ rfl _ (bx_14.cell (j := 1) rfl) _ Tryd.underlying9 rfl) ?_)
    | (refine wpList_valueG (o := ⟨some 68, _, _, _, _, _⟩) rfl _ (by exact exec_load1 _ 9 _ rfl ⟨w3.heap.size, 1, none⟩ rfl _ (bx_14.cell (j := 1) rfl) _ Tryd.underlying9 rfl) ?_)
    | (refine wpList_valueG (o := ⟨some 73, _, _, _, _, _⟩) rfl _ (by exact exec_load1 _ 9 _ rfl ⟨w12.heap.size, 1, none⟩ rfl _ (em_14.cell (j := 1) rfl) _ Tryd.underlying9 rfl) ?_)
    | (refine wpList_valueG (o := ⟨some 78, _, _, _, _, _⟩) rfl _ (by exact exec_load16 _ _ rfl _ rfl tagE HTE.out em_14.tag) ?_)
    | (refine wpList_valueG (o := ⟨some 80, _, _, _, _, _⟩) rfl _ (by exact exec_load16 _ _ rfl _ rfl tag7 HT7.out bx_14.tag) ?_)
    | (refine wpList_valueG (o := ⟨some 81, _, _, _, _, _⟩) rfl (.bool true) (by rw [show (true : Bool) = !(tagE == tag7) by decide]; exact exec_neq16 _ _ _ rfl tagE tag7 HTE.out HT7.out rfl rfl) ?_))
  go_ret
  exact ⟨rfl, B14⟩
end Go.Proofs.YtdgflobdnkopbaaDoor
