/-
  MerkleVerify's walk. Condition: the table of constants as laid.
-/
import Derived.Test.YtpmkjnmddglckaaDoorSan3
namespace Go.Proofs.YtpmkjnmddglckaaDoor
open Go.RowKit

set_option maxRecDepth 100000 in
set_option maxHeartbeats 2000000 in
theorem walkVer (rt leaf : List UInt8) (ht : rt.length = 16) (hl : leaf.length = 16) (z i : Int) (hz0 : 0 ≤ z) (hz1 : z ≤ 255) (A : Option Addr) (q c : Nat) (p : List (List UInt8)) (w : World) (hK : Consts w) (hr : ReadsD w A q p) (hc : q ≤ c) (hq : q ≤ 140737488351232) (h1 : -9223372036854775808 ≤ i) (h2 : i ≤ 9223372036854775807) :
    Calls Tryd.prog 4 #[.agg (bvs rt).toArray, .int .u8 z, .int .i64 i, .agg (bvs leaf).toArray, .slice A q c] w fun e w' => e = .returned (.bool true) ∧ Below w.heap.size w w' := by
  have HT := Lib.hid ht
  have HL := Lib.hid hl
  by_cases h10 : 10 < q
  · go_enter Tryd.func4, Tryd.ntmps4
    go_wp2_with (first
      | (with_reducible refine wpList_box_row (o := ⟨some 5, _, _, _, _, _⟩) rfl _ _ rfl (bvs rt) rfl ?_; intro wa hra hsa hga)
      | (with_reducible refine wpList_box_row (o := ⟨some 8, _, _, _, _, _⟩) rfl _ _ rfl (bvs leaf) rfl ?_; intro wb hrb hsb hgb))
    have hb : Below w.heap.size w wb := below_kept (grown_below hga (Nat.le_refl _) (by simp)) hgb (by omega) (by simp)
    refine (sanity_any _ (hK.on hb)).mono ?_
    rintro e w1 ⟨rfl, hb1⟩
    go_wp2_with fail
    go_ret
    exact ⟨rfl, hb.trans (hb1.mono hb.size)⟩
  obtain ⟨zn, rfl⟩ : ∃ zn : Nat, z = (zn : Int) := ⟨z.toNat, by omega⟩
  obtain ⟨k, hk⟩ : ∃ k, k = zn % 41 := ⟨_, rfl⟩
  have e41 : (zn : Int) % 41 = (k : Int) := by rw [hk]; omega
  have hk40 : k ≤ 40 := by have := Nat.mod_lt zn (show 0 < 41 by omega); omega
  clear hk
  have HV : Hid (∃ v, (∀ W, Consts W → ReadsD W A q p → Calls Tryd.prog 15 #[.agg (bvs rt).toArray, .int .i64 (k : Int), .int .i64 i, .agg (bvs leaf).toArray, .slice A q c] W (TellsB v W)) ∧ ∀ W, ReadsD W A q p → Calls Tryd.prog 16 #[.agg (bvs rt).toArray, .int .i64 (k : Int), .int .i64 i, .agg (bvs leaf).toArray, .slice A q c] W (TellsB v W)) := by
    show ∃ _, _
    by_cases hi : i < 0 ∨ (k : Int) ≤ i
    · exact ⟨false, fun W _ _ => verify_bad A c q k i rt leaf W hi, fun W _ => refVerify_bad A c q k i rt leaf W hi⟩
    · obtain ⟨j, rfl⟩ : ∃ j : Nat, i = (j : Int) := ⟨i.toNat, by omega⟩
      exact ⟨mVerify rt leaf p k j, fun W hKW hW => verify_any A c q k j rt leaf p W hKW ht hl hW hc (by omega) (by omega) (by omega), fun W hW => refVerify_any A c q k j rt leaf p W ht hl hW hc (by omega) (by omega) (by omega)⟩
  obtain ⟨v, hv1, hv2⟩ := HV.out
  clear HV ht hl
  have H1 := fun W a b => Lib.hid (hv1 W a b)
  have H2 := fun W a => Lib.hid (hv2 W a)
  clear hv1 hv2
  have evv : (v == v) = true := by simp
  go_enter Tryd.func4, Tryd.ntmps4
  go_wp2_with (first
    | (with_reducible refine wpList_box_row (o := ⟨some 5, _, _, _, _, _⟩) rfl _ _ rfl (bvs rt) rfl ?_; intro wa hra hsa hga)
    | (with_reducible refine wpList_box_row (o := ⟨some 8, _, _, _, _, _⟩) rfl _ _ rfl (bvs leaf) rfl ?_; intro wb hrb hsb hgb))
  have hb : Below w.heap.size w wb := below_kept (grown_below hga (Nat.le_refl _) (by simp)) hgb (by omega) (by simp)
  have hra' := hra.kept hgb (by simp)
  clear hga hgb hra
  refine (sanity_any _ (hK.on hb)).mono ?_
  rintro e w1 ⟨rfl, hb1⟩
  have hb1' := hb.trans (hb1.mono hb.size)
  have ra := hra'.on hb1
  have rb := hrb.on hb1
  go_wp2_with fail
  have hK0 := hK
  clear hra' hrb
  refine wp_region_plan (fun w' => Row w' w.heap.size 28 (bvs rt) ∧ Row w' wa.heap.size 28 (bvs leaf)) (.take 0 <| .take 1 <| .take 2 <| .take 3 <| .take 4 <| .take 5 <| .take 6 <| .take 8 <| .take 9 <| .take 10 <| .take 11 <| .take 12 <| .one 7 <| .one 13 <| .take 14 <| .take 15 <| .take 16 <| .done) (by kernel_rfl) (by kernel_rfl) (by kernel_rfl) (fun _ _ _ _ _ h => h) ⟨ra.drew, rb.drew⟩ ?_
  repeat (refine plan_take _ rfl ?_; (first | (refine wpQuiet_valueG (o := ⟨some 23, _, _, _, _, _⟩) rfl _ (by intro _ h; exact exec_load16 _ _ rfl _ rfl rt HT.out h.1.cells) (wpQuiet_nil ?_); simp only [Act.put, List.setIfInBounds_toArray, List.set_cons_zero, List.set_cons_succ]) | (refine wpQuiet_valueG (o := ⟨some 26, _, _, _, _, _⟩) rfl _ (by intro _ h; exact exec_load16 _ _ rfl _ rfl leaf HL.out h.2.cells) (wpQuiet_nil ?_); simp only [Act.put, List.setIfInBounds_toArray, List.set_cons_zero, List.set_cons_succ]) | (refine wpQuiet_valueG (o := ⟨some 29, _, _, _, _, _⟩) rfl _ (by intro _ h; exact exec_load16 _ _ rfl _ rfl rt HT.out h.1.cells) (wpQuiet_nil ?_); simp only [Act.put, List.setIfInBounds_toArray, List.set_cons_zero, List.set_cons_succ]) | (refine wpQuiet_valueG (o := ⟨some 32, _, _, _, _, _⟩) rfl _ (by intro _ h; exact exec_load16 _ _ rfl _ rfl leaf HL.out h.2.cells) (wpQuiet_nil ?_); simp only [Act.put, List.setIfInBounds_toArray, List.set_cons_zero, List.set_cons_succ]) | (go_big_quiet_step ((intros; rfl)); refine wpQuiet_nil ?_)))
  refine plan_one _ rfl fun K hK => ?_
  go_simp
  refine ((H1 _ (hK0.on hb1'.drew) (hr.on hb1'.drew)).out).mono ?_
  rintro e wx1 ⟨rfl, hx1⟩
  have Bx2 := hb1'.drew.trans (hx1.mono hb1'.drew.size)
  have rax2 := ra.drew.on hx1
  have rbx2 := rb.drew.on hx1
  have Px2 := (hr.on hb1'.drew).on hx1
  have Kx2 := (hK0.on hb1'.drew).on hx1
  refine hK _ _ ⟨rax2, rbx2⟩ ?_
  clear hK K
  refine plan_one _ rfl fun K hK => ?_
  go_simp
  refine ((H2 _ Px2).out).mono ?_
  rintro e wx3 ⟨rfl, hx3⟩
  have Bx4 := Bx2.trans (hx3.mono Bx2.size)
  have rax4 := rax2.on hx3
  have rbx4 := rbx2.on hx3
  have Px4 := Px2.on hx3
  have Kx4 := Kx2.on hx3
  refine hK _ _ ⟨rax4, rbx4⟩ ?_
  clear hK K
  repeat (refine plan_take _ rfl ?_; (first | (refine wpQuiet_valueG (o := ⟨some 23, _, _, _, _, _⟩) rfl _ (by intro _ h; exact exec_load16 _ _ rfl _ rfl rt HT.out h.1.cells) (wpQuiet_nil ?_); simp only [Act.put, List.setIfInBounds_toArray, List.set_cons_zero, List.set_cons_succ]) | (refine wpQuiet_valueG (o := ⟨some 26, _, _, _, _, _⟩) rfl _ (by intro _ h; exact exec_load16 _ _ rfl _ rfl leaf HL.out h.2.cells) (wpQuiet_nil ?_); simp only [Act.put, List.setIfInBounds_toArray, List.set_cons_zero, List.set_cons_succ]) | (refine wpQuiet_valueG (o := ⟨some 29, _, _, _, _, _⟩) rfl _ (by intro _ h; exact exec_load16 _ _ rfl _ rfl rt HT.out h.1.cells) (wpQuiet_nil ?_); simp only [Act.put, List.setIfInBounds_toArray, List.set_cons_zero, List.set_cons_succ]) | (refine wpQuiet_valueG (o := ⟨some 32, _, _, _, _, _⟩) rfl _ (by intro _ h; exact exec_load16 _ _ rfl _ rfl leaf HL.out h.2.cells) (wpQuiet_nil ?_); simp only [Act.put, List.setIfInBounds_toArray, List.set_cons_zero, List.set_cons_succ]) | (go_big_quiet_step ((intros; rfl)); refine wpQuiet_nil ?_)))
  refine plan_done ?_
  go_wp2_with fail
  go_ret
  exact ⟨rfl, Bx4⟩
end Go.Proofs.YtpmkjnmddglckaaDoor
