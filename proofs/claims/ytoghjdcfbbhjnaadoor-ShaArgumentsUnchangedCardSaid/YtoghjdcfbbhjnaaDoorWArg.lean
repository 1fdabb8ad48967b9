/-
  ShaArgumentsUnchanged's walk. Condition: the table of constants as laid.
-/
import Derived.Test.YtoghjdcfbbhjnaaDoorWDig
namespace Go.Proofs.YtoghjdcfbbhjnaaDoor
open Go.RowKit

theorem wpQuiet_valueG {P : Program} {ops : Array Oper} {C : World → Prop} {Q : Act → Prop} {o : Oper} {rest : List Oper} {a : Act} (hw : Region.wanted o (yielded ops a.tmps) = true) (v : Value) (hrun : ∀ w, C w → (execOp a.eval o).run P w = .ok (.value v) w)
    (h : wpQuiet P ops C Q rest (a.put o.dst v)) : wpQuiet P ops C Q (o :: rest) a := by
  show if Region.wanted o (yielded ops a.tmps) then o.quiet P a C (wpQuiet P ops C Q rest) else wpQuiet P ops C Q rest (a.put o.dst undef)
  rw [if_pos hw]
  refine ⟨v, fun w hw => ?_, h⟩
  unfold Oper.quietAt
  rw [hrun w hw]
  exact ⟨rfl, rfl⟩

/-- What the last region reads: both slices, and the five results that were kept. -/
def SA (B nk nb : Nat) (Ak Ab : Option Addr) (key b : List UInt8) (g0 g1 g2 g3 g4 : Nat) (D H1 V S4 : List UInt8) (W : World) : Prop :=
  Reads W B 1 Ak nk (bvs key) ∧ Reads W B 1 Ab nb (bvs b) ∧ Row W g0 28 (bvs D) ∧ Row W g1 24 (bvs H1) ∧ Row W g2 28 (bvs D) ∧ Row W g3 28 (bvs V) ∧ Row W g4 24 (bvs S4)
section
variable {B nk nb : Nat} {Ak Ab : Option Addr} {key b : List UInt8} {g0 g1 g2 g3 g4 : Nat} {D H1 V S4 : List UInt8} {W W' : World}
theorem SA.on (h : SA B nk nb Ak Ab key b g0 g1 g2 g3 g4 D H1 V S4 W) (hb : Below W.heap.size W W') (hB : B ≤ W.heap.size) : SA B nk nb Ak Ab key b g0 g1 g2 g3 g4 D H1 V S4 W' :=
  ⟨h.1.below (hb.mono hB), h.2.1.below (hb.mono hB), h.2.2.1.on hb, h.2.2.2.1.on hb, h.2.2.2.2.1.on hb, h.2.2.2.2.2.1.on hb, h.2.2.2.2.2.2.on hb⟩
theorem SA.k (h : SA B nk nb Ak Ab key b g0 g1 g2 g3 g4 D H1 V S4 W) : Reads W B 1 Ak nk (bvs key) := h.1
theorem SA.kb (h : SA B nk nb Ak Ab key b g0 g1 g2 g3 g4 D H1 V S4 W) : Reads W B 1 Ab nb (bvs b) := h.2.1
theorem SA.r0 (h : SA B nk nb Ak Ab key b g0 g1 g2 g3 g4 D H1 V S4 W) : Row W g0 28 (bvs D) := h.2.2.1
theorem SA.r1 (h : SA B nk nb Ak Ab key b g0 g1 g2 g3 g4 D H1 V S4 W) : Row W g1 24 (bvs H1) := h.2.2.2.1
theorem SA.r2 (h : SA B nk nb Ak Ab key b g0 g1 g2 g3 g4 D H1 V S4 W) : Row W g2 28 (bvs D) := h.2.2.2.2.1
theorem SA.r3 (h : SA B nk nb Ak Ab key b g0 g1 g2 g3 g4 D H1 V S4 W) : Row W g3 28 (bvs V) := h.2.2.2.2.2.1
theorem SA.r4 (h : SA B nk nb Ak Ab key b g0 g1 g2 g3 g4 D H1 V S4 W) : Row W g4 24 (bvs S4) := h.2.2.2.2.2.2
end

set_option maxRecDepth 100000 in
set_option maxHeartbeats 8000000 in
theorem walkArg (t : Int) (Ak Ab : Option Addr) (nk ck nb cb : Nat) (key b : List UInt8) (A : Option Addr) (n c : Nat) (ps : List Part) (w : World) (hK : Consts w) (hrk : Reads w w.heap.size 1 Ak nk (bvs key)) (hck : nk ≤ ck) (hnk : nk ≤ 9223372036854775807) (hrb : Reads w w.heap.size 1 Ab nb (bvs b)) (hcb : nb ≤ cb) (hnb : nb ≤ 9223372036854775807) (hr : ReadsP w w.heap.size A n ps) (hn : n ≤ 9223372036854775807) (hp : ∀ p ∈ ps, p.n ≤ maxLen) :
    Calls Tryd.prog 7 #[.agg #[.slice Ak nk ck, .slice Ab nb cb, .int .i64 t, .slice A n c]] w fun e w' => e = .returned (.bool true) ∧ Below w.heap.size w w' := by
  have hb0 : Below w.heap.size w (w.alloc (.cells #[.slice Ak nk ck, .slice Ab nb cb, .int .i64 t, .slice A n c] 43)) := (Below.refl _ _).alloc (Nat.le_refl _) _
  by_cases h1 : 300 < nk
  · go_enter Tryd.func7, Tryd.ntmps7
    go_wp2_with fail
    refine (sanity_any _ (hK.on hb0)).mono ?_
    rintro e w1 ⟨rfl, hb1⟩
    have hb1 := hb0.trans (hb1.mono (by simp))
    go_wp2_with fail
    go_ret
    exact ⟨rfl, hb1⟩
  by_cases h2 : 300 < nb
  · go_enter Tryd.func7, Tryd.ntmps7
    go_wp2_with fail
    refine (sanity_any _ (hK.on hb0)).mono ?_
    rintro e w1 ⟨rfl, hb1⟩
    have hb1 := hb0.trans (hb1.mono (by simp))
    go_wp2_with fail
    go_ret
    exact ⟨rfl, hb1⟩
  cases hsh : shortB ps with
  | false =>
    have HSH := Lib.hid hsh
    clear hsh
    go_enter Tryd.func7, Tryd.ntmps7
    go_wp2_with fail
    refine (sanity_any _ (hK.on hb0)).mono ?_
    rintro e w1 ⟨rfl, hb1⟩
    have hb1 := hb0.trans (hb1.mono (by simp))
    go_wp2_with fail
    refine (short_big A c ps n w1 (hr.on hb1) hn hp).mono ?_
    rintro e w2 ⟨rfl, rfl⟩
    rw [HSH.out]
    go_wp2_with fail
    go_ret
    exact ⟨rfl, hb1⟩
  | true =>
    have HSH := Lib.hid hsh
    have HSB := Lib.hid (shortB_of hsh)
    have HRL := Lib.hid hr.len
    have HBL := Lib.hid hrb.bytes_len
    clear hsh
    have hds := fun (W : World) hKW hrW => Lib.hid (digest_any t A c ps n W hKW hrW (by have := HSB.out.1; have := HRL.out; omega) HSB.out.2)
    have hdr := fun (W : World) hrW => Lib.hid (refDigest_any t A c ps n W hrW (by have := HSB.out.1; have := HRL.out; omega) HSB.out.2)
    have hvs := fun (W : World) hKW hrk hrW => Lib.hid (derive_any Ak ck key nk ⟨b.toArray⟩ A c ps n W hKW hrk hck (by omega) (by show b.toArray.size ≤ 300; rw [List.size_toArray, HBL.out]; omega) hrW (by have := HSB.out.1; have := HRL.out; omega) HSB.out.2)
    have hcs := fun W hKW hrW => Lib.hid (sum_any Ab cb b nb W hKW hrW hcb (by omega))
    have hhs := fun W hKW hrW hrW2 => Lib.hid (hmac_any Ak Ab ck cb key b nk nb W hKW hrW hck (by omega) hrW2 hcb (by omega))
    have HDL := Lib.hid (dig_len t ps)
    have HVL := Lib.hid (drv_len key (ByteArray.mk b.toArray).data.toList ps)
    have HSL := Lib.hid (sha_len b)
    have HHL := Lib.hid (hmac_len key b)
    generalize dig t ps = D at *
    generalize drv key (ByteArray.mk b.toArray).data.toList ps = V at *
    generalize sha b = S4 at *
    generalize hmac key b = H1 at *
    have q1 := eq16 D HDL.out
    have q2 := eq16 V HVL.out
    have q3 := eq32 S4 HSL.out
    have q4 := eq32 H1 HHL.out
    go_enter Tryd.func7, Tryd.ntmps7
    go_wp2_with fail
    refine (sanity_any _ (hK.on hb0)).mono ?_
    rintro e w1 ⟨rfl, hb1⟩
    have hb1 := hb0.trans (hb1.mono (by simp))
    go_wp2_with fail
    refine (short_big A c ps n w1 (hr.on hb1) hn hp).mono ?_
    rintro e w2 ⟨rfl, rfl⟩
    rw [HSH.out]
    have hrk1 := hrk.on hb1
    have hrb1 := hrb.on hb1
    go_wp2_with (first
      | (refine wpList_valueW (o := ⟨some 39, _, _, _, _, _⟩) rfl _ (by exact exec_string_of _ _ _ _ _ rfl Tryd.underlying22 Tryd.underlying5 Tryd.underlying9 rfl hrk1) ?_)
      | (refine wpList_valueW (o := ⟨some 41, _, _, _, _, _⟩) rfl _ (by exact exec_string_of _ _ _ _ _ rfl Tryd.underlying22 Tryd.underlying5 Tryd.underlying9 rfl hrb1) ?_))
    refine (hdr _ (hr.on hb1)).out.mono ?_
    rintro e wa0 ⟨rfl, ha0⟩
    have hba0 := hb1.trans (ha0.mono hb1.size)
    go_wp2_with (first
      | (with_reducible refine wpList_alloc_row (o := ⟨some 10, _, _, _, _, _⟩) rfl _ rfl zeros16 zero_b16 ?_; intro wb0 hrowb0 hsb0 hgb0)
      | ((with_reducible refine wpList_at ⟨none, .store 28 _ _, _, _, _, _⟩ ?_); refine wpList_store_all rfl _ _ _ rfl wa0.heap.size rfl _ _ hrowb0 (bvs D) rfl (bvs_one _) (b16_zeros _ HDL.out) (b16_size _ HDL.out) ?_; intro wc0 hrow0 hgc0))
    have hac0 : Below wa0.heap.size wa0 wc0 := below_kept (grown_below hgb0 (Nat.le_refl _) (by simp)) hgc0 (by omega) (by rintro k hk; cases hk; exact Nat.le_refl _)
    have hbc0 := hba0.trans (hac0.mono hba0.size)
    clear ha0 hrowb0 hgb0 hgc0 hac0
    refine (hhs _ (hK.on hbc0) (hrk.on hbc0) (hrb.on hbc0)).out.mono ?_
    rintro e wa1 ⟨rfl, ha1⟩
    have hba1 := hbc0.trans (ha1.mono hbc0.size)
    go_wp2_with (first
      | (with_reducible refine wpList_alloc_row (o := ⟨some 11, _, _, _, _, _⟩) rfl _ rfl zeros32 zero_b32 ?_; intro wb1 hrowb1 hsb1 hgb1)
      | ((with_reducible refine wpList_at ⟨none, .store 24 _ _, _, _, _, _⟩ ?_); refine wpList_store_all rfl _ _ _ rfl wa1.heap.size rfl _ _ hrowb1 (bvs H1) rfl (bvs_one _) (b32_zeros _ HHL.out) (b32_size _ HHL.out) ?_; intro wc1 hrow1 hgc1))
    have hac1 : Below wa1.heap.size wa1 wc1 := below_kept (grown_below hgb1 (Nat.le_refl _) (by simp)) hgc1 (by omega) (by rintro k hk; cases hk; exact Nat.le_refl _)
    have hbc1 := hba1.trans (hac1.mono hba1.size)
    have hrow0 := (hrow0.on ha1).on hac1
    clear ha1 hrowb1 hgb1 hgc1 hac1
    refine (hds _ (hK.on hbc1) (hr.on hbc1)).out.mono ?_
    rintro e wa2 ⟨rfl, ha2⟩
    have hba2 := hbc1.trans (ha2.mono hbc1.size)
    go_wp2_with (first
      | (with_reducible refine wpList_alloc_row (o := ⟨some 12, _, _, _, _, _⟩) rfl _ rfl zeros16 zero_b16 ?_; intro wb2 hrowb2 hsb2 hgb2)
      | ((with_reducible refine wpList_at ⟨none, .store 28 _ _, _, _, _, _⟩ ?_); refine wpList_store_all rfl _ _ _ rfl wa2.heap.size rfl _ _ hrowb2 (bvs D) rfl (bvs_one _) (b16_zeros _ HDL.out) (b16_size _ HDL.out) ?_; intro wc2 hrow2 hgc2))
    have hac2 : Below wa2.heap.size wa2 wc2 := below_kept (grown_below hgb2 (Nat.le_refl _) (by simp)) hgc2 (by omega) (by rintro k hk; cases hk; exact Nat.le_refl _)
    have hbc2 := hba2.trans (hac2.mono hba2.size)
    have hrow0 := (hrow0.on ha2).on hac2
    have hrow1 := (hrow1.on ha2).on hac2
    clear ha2 hrowb2 hgb2 hgc2 hac2
    refine (hvs _ (hK.on hbc2) (hrk.on hbc2) (hr.on hbc2)).out.mono ?_
    rintro e wa3 ⟨rfl, ha3⟩
    have hba3 := hbc2.trans (ha3.mono hbc2.size)
    go_wp2_with (first
      | (with_reducible refine wpList_alloc_row (o := ⟨some 13, _, _, _, _, _⟩) rfl _ rfl zeros16 zero_b16 ?_; intro wb3 hrowb3 hsb3 hgb3)
      | ((with_reducible refine wpList_at ⟨none, .store 28 _ _, _, _, _, _⟩ ?_); refine wpList_store_all rfl _ _ _ rfl wa3.heap.size rfl _ _ hrowb3 (bvs V) rfl (bvs_one _) (b16_zeros _ HVL.out) (b16_size _ HVL.out) ?_; intro wc3 hrow3 hgc3))
    have hac3 : Below wa3.heap.size wa3 wc3 := below_kept (grown_below hgb3 (Nat.le_refl _) (by simp)) hgc3 (by omega) (by rintro k hk; cases hk; exact Nat.le_refl _)
    have hbc3 := hba3.trans (hac3.mono hba3.size)
    have hrow0 := (hrow0.on ha3).on hac3
    have hrow1 := (hrow1.on ha3).on hac3
    have hrow2 := (hrow2.on ha3).on hac3
    clear ha3 hrowb3 hgb3 hgc3 hac3
    refine (hcs _ (hK.on hbc3) (hrb.on hbc3)).out.mono ?_
    rintro e wa4 ⟨rfl, ha4⟩
    have hba4 := hbc3.trans (ha4.mono hbc3.size)
    go_wp2_with (first
      | (with_reducible refine wpList_alloc_row (o := ⟨some 14, _, _, _, _, _⟩) rfl _ rfl zeros32 zero_b32 ?_; intro wb4 hrowb4 hsb4 hgb4)
      | ((with_reducible refine wpList_at ⟨none, .store 24 _ _, _, _, _, _⟩ ?_); refine wpList_store_all rfl _ _ _ rfl wa4.heap.size rfl _ _ hrowb4 (bvs S4) rfl (bvs_one _) (b32_zeros _ HSL.out) (b32_size _ HSL.out) ?_; intro wc4 hrow4 hgc4))
    have hac4 : Below wa4.heap.size wa4 wc4 := below_kept (grown_below hgb4 (Nat.le_refl _) (by simp)) hgc4 (by omega) (by rintro k hk; cases hk; exact Nat.le_refl _)
    have hbc4 := hba4.trans (hac4.mono hba4.size)
    have hrow0 := (hrow0.on ha4).on hac4
    have hrow1 := (hrow1.on ha4).on hac4
    have hrow2 := (hrow2.on ha4).on hac4
    have hrow3 := (hrow3.on ha4).on hac4
    clear ha4 hrowb4 hgb4 hgc4 hac4
    have hbz := hbc4.drew
    have hS : SA w.heap.size nk nb Ak Ab key b wa0.heap.size wa1.heap.size wa2.heap.size wa3.heap.size wa4.heap.size D H1 V S4 wc4.drew := ⟨(hrk.below hbc4).drew, (hrb.below hbc4).drew, hrow0.drew, hrow1.drew, hrow2.drew, hrow3.drew, hrow4.drew⟩
    simp only [Act.put, List.setIfInBounds_toArray, List.set_cons_zero, List.set_cons_succ]
    refine wp_region_plan (SA w.heap.size nk nb Ak Ab key b wa0.heap.size wa1.heap.size wa2.heap.size wa3.heap.size wa4.heap.size D H1 V S4) (.take 0 <| .take 1 <| .take 2 <| .take 3 <| .take 4 <| .take 5 <| .take 6 <| .take 7 <| .take 8 <| .take 9 <| .take 10 <| .take 11 <| .take 12 <| .take 13 <| .take 14 <| .take 15 <| .take 17 <| .one 16 <| .take 18 <| .take 19 <| .take 20 <| .take 21 <| .take 22 <| .take 24 <| .one 23 <| .take 25 <| .take 26 <| .take 27 <| .take 28 <| .take 29 <| .take 31 <| .one 30 <| .take 32 <| .take 33 <| .take 34 <| .take 35 <| .take 36 <| .take 37 <| .take 39 <| .one 38 <| .take 40 <| .take 41 <| .take 42 <| .take 43 <| .take 45 <| .one 44 <| .take 46 <| .take 47 <| .take 48 <| .done) (by kernel_rfl) (by kernel_rfl) (by kernel_rfl) (fun _ _ _ _ _ h => h) hS ?_
    iterate 3 (refine plan_take _ rfl ?_; go_big_quiet_step ((intros; rfl)); refine wpQuiet_nil ?_)
    refine plan_take _ rfl (wpQuiet_valueG (by rfl) _ (fun W hW => exec_string_of _ _ _ _ _ rfl Tryd.underlying22 Tryd.underlying5 Tryd.underlying9 rfl (SA.k hW)) (wpQuiet_nil ?_))
    simp only [Act.put, List.setIfInBounds_toArray, List.set_cons_zero, List.set_cons_succ]
    iterate 5 (refine plan_take _ rfl ?_; go_big_quiet_step ((intros; rfl)); refine wpQuiet_nil ?_)
    refine plan_take _ rfl (wpQuiet_valueG (by rfl) _ (fun W hW => exec_string_of _ _ _ _ _ rfl Tryd.underlying22 Tryd.underlying5 Tryd.underlying9 rfl (SA.kb hW)) (wpQuiet_nil ?_))
    simp only [Act.put, List.setIfInBounds_toArray, List.set_cons_zero, List.set_cons_succ]
    iterate 6 (refine plan_take _ rfl ?_; go_big_quiet_step ((intros; rfl)); refine wpQuiet_nil ?_)
    refine plan_take _ rfl (wpQuiet_valueG (by rfl) _ (fun W hW => exec_load _ _ _ rfl _ rfl (bvs D) (SA.r0 hW).cells _ Tryd.underlying28 rfl (b16_size _ HDL.out)) (wpQuiet_nil ?_))
    simp only [Act.put, List.setIfInBounds_toArray, List.set_cons_zero, List.set_cons_succ]
    refine plan_one _ rfl fun K hK2 => ?_
    go_simp
    refine (hdr _ (hr.on hbz)).out.mono ?_
    rintro e wy0 ⟨rfl, hy0⟩
    have hS := hS.on hy0 hbz.size
    have hby0 := hbz.trans (hy0.mono hbz.size)
    refine hK2 _ _ hS ?_
    clear hK2 K
    iterate 5 (refine plan_take _ rfl ?_; go_big_quiet_step ((intros; rfl)); refine wpQuiet_nil ?_)
    refine plan_take _ rfl (wpQuiet_valueG (by rfl) _ (fun W hW => exec_load _ _ _ rfl _ rfl (bvs H1) (SA.r1 hW).cells _ Tryd.underlying24 rfl (b32_size _ HHL.out)) (wpQuiet_nil ?_))
    simp only [Act.put, List.setIfInBounds_toArray, List.set_cons_zero, List.set_cons_succ]
    refine plan_one _ rfl fun K hK2 => ?_
    go_simp
    refine (hhs _ (hK.on hby0) (hrk.on hby0) (hrb.on hby0)).out.mono ?_
    rintro e wy1 ⟨rfl, hy1⟩
    have hS := hS.on hy1 hby0.size
    have hby1 := hby0.trans (hy1.mono hby0.size)
    refine hK2 _ _ hS ?_
    clear hK2 K
    iterate 5 (refine plan_take _ rfl ?_; go_big_quiet_step ((intros; rfl)); refine wpQuiet_nil ?_)
    refine plan_take _ rfl (wpQuiet_valueG (by rfl) _ (fun W hW => exec_load _ _ _ rfl _ rfl (bvs D) (SA.r2 hW).cells _ Tryd.underlying28 rfl (b16_size _ HDL.out)) (wpQuiet_nil ?_))
    simp only [Act.put, List.setIfInBounds_toArray, List.set_cons_zero, List.set_cons_succ]
    refine plan_one _ rfl fun K hK2 => ?_
    go_simp
    refine (hds _ (hK.on hby1) (hr.on hby1)).out.mono ?_
    rintro e wy2 ⟨rfl, hy2⟩
    have hS := hS.on hy2 hby1.size
    have hby2 := hby1.trans (hy2.mono hby1.size)
    refine hK2 _ _ hS ?_
    clear hK2 K
    iterate 6 (refine plan_take _ rfl ?_; go_big_quiet_step ((intros; rfl)); refine wpQuiet_nil ?_)
    refine plan_take _ rfl (wpQuiet_valueG (by rfl) _ (fun W hW => exec_load _ _ _ rfl _ rfl (bvs V) (SA.r3 hW).cells _ Tryd.underlying28 rfl (b16_size _ HVL.out)) (wpQuiet_nil ?_))
    simp only [Act.put, List.setIfInBounds_toArray, List.set_cons_zero, List.set_cons_succ]
    refine plan_one _ rfl fun K hK2 => ?_
    go_simp
    refine (hvs _ (hK.on hby2) (hrk.on hby2) (hr.on hby2)).out.mono ?_
    rintro e wy3 ⟨rfl, hy3⟩
    have hS := hS.on hy3 hby2.size
    have hby3 := hby2.trans (hy3.mono hby2.size)
    refine hK2 _ _ hS ?_
    clear hK2 K
    iterate 4 (refine plan_take _ rfl ?_; go_big_quiet_step ((intros; rfl)); refine wpQuiet_nil ?_)
    refine plan_take _ rfl (wpQuiet_valueG (by rfl) _ (fun W hW => exec_load _ _ _ rfl _ rfl (bvs S4) (SA.r4 hW).cells _ Tryd.underlying24 rfl (b32_size _ HSL.out)) (wpQuiet_nil ?_))
    simp only [Act.put, List.setIfInBounds_toArray, List.set_cons_zero, List.set_cons_succ]
    refine plan_one _ rfl fun K hK2 => ?_
    go_simp
    refine (hcs _ (hK.on hby3) (hrb.on hby3)).out.mono ?_
    rintro e wy4 ⟨rfl, hy4⟩
    have hS := hS.on hy4 hby3.size
    have hby4 := hby3.trans (hy4.mono hby3.size)
    refine hK2 _ _ hS ?_
    clear hK2 K
    iterate 3 (refine plan_take _ rfl ?_; go_big_quiet_step ((intros; rfl)); refine wpQuiet_nil ?_)
    refine plan_done ?_
    go_wp2_with fail
    go_ret
    exact ⟨rfl, hby4⟩
end Go.Proofs.YtoghjdcfbbhjnaaDoor
