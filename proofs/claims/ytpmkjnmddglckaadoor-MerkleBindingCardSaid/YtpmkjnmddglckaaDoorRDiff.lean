/-
  What the reference's Differs returns: a contract by a walk, by induction on the number of leaves. Condition: two lists of one length, at most 1000 leaves.
-/
import Derived.Test.YtpmkjnmddglckaaDoorRRoot
import Derived.Test.YtpmkjnmddglckaaDoorGuard
namespace Go.Proofs.YtpmkjnmddglckaaDoor
open Go.RowKit

theorem ReadsD.one_at {w : World} {A : Option Addr} {d : List UInt8} (hr : ReadsD w A 1 [d]) : ∃ ad, A = some ad ∧ ad.block < w.heap.size ∧ d.length = 16 ∧ ∀ j u, (bvs d)[j]? = some u → w.cell? (ad.add j) = some u := by
  obtain ⟨ad, d', rfl, hab, hd', hd, hcl⟩ := hr.1.dig_at hr.2 (k := 0) (by omega)
  simp at hd'
  subst hd'
  exact ⟨ad, rfl, hab, hd, fun j u hu => by simpa using hcl j u hu⟩

set_option maxRecDepth 100000 in
set_option maxHeartbeats 1000000 in
theorem refDiffers_none (A B : Option Addr) (c d : Nat) (w : World) :
    Calls Tryd.prog 18 #[.slice A 0 c, .slice B 0 d] w (TellsB (differs [] []) w) := by
  rw [differs_nil]
  go_enter Tryd.func18, Tryd.ntmps18
  go_wp2_with fail
  go_ret
  exact ⟨rfl, Below.refl _ _⟩

set_option maxRecDepth 100000 in
set_option maxHeartbeats 2000000 in
theorem refDiffers_one (A B : Option Addr) (c d : Nat) (x y : List UInt8) (w : World) (hx : ReadsD w A 1 [x]) (hy : ReadsD w B 1 [y]) :
    Calls Tryd.prog 18 #[.slice A 1 c, .slice B 1 d] w (TellsB (differs [x] [y]) w) := by
  rw [differs_one]
  obtain ⟨ad, rfl, hab, hx16, hcx⟩ := hx.one_at
  obtain ⟨bd, rfl, hbb, hy16, hcy⟩ := hy.one_at
  have HCX := Lib.hid hcx
  have HCY := Lib.hid hcy
  have HX := Lib.hid hx16
  have HY := Lib.hid hy16
  clear hcx hcy hx hy
  have HLX := fun W => Lib.hid (refLeaf_any x hx16 W)
  have HLY := fun W => Lib.hid (refLeaf_any y hy16 W)
  have HMX := Lib.hid (mLeaf_len x)
  have HMY := Lib.hid (mLeaf_len y)
  clear hx16 hy16
  generalize mLeaf x = X at *
  generalize mLeaf y = Y at *
  cases hq : (x == y) with
  | true =>
    have e : (x != y && X == Y) = false := by simp only [bne, hq]; rfl
    rw [e]
    clear e
    go_enter Tryd.func18, Tryd.ntmps18
    go_wp2_with fail
    refine wp_region_plan (fun w' => (∀ j u, (bvs x)[j]? = some u → w'.cell? (ad.add j) = some u) ∧ ∀ j u, (bvs y)[j]? = some u → w'.cell? (bd.add j) = some u) (.take 0 <| .take 1 <| .take 2 <| .take 3 <| .take 4 <| .take 5 <| .take 6 <| .take 7 <| .take 8 <| .take 9 <| .take 10 <| .take 12 <| .take 13 <| .take 14 <| .one 11 <| .one 15 <| .take 16 <| .take 17 <| .take 18 <| .done) (by kernel_rfl) (by kernel_rfl) (by kernel_rfl) (fun _ _ _ _ _ h => h) ⟨HCX.out, HCY.out⟩ ?_
    repeat (refine plan_take _ rfl ?_; (first
        | (refine wpQuiet_valueG (o := ⟨some 25, _, _, _, _, _⟩) rfl _ (by intro _ h; exact exec_load16 _ _ rfl _ rfl x HX.out h.1) (wpQuiet_nil ?_); simp only [Act.put, List.setIfInBounds_toArray, List.set_cons_zero, List.set_cons_succ])
        | (refine wpQuiet_valueG (o := ⟨some 28, _, _, _, _, _⟩) rfl _ (by intro _ h; exact exec_load16 _ _ rfl _ rfl y HY.out h.2) (wpQuiet_nil ?_); simp only [Act.put, List.setIfInBounds_toArray, List.set_cons_zero, List.set_cons_succ])
        | (refine wpQuiet_valueG (o := ⟨some 29, _, _, _, _, _⟩) rfl _ (by intro _ h; exact exec_neq16 _ _ _ rfl x y HX.out HY.out rfl rfl) (wpQuiet_nil ?_); simp only [hq, Bool.not_true, Act.put, List.setIfInBounds_toArray, List.set_cons_zero, List.set_cons_succ])
        | (go_big_quiet_step ((intros; rfl)); refine wpQuiet_nil ?_)))
    refine plan_one _ rfl fun K hK => ?_
    go_simp
    refine hK _ _ ⟨HCX.out, HCY.out⟩ ?_
    clear hK K
    refine plan_one _ rfl fun K hK => ?_
    go_simp
    refine hK _ _ ⟨HCX.out, HCY.out⟩ ?_
    clear hK K
    repeat (refine plan_take _ rfl ?_; go_big_quiet_step ((intros; rfl)); refine wpQuiet_nil ?_)
    refine plan_done ?_
    go_wp2_with fail
    go_ret
    exact ⟨rfl, (Below.refl _ _).drew⟩
  | false =>
    have e : (x != y && X == Y) = (X == Y) := by simp only [bne, hq]; rfl
    rw [e]
    clear e
    go_enter Tryd.func18, Tryd.ntmps18
    go_wp2_with fail
    refine wp_region_plan (fun w' => (∀ j u, (bvs x)[j]? = some u → w'.cell? (ad.add j) = some u) ∧ ∀ j u, (bvs y)[j]? = some u → w'.cell? (bd.add j) = some u) (.take 0 <| .take 1 <| .take 2 <| .take 3 <| .take 4 <| .take 5 <| .take 6 <| .take 7 <| .take 8 <| .take 9 <| .take 10 <| .take 12 <| .take 13 <| .take 14 <| .one 11 <| .one 15 <| .take 16 <| .take 17 <| .take 18 <| .done) (by kernel_rfl) (by kernel_rfl) (by kernel_rfl) (fun _ _ _ _ _ h => h) ⟨HCX.out, HCY.out⟩ ?_
    repeat (refine plan_take _ rfl ?_; (first
        | (refine wpQuiet_valueG (o := ⟨some 25, _, _, _, _, _⟩) rfl _ (by intro _ h; exact exec_load16 _ _ rfl _ rfl x HX.out h.1) (wpQuiet_nil ?_); simp only [Act.put, List.setIfInBounds_toArray, List.set_cons_zero, List.set_cons_succ])
        | (refine wpQuiet_valueG (o := ⟨some 28, _, _, _, _, _⟩) rfl _ (by intro _ h; exact exec_load16 _ _ rfl _ rfl y HY.out h.2) (wpQuiet_nil ?_); simp only [Act.put, List.setIfInBounds_toArray, List.set_cons_zero, List.set_cons_succ])
        | (refine wpQuiet_valueG (o := ⟨some 33, _, _, _, _, _⟩) rfl _ (by intro _ h; exact exec_load16 _ _ rfl _ rfl x HX.out h.1) (wpQuiet_nil ?_); simp only [Act.put, List.setIfInBounds_toArray, List.set_cons_zero, List.set_cons_succ])
        | (refine wpQuiet_valueG (o := ⟨some 37, _, _, _, _, _⟩) rfl _ (by intro _ h; exact exec_load16 _ _ rfl _ rfl y HY.out h.2) (wpQuiet_nil ?_); simp only [Act.put, List.setIfInBounds_toArray, List.set_cons_zero, List.set_cons_succ])
        | (refine wpQuiet_valueG (o := ⟨some 29, _, _, _, _, _⟩) rfl _ (by intro _ h; exact exec_neq16 _ _ _ rfl x y HX.out HY.out rfl rfl) (wpQuiet_nil ?_); simp only [hq, Bool.not_false, Act.put, List.setIfInBounds_toArray, List.set_cons_zero, List.set_cons_succ])
        | (go_big_quiet_step ((intros; rfl)); refine wpQuiet_nil ?_)))
    refine plan_one _ rfl fun K hK => ?_
    go_simp
    refine (HLX _).out.mono ?_
    rintro e w1 ⟨rfl, hb1⟩
    have hc1 : (∀ j u, (bvs x)[j]? = some u → w1.cell? (ad.add j) = some u) ∧ ∀ j u, (bvs y)[j]? = some u → w1.cell? (bd.add j) = some u :=
      ⟨fun j u hu => (hb1.cell (by rw [block_of_add]; exact hab)).trans (HCX.out j u hu), fun j u hu => (hb1.cell (by rw [block_of_add]; exact hbb)).trans (HCY.out j u hu)⟩
    have hb1' : Below w.heap.size w w1 := (Below.refl _ _).drew.trans hb1
    refine hK _ _ hc1 ?_
    clear hK K
    refine plan_one _ rfl fun K hK => ?_
    go_simp
    refine (HLY _).out.mono ?_
    rintro e w2 ⟨rfl, hb2⟩
    have hc2 : (∀ j u, (bvs x)[j]? = some u → w2.cell? (ad.add j) = some u) ∧ ∀ j u, (bvs y)[j]? = some u → w2.cell? (bd.add j) = some u :=
      ⟨fun j u hu => (hb2.cell (Nat.lt_of_lt_of_le (by rw [block_of_add]; exact hab) hb1'.size)).trans (hc1.1 j u hu), fun j u hu => (hb2.cell (Nat.lt_of_lt_of_le (by rw [block_of_add]; exact hbb) hb1'.size)).trans (hc1.2 j u hu)⟩
    have hb2' := hb1'.trans (hb2.mono hb1'.size)
    refine hK _ _ hc2 ?_
    clear hK K
    repeat (refine plan_take _ rfl ?_; (first
        | (refine wpQuiet_valueG (o := ⟨some 39, _, _, _, _, _⟩) rfl _ (by intro _ h; exact exec_eql16 _ _ _ rfl X Y HMX.out HMY.out rfl rfl) (wpQuiet_nil ?_); simp only [Act.put, List.setIfInBounds_toArray, List.set_cons_zero, List.set_cons_succ])
        | (go_big_quiet_step ((intros; rfl)); refine wpQuiet_nil ?_)))
    refine plan_done ?_
    go_wp2_with fail
    go_ret
    exact ⟨rfl, hb2'⟩

set_option maxRecDepth 100000 in
set_option maxHeartbeats 1000000 in
theorem refDiffers_any (m : Nat) : ∀ (A B : Option Addr) (c d n : Nat) (a b : List (List UInt8)) (w : World), n ≤ m → ReadsD w A n a → ReadsD w B n b → n ≤ c → n ≤ d → n ≤ 1000 →
    Calls Tryd.prog 18 #[.slice A n c, .slice B n d] w (TellsB (differs a b) w) := by
  induction m with
  | zero =>
    intro A B c d n a b w hm ha hb hc hd hn
    obtain rfl : n = 0 := by omega
    obtain rfl : a = [] := List.eq_nil_of_length_eq_zero ha.len
    obtain rfl : b = [] := List.eq_nil_of_length_eq_zero hb.len
    exact refDiffers_none A B c d w
  | succ m ih =>
    intro A B c d n a b w hm ha hb hc hd hn
    by_cases h2 : 2 ≤ n
    · obtain ⟨ad, rfl⟩ : ∃ ad, A = some ad := by obtain ⟨ad, h, _⟩ := ha.1.2 (by omega); exact ⟨ad, h⟩
      obtain ⟨bd, rfl⟩ : ∃ bd, B = some bd := by obtain ⟨bd, h, _⟩ := hb.1.2 (by omega); exact ⟨bd, h⟩
      have HS1 := split_pos n
      have HS2 := split_lt h2
      have hal := ha.len
      have ha1 := ha.first (k := split n) (by omega)
      have ha2 := ha.last (k := split n) (cap := c) (by omega) hc
      have hb1 := hb.first (k := split n) (by omega)
      have hb2 := hb.last (k := split n) (cap := d) (by omega) hd
      rw [if_neg (by omega)] at ha2 hb2
      have HSP := fun W => Lib.hid (refSplit_any n h2 (by omega) W)
      have H1 := fun W hW => Lib.hid (refRoot_any 1000 (some ad) c (split n) (a.take (split n)) W (by omega) (ha1.on hW) (by omega) (by omega))
      have H2 := fun W hW => Lib.hid (refRoot_any 1000 (some (ad.add (split n * 16))) (c - split n) (n - split n) (a.drop (split n)) W (by omega) (ha2.on hW) (by omega) (by omega))
      have H3 := fun W hW => Lib.hid (refRoot_any 1000 (some bd) d (split n) (b.take (split n)) W (by omega) (hb1.on hW) (by omega) (by omega))
      have H4 := fun W hW => Lib.hid (refRoot_any 1000 (some (bd.add (split n * 16))) (d - split n) (n - split n) (b.drop (split n)) W (by omega) (hb2.on hW) (by omega) (by omega))
      have G1 := fun W hW => Lib.hid (ih (some ad) (some bd) c d (split n) (a.take (split n)) (b.take (split n)) W (by omega) (ha1.on hW) (hb1.on hW) (by omega) (by omega) (by omega))
      have G2 := fun W hW => Lib.hid (ih (some (ad.add (split n * 16))) (some (bd.add (split n * 16))) (c - split n) (d - split n) (n - split n) (a.drop (split n)) (b.drop (split n)) W (by omega) (ha2.on hW) (hb2.on hW) (by omega) (by omega) (by omega))
      rw [differs_more (by omega), hal]
      have L1 := Lib.hid (root_len (a.take (split n)))
      have L2 := Lib.hid (root_len (a.drop (split n)))
      have L3 := Lib.hid (root_len (b.take (split n)))
      have L4 := Lib.hid (root_len (b.drop (split n)))
      generalize differs (a.take (split n)) (b.take (split n)) = q1 at *
      generalize differs (a.drop (split n)) (b.drop (split n)) = q2 at *
      generalize root (a.take (split n)) = D1 at *
      generalize root (a.drop (split n)) = D2 at *
      generalize root (b.take (split n)) = D3 at *
      generalize root (b.drop (split n)) = D4 at *
      generalize split n = k at *
      clear ha1 ha2 hb1 hb2 ih hal
      obtain ⟨cnd, hcnd⟩ : ∃ cnd, cnd = ((D1 != D3 || D2 != D4) && mNode D1 D2 == mNode D3 D4) := ⟨_, rfl⟩
      rw [← hcnd]
      have HCN := Lib.hid hcnd
      clear hcnd
      go_enter Tryd.func18, Tryd.ntmps18
      go_wp2_with fail
      refine (HSP _).out.mono ?_
      rintro e w1 ⟨rfl, rfl⟩
      clear HSP
      go_wp2_with fail
      refine (H1 _ (Below.refl _ _)).out.mono ?_
      rintro e w2 ⟨rfl, h2b⟩
      go_wp2_with (first
        | (with_reducible refine wpList_alloc_row (o := ⟨some 6, _, _, _, _, _⟩) rfl _ rfl zeros16 zero_b16 ?_; intro wa6 hra6 hsa6 hga6)
        | (with_reducible refine wpList_at ⟨none, .store _ (.tmp 6) _, _, _, _, _⟩ ?_; refine wpList_store_all rfl _ _ _ rfl w2.heap.size rfl _ _ hra6 (bvs D1) rfl (bvs_one _) (b16_zeros _ L1.out) (b16_size _ L1.out) ?_; intro ws6 hrs6 hgs6))
      have hbs6 := below_kept (below_kept h2b hga6 h2b.size (by simp)) hgs6 (by have := h2b.size; omega) (by rintro k hk; cases hk; exact h2b.size)
      have hz6 : w2.heap.size < ws6.heap.size := hrs6.lt
      clear hga6 hgs6 hra6 hsa6
      refine (H2 _ hbs6).out.mono ?_
      rintro e wc6 ⟨rfl, hbc6⟩
      have hbd6 := hbs6.trans (hbc6.mono hbs6.size)
      have hq6_6 := hrs6.on hbc6
      have hlt6_6 := hq6_6.lt
      go_wp2_with (first
        | (with_reducible refine wpList_alloc_row (o := ⟨some 7, _, _, _, _, _⟩) rfl _ rfl zeros16 zero_b16 ?_; intro wa7 hra7 hsa7 hga7)
        | (with_reducible refine wpList_at ⟨none, .store _ (.tmp 7) _, _, _, _, _⟩ ?_; refine wpList_store_all rfl _ _ _ rfl wc6.heap.size rfl _ _ hra7 (bvs D2) rfl (bvs_one _) (b16_zeros _ L2.out) (b16_size _ L2.out) ?_; intro ws7 hrs7 hgs7))
      have hbs7 := below_kept (below_kept hbd6 hga7 hbd6.size (by simp)) hgs7 (by have := hbd6.size; omega) (by rintro k hk; cases hk; exact hbd6.size)
      have hz7 : wc6.heap.size < ws7.heap.size := hrs7.lt
      have hr6_7 := (hq6_6.kept hga7 (by simp)).kept hgs7 (by simp; omega)
      clear hga7 hgs7 hra7 hsa7
      refine (H3 _ hbs7).out.mono ?_
      rintro e wc7 ⟨rfl, hbc7⟩
      have hbd7 := hbs7.trans (hbc7.mono hbs7.size)
      have hq6_7 := hr6_7.on hbc7
      have hlt6_7 := hq6_7.lt
      have hq7_7 := hrs7.on hbc7
      have hlt7_7 := hq7_7.lt
      go_wp2_with (first
        | (with_reducible refine wpList_alloc_row (o := ⟨some 8, _, _, _, _, _⟩) rfl _ rfl zeros16 zero_b16 ?_; intro wa8 hra8 hsa8 hga8)
        | (with_reducible refine wpList_at ⟨none, .store _ (.tmp 8) _, _, _, _, _⟩ ?_; refine wpList_store_all rfl _ _ _ rfl wc7.heap.size rfl _ _ hra8 (bvs D3) rfl (bvs_one _) (b16_zeros _ L3.out) (b16_size _ L3.out) ?_; intro ws8 hrs8 hgs8))
      have hbs8 := below_kept (below_kept hbd7 hga8 hbd7.size (by simp)) hgs8 (by have := hbd7.size; omega) (by rintro k hk; cases hk; exact hbd7.size)
      have hz8 : wc7.heap.size < ws8.heap.size := hrs8.lt
      have hr6_8 := (hq6_7.kept hga8 (by simp)).kept hgs8 (by simp; omega)
      have hr7_8 := (hq7_7.kept hga8 (by simp)).kept hgs8 (by simp; omega)
      clear hga8 hgs8 hra8 hsa8
      refine (H4 _ hbs8).out.mono ?_
      rintro e wc8 ⟨rfl, hbc8⟩
      have hbd8 := hbs8.trans (hbc8.mono hbs8.size)
      have hq6_8 := hr6_8.on hbc8
      have hlt6_8 := hq6_8.lt
      have hq7_8 := hr7_8.on hbc8
      have hlt7_8 := hq7_8.lt
      have hq8_8 := hrs8.on hbc8
      have hlt8_8 := hq8_8.lt
      go_wp2_with (first
        | (with_reducible refine wpList_alloc_row (o := ⟨some 9, _, _, _, _, _⟩) rfl _ rfl zeros16 zero_b16 ?_; intro wa9 hra9 hsa9 hga9)
        | (with_reducible refine wpList_at ⟨none, .store _ (.tmp 9) _, _, _, _, _⟩ ?_; refine wpList_store_all rfl _ _ _ rfl wc8.heap.size rfl _ _ hra9 (bvs D4) rfl (bvs_one _) (b16_zeros _ L4.out) (b16_size _ L4.out) ?_; intro ws9 hrs9 hgs9))
      have hbs9 := below_kept (below_kept hbd8 hga9 hbd8.size (by simp)) hgs9 (by have := hbd8.size; omega) (by rintro k hk; cases hk; exact hbd8.size)
      have hz9 : wc8.heap.size < ws9.heap.size := hrs9.lt
      have hr6_9 := (hq6_8.kept hga9 (by simp)).kept hgs9 (by simp; omega)
      have hr7_9 := (hq7_8.kept hga9 (by simp)).kept hgs9 (by simp; omega)
      have hr8_9 := (hq8_8.kept hga9 (by simp)).kept hgs9 (by simp; omega)
      clear hga9 hgs9 hra9 hsa9
      simp only [Act.put, List.setIfInBounds_toArray, List.set_cons_zero, List.set_cons_succ]
      go_cut [76] (fun s76 wc => s76 = .bool cnd ∧ Below w1.heap.size w1 wc)
      case first =>
        cases hq1 : (D1 == D3)
        · have hv : cnd = (mNode D1 D2 == mNode D3 D4) := by rw [HCN.out]; simp only [bne, hq1]; rfl
          have HV := Lib.hid hv
          clear hv
          refine wp_region_plan (fun w' => Row w' w2.heap.size 28 (bvs D1) ∧ Row w' wc6.heap.size 28 (bvs D2) ∧ Row w' wc7.heap.size 28 (bvs D3) ∧ Row w' wc8.heap.size 28 (bvs D4)) (.take 0 <| .take 1 <| .take 2 <| .take 3 <| .take 4 <| .take 5 <| .take 6 <| .take 7 <| .take 8 <| .take 9 <| .take 10 <| .take 12 <| .take 13 <| .one 11 <| .one 14 <| .take 15 <| .take 16 <| .done) (by kernel_rfl) (by kernel_rfl) (by kernel_rfl) (fun _ _ _ _ _ h => h) ⟨hr6_9.drew, hr7_9.drew, hr8_9.drew, hrs9.drew⟩ ?_
          repeat (refine plan_take _ rfl ?_; (first
            | (refine wpQuiet_valueG (o := ⟨some 60, _, _, _, _, _⟩) rfl _ (by intro _ h; exact exec_load16 _ _ rfl _ rfl D1 L1.out h.1.cells) (wpQuiet_nil ?_); simp only [Act.put, List.setIfInBounds_toArray, List.set_cons_zero, List.set_cons_succ])
            | (refine wpQuiet_valueG (o := ⟨some 61, _, _, _, _, _⟩) rfl _ (by intro _ h; exact exec_load16 _ _ rfl _ rfl D3 L3.out h.2.2.1.cells) (wpQuiet_nil ?_); simp only [Act.put, List.setIfInBounds_toArray, List.set_cons_zero, List.set_cons_succ])
            | (refine wpQuiet_valueG (o := ⟨some 62, _, _, _, _, _⟩) rfl _ (by intro _ h; exact exec_neq16 _ _ _ rfl D1 D3 L1.out L3.out rfl rfl) (wpQuiet_nil ?_); simp only [hq1, Bool.not_false, Act.put, List.setIfInBounds_toArray, List.set_cons_zero, List.set_cons_succ])
            | (refine wpQuiet_valueG (o := ⟨some 69, _, _, _, _, _⟩) rfl _ (by intro _ h; exact exec_load16 _ _ rfl _ rfl D1 L1.out h.1.cells) (wpQuiet_nil ?_); simp only [Act.put, List.setIfInBounds_toArray, List.set_cons_zero, List.set_cons_succ])
            | (refine wpQuiet_valueG (o := ⟨some 70, _, _, _, _, _⟩) rfl _ (by intro _ h; exact exec_load16 _ _ rfl _ rfl D2 L2.out h.2.1.cells) (wpQuiet_nil ?_); simp only [Act.put, List.setIfInBounds_toArray, List.set_cons_zero, List.set_cons_succ])
            | (refine wpQuiet_valueG (o := ⟨some 72, _, _, _, _, _⟩) rfl _ (by intro _ h; exact exec_load16 _ _ rfl _ rfl D3 L3.out h.2.2.1.cells) (wpQuiet_nil ?_); simp only [Act.put, List.setIfInBounds_toArray, List.set_cons_zero, List.set_cons_succ])
            | (refine wpQuiet_valueG (o := ⟨some 73, _, _, _, _, _⟩) rfl _ (by intro _ h; exact exec_load16 _ _ rfl _ rfl D4 L4.out h.2.2.2.cells) (wpQuiet_nil ?_); simp only [Act.put, List.setIfInBounds_toArray, List.set_cons_zero, List.set_cons_succ])
            | (go_big_quiet_step ((intros; rfl)); refine wpQuiet_nil ?_)))
          refine plan_one _ rfl fun K hK => ?_
          go_simp
          refine (refNode_any D1 D2 L1.out L2.out _).mono ?_
          rintro e wx ⟨rfl, hbx⟩
          have hbx' := hbs9.drew.trans (hbx.mono hbs9.size)
          refine hK _ _ ⟨hr6_9.drew.on hbx, hr7_9.drew.on hbx, hr8_9.drew.on hbx, hrs9.drew.on hbx⟩ ?_
          clear hK K
          refine plan_one _ rfl fun K hK => ?_
          go_simp
          refine (refNode_any D3 D4 L3.out L4.out _).mono ?_
          rintro e wy ⟨rfl, hby⟩
          have hby' := hbx'.trans (hby.mono hbx'.size)
          refine hK _ _ ⟨(hr6_9.drew.on hbx).on hby, (hr7_9.drew.on hbx).on hby, (hr8_9.drew.on hbx).on hby, (hrs9.drew.on hbx).on hby⟩ ?_
          clear hK K
          repeat (refine plan_take _ rfl ?_; (first
            | (refine wpQuiet_valueG (o := ⟨some 75, _, _, _, _, _⟩) rfl _ (by intro _ h; exact exec_eql16 _ _ _ rfl (mNode D1 D2) (mNode D3 D4) (mNode_len _ _) (mNode_len _ _) rfl rfl) (wpQuiet_nil ?_); simp only [Act.put, List.setIfInBounds_toArray, List.set_cons_zero, List.set_cons_succ])
            | (go_big_quiet_step ((intros; rfl)); refine wpQuiet_nil ?_)))
          refine plan_done ?_
          go_wp2_with fail
          go_meet
          exact ⟨congrArg Value.bool HV.out.symm, hby'⟩
        · cases hq2 : (D2 == D4)
          · have hv : cnd = (mNode D1 D2 == mNode D3 D4) := by rw [HCN.out]; simp only [bne, hq1, hq2]; rfl
            have HV := Lib.hid hv
            clear hv
            refine wp_region_plan (fun w' => Row w' w2.heap.size 28 (bvs D1) ∧ Row w' wc6.heap.size 28 (bvs D2) ∧ Row w' wc7.heap.size 28 (bvs D3) ∧ Row w' wc8.heap.size 28 (bvs D4)) (.take 0 <| .take 1 <| .take 2 <| .take 3 <| .take 4 <| .take 5 <| .take 6 <| .take 7 <| .take 8 <| .take 9 <| .take 10 <| .take 12 <| .take 13 <| .one 11 <| .one 14 <| .take 15 <| .take 16 <| .done) (by kernel_rfl) (by kernel_rfl) (by kernel_rfl) (fun _ _ _ _ _ h => h) ⟨hr6_9.drew, hr7_9.drew, hr8_9.drew, hrs9.drew⟩ ?_
            repeat (refine plan_take _ rfl ?_; (first
              | (refine wpQuiet_valueG (o := ⟨some 60, _, _, _, _, _⟩) rfl _ (by intro _ h; exact exec_load16 _ _ rfl _ rfl D1 L1.out h.1.cells) (wpQuiet_nil ?_); simp only [Act.put, List.setIfInBounds_toArray, List.set_cons_zero, List.set_cons_succ])
              | (refine wpQuiet_valueG (o := ⟨some 61, _, _, _, _, _⟩) rfl _ (by intro _ h; exact exec_load16 _ _ rfl _ rfl D3 L3.out h.2.2.1.cells) (wpQuiet_nil ?_); simp only [Act.put, List.setIfInBounds_toArray, List.set_cons_zero, List.set_cons_succ])
              | (refine wpQuiet_valueG (o := ⟨some 62, _, _, _, _, _⟩) rfl _ (by intro _ h; exact exec_neq16 _ _ _ rfl D1 D3 L1.out L3.out rfl rfl) (wpQuiet_nil ?_); simp only [hq1, Bool.not_true, Act.put, List.setIfInBounds_toArray, List.set_cons_zero, List.set_cons_succ])
              | (refine wpQuiet_valueG (o := ⟨some 64, _, _, _, _, _⟩) rfl _ (by intro _ h; exact exec_load16 _ _ rfl _ rfl D2 L2.out h.2.1.cells) (wpQuiet_nil ?_); simp only [Act.put, List.setIfInBounds_toArray, List.set_cons_zero, List.set_cons_succ])
              | (refine wpQuiet_valueG (o := ⟨some 65, _, _, _, _, _⟩) rfl _ (by intro _ h; exact exec_load16 _ _ rfl _ rfl D4 L4.out h.2.2.2.cells) (wpQuiet_nil ?_); simp only [Act.put, List.setIfInBounds_toArray, List.set_cons_zero, List.set_cons_succ])
              | (refine wpQuiet_valueG (o := ⟨some 66, _, _, _, _, _⟩) rfl _ (by intro _ h; exact exec_neq16 _ _ _ rfl D2 D4 L2.out L4.out rfl rfl) (wpQuiet_nil ?_); simp only [hq2, Bool.not_false, Act.put, List.setIfInBounds_toArray, List.set_cons_zero, List.set_cons_succ])
              | (refine wpQuiet_valueG (o := ⟨some 69, _, _, _, _, _⟩) rfl _ (by intro _ h; exact exec_load16 _ _ rfl _ rfl D1 L1.out h.1.cells) (wpQuiet_nil ?_); simp only [Act.put, List.setIfInBounds_toArray, List.set_cons_zero, List.set_cons_succ])
              | (refine wpQuiet_valueG (o := ⟨some 70, _, _, _, _, _⟩) rfl _ (by intro _ h; exact exec_load16 _ _ rfl _ rfl D2 L2.out h.2.1.cells) (wpQuiet_nil ?_); simp only [Act.put, List.setIfInBounds_toArray, List.set_cons_zero, List.set_cons_succ])
              | (refine wpQuiet_valueG (o := ⟨some 72, _, _, _, _, _⟩) rfl _ (by intro _ h; exact exec_load16 _ _ rfl _ rfl D3 L3.out h.2.2.1.cells) (wpQuiet_nil ?_); simp only [Act.put, List.setIfInBounds_toArray, List.set_cons_zero, List.set_cons_succ])
              | (refine wpQuiet_valueG (o := ⟨some 73, _, _, _, _, _⟩) rfl _ (by intro _ h; exact exec_load16 _ _ rfl _ rfl D4 L4.out h.2.2.2.cells) (wpQuiet_nil ?_); simp only [Act.put, List.setIfInBounds_toArray, List.set_cons_zero, List.set_cons_succ])
              | (go_big_quiet_step ((intros; rfl)); refine wpQuiet_nil ?_)))
            refine plan_one _ rfl fun K hK => ?_
            go_simp
            refine (refNode_any D1 D2 L1.out L2.out _).mono ?_
            rintro e wx ⟨rfl, hbx⟩
            have hbx' := hbs9.drew.trans (hbx.mono hbs9.size)
            refine hK _ _ ⟨hr6_9.drew.on hbx, hr7_9.drew.on hbx, hr8_9.drew.on hbx, hrs9.drew.on hbx⟩ ?_
            clear hK K
            refine plan_one _ rfl fun K hK => ?_
            go_simp
            refine (refNode_any D3 D4 L3.out L4.out _).mono ?_
            rintro e wy ⟨rfl, hby⟩
            have hby' := hbx'.trans (hby.mono hbx'.size)
            refine hK _ _ ⟨(hr6_9.drew.on hbx).on hby, (hr7_9.drew.on hbx).on hby, (hr8_9.drew.on hbx).on hby, (hrs9.drew.on hbx).on hby⟩ ?_
            clear hK K
            repeat (refine plan_take _ rfl ?_; (first
              | (refine wpQuiet_valueG (o := ⟨some 75, _, _, _, _, _⟩) rfl _ (by intro _ h; exact exec_eql16 _ _ _ rfl (mNode D1 D2) (mNode D3 D4) (mNode_len _ _) (mNode_len _ _) rfl rfl) (wpQuiet_nil ?_); simp only [Act.put, List.setIfInBounds_toArray, List.set_cons_zero, List.set_cons_succ])
              | (go_big_quiet_step ((intros; rfl)); refine wpQuiet_nil ?_)))
            refine plan_done ?_
            go_wp2_with fail
            go_meet
            exact ⟨congrArg Value.bool HV.out.symm, hby'⟩
          · have hv : cnd = false := by rw [HCN.out]; simp only [bne, hq1, hq2]; rfl
            have HV := Lib.hid hv
            clear hv
            refine wp_region_plan (fun w' => Row w' w2.heap.size 28 (bvs D1) ∧ Row w' wc6.heap.size 28 (bvs D2) ∧ Row w' wc7.heap.size 28 (bvs D3) ∧ Row w' wc8.heap.size 28 (bvs D4)) (.take 0 <| .take 1 <| .take 2 <| .take 3 <| .take 4 <| .take 5 <| .take 6 <| .take 7 <| .take 8 <| .take 9 <| .take 10 <| .take 12 <| .take 13 <| .one 11 <| .one 14 <| .take 15 <| .take 16 <| .done) (by kernel_rfl) (by kernel_rfl) (by kernel_rfl) (fun _ _ _ _ _ h => h) ⟨hr6_9.drew, hr7_9.drew, hr8_9.drew, hrs9.drew⟩ ?_
            repeat (refine plan_take _ rfl ?_; (first
              | (refine wpQuiet_valueG (o := ⟨some 60, _, _, _, _, _⟩) rfl _ (by intro _ h; exact exec_load16 _ _ rfl _ rfl D1 L1.out h.1.cells) (wpQuiet_nil ?_); simp only [Act.put, List.setIfInBounds_toArray, List.set_cons_zero, List.set_cons_succ])
              | (refine wpQuiet_valueG (o := ⟨some 61, _, _, _, _, _⟩) rfl _ (by intro _ h; exact exec_load16 _ _ rfl _ rfl D3 L3.out h.2.2.1.cells) (wpQuiet_nil ?_); simp only [Act.put, List.setIfInBounds_toArray, List.set_cons_zero, List.set_cons_succ])
              | (refine wpQuiet_valueG (o := ⟨some 62, _, _, _, _, _⟩) rfl _ (by intro _ h; exact exec_neq16 _ _ _ rfl D1 D3 L1.out L3.out rfl rfl) (wpQuiet_nil ?_); simp only [hq1, Bool.not_true, Act.put, List.setIfInBounds_toArray, List.set_cons_zero, List.set_cons_succ])
              | (refine wpQuiet_valueG (o := ⟨some 64, _, _, _, _, _⟩) rfl _ (by intro _ h; exact exec_load16 _ _ rfl _ rfl D2 L2.out h.2.1.cells) (wpQuiet_nil ?_); simp only [Act.put, List.setIfInBounds_toArray, List.set_cons_zero, List.set_cons_succ])
              | (refine wpQuiet_valueG (o := ⟨some 65, _, _, _, _, _⟩) rfl _ (by intro _ h; exact exec_load16 _ _ rfl _ rfl D4 L4.out h.2.2.2.cells) (wpQuiet_nil ?_); simp only [Act.put, List.setIfInBounds_toArray, List.set_cons_zero, List.set_cons_succ])
              | (refine wpQuiet_valueG (o := ⟨some 66, _, _, _, _, _⟩) rfl _ (by intro _ h; exact exec_neq16 _ _ _ rfl D2 D4 L2.out L4.out rfl rfl) (wpQuiet_nil ?_); simp only [hq2, Bool.not_true, Act.put, List.setIfInBounds_toArray, List.set_cons_zero, List.set_cons_succ])
              | (go_big_quiet_step ((intros; rfl)); refine wpQuiet_nil ?_)))
            refine plan_one _ rfl fun K hK => ?_
            go_simp
            refine hK _ _ ⟨hr6_9.drew, hr7_9.drew, hr8_9.drew, hrs9.drew⟩ ?_
            clear hK K
            refine plan_one _ rfl fun K hK => ?_
            go_simp
            refine hK _ _ ⟨hr6_9.drew, hr7_9.drew, hr8_9.drew, hrs9.drew⟩ ?_
            clear hK K
            repeat (refine plan_take _ rfl ?_; go_big_quiet_step ((intros; rfl)); refine wpQuiet_nil ?_)
            refine plan_done ?_
            go_wp2_with fail
            go_meet
            exact ⟨congrArg Value.bool HV.out.symm, hbs9.drew⟩
      case rest =>
        obtain ⟨rfl, hbc⟩ := hcut
        clear H1 H2 H3 H4
        cases cnd with
        | true =>
          go_wp2_with fail
          go_ret
          exact ⟨rfl, hbc⟩
        | false =>
          go_wp2_with fail
          refine wp_region_plan (fun _ => True) (.take 0 <| .take 1 <| .take 2 <| .take 3 <| .take 4 <| .take 5 <| .one 6 <| .take 7 <| .take 8 <| .take 9 <| .take 10 <| .take 11 <| .take 12 <| .take 13 <| .one 14 <| .take 15 <| .take 16 <| .done) (by kernel_rfl) (by kernel_rfl) (by kernel_rfl) (fun _ _ _ _ _ h => h) trivial ?_
          repeat (refine plan_take _ rfl ?_; go_big_quiet_step ((intros; rfl)); refine wpQuiet_nil ?_)
          refine plan_one _ rfl fun K hK => ?_
          go_simp
          refine (G1 _ hbc.drew).out.mono ?_
          rintro e wx ⟨rfl, hbx⟩
          have hbx' := hbc.drew.trans (hbx.mono hbc.size)
          refine hK _ _ trivial ?_
          clear hK K
          cases q1 with
          | true =>
            repeat (refine plan_take _ rfl ?_; go_big_quiet_step ((intros; rfl)); refine wpQuiet_nil ?_)
            refine plan_one _ rfl fun K hK => ?_
            go_simp
            refine hK _ _ trivial ?_
            clear hK K
            repeat (refine plan_take _ rfl ?_; go_big_quiet_step ((intros; rfl)); refine wpQuiet_nil ?_)
            refine plan_done ?_
            go_wp2_with fail
            go_ret
            exact ⟨rfl, hbx'⟩
          | false =>
            repeat (refine plan_take _ rfl ?_; go_big_quiet_step ((intros; rfl)); refine wpQuiet_nil ?_)
            refine plan_one _ rfl fun K hK => ?_
            go_simp
            refine (G2 _ hbx').out.mono ?_
            rintro e wy ⟨rfl, hby⟩
            have hby' := hbx'.trans (hby.mono hbx'.size)
            refine hK _ _ trivial ?_
            clear hK K
            repeat (refine plan_take _ rfl ?_; go_big_quiet_step ((intros; rfl)); refine wpQuiet_nil ?_)
            refine plan_done ?_
            go_wp2_with fail
            go_ret
            exact ⟨rfl, hby'⟩
    · by_cases h1 : n = 1
      · subst h1
        obtain ⟨x, rfl⟩ := one_of (l := a) (by rw [ha.len]; omega) (by rw [ha.len]; omega)
        obtain ⟨y, rfl⟩ := one_of (l := b) (by rw [hb.len]; omega) (by rw [hb.len]; omega)
        exact refDiffers_one A B c d x y w ha hb
      · obtain rfl : n = 0 := by omega
        obtain rfl : a = [] := List.eq_nil_of_length_eq_zero ha.len
        obtain rfl : b = [] := List.eq_nil_of_length_eq_zero hb.len
        exact refDiffers_none A B c d w
end Go.Proofs.YtpmkjnmddglckaaDoor
