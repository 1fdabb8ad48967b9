/-
  What the reference's Collides returns: a contract by a walk, by induction on the length of the proof. Conditions: an index of the tree; bounded sizes.
-/
import Derived.Test.YtpmkjnmddglckaaDoorRRoot
import Derived.Test.YtpmkjnmddglckaaDoorRComb
import Derived.Test.YtpmkjnmddglckaaDoorRDiff
namespace Go.Proofs.YtpmkjnmddglckaaDoor
open Go.RowKit

/-- The collision that a proof (from the leaf up) of another leaf exhibits. -/
def collL (leaf : List UInt8) (p l : List (List UInt8)) (i : Nat) : Bool := collR leaf p.reverse l i
theorem collL_one (leaf : List UInt8) (p : List (List UInt8)) (d : List UInt8) (i : Nat) : collL leaf p [d] i = (d != leaf && mLeaf d == mLeaf leaf) := collR_one _ _ _ _
theorem collL_nil (leaf : List UInt8) {l : List (List UInt8)} (h : 2 ≤ l.length) (i : Nat) : collL leaf [] l i = false := by
  unfold collL
  rw [List.reverse_nil, collR]
  simp
  omega
theorem collL_left (leaf : List UInt8) {p l : List (List UInt8)} {i q : Nat} {s : List UInt8} (h : 2 ≤ l.length) (hl : p.length = q + 1) (hs : p[q]? = some s) (hi : i < split l.length) :
    collL leaf p l i = ((((combL leaf (p.take q) (split l.length) i).1 != root (l.take (split l.length)) || s != root (l.drop (split l.length))) && mNode (combL leaf (p.take q) (split l.length) i).1 s == mNode (root (l.take (split l.length))) (root (l.drop (split l.length)))) || collL leaf (p.take q) (l.take (split l.length)) i) := by
  unfold collL combL
  rw [rev_snoc hl hs, collR, if_pos h, if_pos hi]
theorem collL_right (leaf : List UInt8) {p l : List (List UInt8)} {i q : Nat} {s : List UInt8} (h : 2 ≤ l.length) (hl : p.length = q + 1) (hs : p[q]? = some s) (hi : ¬ i < split l.length) :
    collL leaf p l i = (((s != root (l.take (split l.length)) || (combL leaf (p.take q) (l.length - split l.length) (i - split l.length)).1 != root (l.drop (split l.length))) && mNode s (combL leaf (p.take q) (l.length - split l.length) (i - split l.length)).1 == mNode (root (l.take (split l.length))) (root (l.drop (split l.length)))) || collL leaf (p.take q) (l.drop (split l.length)) (i - split l.length)) := by
  unfold collL combL
  rw [rev_snoc hl hs, collR, if_pos h, if_neg hi]

set_option maxRecDepth 100000 in
set_option maxHeartbeats 4000000 in
theorem refCollides_nil (A B : Option Addr) (c d n i : Nat) (leaf : List UInt8) (l : List (List UInt8)) (w : World) (hl : l.length = n) (hn : 2 ≤ n) (hi : i < n) :
    Calls Tryd.prog 17 #[.slice A n c, .int .i64 (i : Int), .agg (bvs leaf).toArray, .slice B 0 d] w (TellsB (collL leaf [] l i) w) := by
  rw [collL_nil leaf (by omega)]
  have hin : ¬ n ≤ i := by omega
  clear hl
  go_enter Tryd.func17, Tryd.ntmps17
  go_wp2_with (with_reducible refine wpList_box_row (o := ⟨some 6, _, _, _, _, _⟩) rfl _ _ rfl (bvs leaf) rfl ?_; intro w1 hrl hs1 hg1)
  go_ret
  exact ⟨rfl, grown_below hg1 (Nat.le_refl _) (by simp)⟩

set_option maxRecDepth 100000 in
set_option maxHeartbeats 4000000 in
theorem refCollides_one (A B : Option Addr) (c q d : Nat) (x leaf : List UInt8) (p : List (List UInt8)) (w : World) (hx : ReadsD w A 1 [x]) (hl : leaf.length = 16) :
    Calls Tryd.prog 17 #[.slice A 1 c, .int .i64 0, .agg (bvs leaf).toArray, .slice B q d] w (TellsB (collL leaf p [x] 0) w) := by
  rw [collL_one]
  obtain ⟨ad, rfl, hab, hx16, hcx⟩ := hx.one_at
  have HCX := Lib.hid hcx
  have HX := Lib.hid hx16
  have HL := Lib.hid hl
  have HLX := fun W => Lib.hid (refLeaf_any x hx16 W)
  have HLY := fun W => Lib.hid (refLeaf_any leaf hl W)
  have HMX := Lib.hid (mLeaf_len x)
  have HMY := Lib.hid (mLeaf_len leaf)
  clear hx16 hcx hl hx
  generalize mLeaf x = X at *
  generalize mLeaf leaf = Y at *
  cases hq : (x == leaf) with
  | true =>
    have e : (x != leaf && X == Y) = false := by simp only [bne, hq]; rfl
    rw [e]
    clear e
    go_enter Tryd.func17, Tryd.ntmps17
    go_wp2_with (with_reducible refine wpList_box_row (o := ⟨some 6, _, _, _, _, _⟩) rfl _ _ rfl (bvs leaf) rfl ?_; intro w1 hrl hs1 hg1)
    have hb1 : Below w.heap.size w w1 := grown_below hg1 (Nat.le_refl _) (by simp)
    have hcx1 : ∀ j u, (bvs x)[j]? = some u → w1.drew.cell? (ad.add j) = some u := fun j u hu => (hb1.cell (by rw [block_of_add]; exact hab)).trans (HCX.out j u hu)
    refine wp_region_plan (fun w' => Row w' w.heap.size 28 (bvs leaf) ∧ ∀ j u, (bvs x)[j]? = some u → w'.cell? (ad.add j) = some u) (.take 0 <| .take 1 <| .take 2 <| .take 3 <| .take 4 <| .take 5 <| .take 6 <| .take 7 <| .take 8 <| .take 10 <| .one 9 <| .one 11 <| .take 12 <| .take 13 <| .take 14 <| .done) (by kernel_rfl) (by kernel_rfl) (by kernel_rfl) (fun _ _ _ _ _ h => h) ⟨hrl.drew, hcx1⟩ ?_
    repeat (refine plan_take _ rfl ?_; (first | (refine wpQuiet_valueG (o := ⟨some 30, _, _, _, _, _⟩) rfl _ (by intro _ h; exact exec_load16 _ _ rfl _ rfl x HX.out h.2) (wpQuiet_nil ?_); simp only [Act.put, List.setIfInBounds_toArray, List.set_cons_zero, List.set_cons_succ]) | (refine wpQuiet_valueG (o := ⟨some 31, _, _, _, _, _⟩) rfl _ (by intro _ h; exact exec_load16 _ _ rfl _ rfl leaf HL.out h.1.cells) (wpQuiet_nil ?_); simp only [Act.put, List.setIfInBounds_toArray, List.set_cons_zero, List.set_cons_succ]) | (refine wpQuiet_valueG (o := ⟨some 32, _, _, _, _, _⟩) rfl _ (by intro _ h; exact exec_neq16 _ _ _ rfl x leaf HX.out HL.out rfl rfl) (wpQuiet_nil ?_); simp only [hq, Bool.not_true, Act.put, List.setIfInBounds_toArray, List.set_cons_zero, List.set_cons_succ]) | (go_big_quiet_step ((intros; rfl)); refine wpQuiet_nil ?_)))
    refine plan_one _ rfl fun K hK => ?_
    go_simp
    refine hK _ _ ⟨hrl.drew, hcx1⟩ ?_
    clear hK K
    refine plan_one _ rfl fun K hK => ?_
    go_simp
    refine hK _ _ ⟨hrl.drew, hcx1⟩ ?_
    clear hK K
    repeat (refine plan_take _ rfl ?_; go_big_quiet_step ((intros; rfl)); refine wpQuiet_nil ?_)
    refine plan_done ?_
    go_wp2_with fail
    go_ret
    exact ⟨rfl, hb1.drew⟩
  | false =>
    have e : (x != leaf && X == Y) = (X == Y) := by simp only [bne, hq]; rfl
    rw [e]
    clear e
    go_enter Tryd.func17, Tryd.ntmps17
    go_wp2_with (with_reducible refine wpList_box_row (o := ⟨some 6, _, _, _, _, _⟩) rfl _ _ rfl (bvs leaf) rfl ?_; intro w1 hrl hs1 hg1)
    have hb1 : Below w.heap.size w w1 := grown_below hg1 (Nat.le_refl _) (by simp)
    have hcx1 : ∀ j u, (bvs x)[j]? = some u → w1.drew.cell? (ad.add j) = some u := fun j u hu => (hb1.cell (by rw [block_of_add]; exact hab)).trans (HCX.out j u hu)
    refine wp_region_plan (fun w' => Row w' w.heap.size 28 (bvs leaf) ∧ ∀ j u, (bvs x)[j]? = some u → w'.cell? (ad.add j) = some u) (.take 0 <| .take 1 <| .take 2 <| .take 3 <| .take 4 <| .take 5 <| .take 6 <| .take 7 <| .take 8 <| .take 10 <| .one 9 <| .one 11 <| .take 12 <| .take 13 <| .take 14 <| .done) (by kernel_rfl) (by kernel_rfl) (by kernel_rfl) (fun _ _ _ _ _ h => h) ⟨hrl.drew, hcx1⟩ ?_
    repeat (refine plan_take _ rfl ?_; (first | (refine wpQuiet_valueG (o := ⟨some 30, _, _, _, _, _⟩) rfl _ (by intro _ h; exact exec_load16 _ _ rfl _ rfl x HX.out h.2) (wpQuiet_nil ?_); simp only [Act.put, List.setIfInBounds_toArray, List.set_cons_zero, List.set_cons_succ]) | (refine wpQuiet_valueG (o := ⟨some 31, _, _, _, _, _⟩) rfl _ (by intro _ h; exact exec_load16 _ _ rfl _ rfl leaf HL.out h.1.cells) (wpQuiet_nil ?_); simp only [Act.put, List.setIfInBounds_toArray, List.set_cons_zero, List.set_cons_succ]) | (refine wpQuiet_valueG (o := ⟨some 32, _, _, _, _, _⟩) rfl _ (by intro _ h; exact exec_neq16 _ _ _ rfl x leaf HX.out HL.out rfl rfl) (wpQuiet_nil ?_); simp only [hq, Bool.not_false, Act.put, List.setIfInBounds_toArray, List.set_cons_zero, List.set_cons_succ]) | (refine wpQuiet_valueG (o := ⟨some 36, _, _, _, _, _⟩) rfl _ (by intro _ h; exact exec_load16 _ _ rfl _ rfl x HX.out h.2) (wpQuiet_nil ?_); simp only [Act.put, List.setIfInBounds_toArray, List.set_cons_zero, List.set_cons_succ]) | (refine wpQuiet_valueG (o := ⟨some 38, _, _, _, _, _⟩) rfl _ (by intro _ h; exact exec_load16 _ _ rfl _ rfl leaf HL.out h.1.cells) (wpQuiet_nil ?_); simp only [Act.put, List.setIfInBounds_toArray, List.set_cons_zero, List.set_cons_succ]) | (go_big_quiet_step ((intros; rfl)); refine wpQuiet_nil ?_)))
    refine plan_one _ rfl fun K hK => ?_
    go_simp
    refine (HLX _).out.mono ?_
    rintro e w2 ⟨rfl, hb2⟩
    have hb2' := hb1.drew.trans (hb2.mono hb1.size)
    have hcx2 : ∀ j u, (bvs x)[j]? = some u → w2.cell? (ad.add j) = some u := fun j u hu => (hb2'.cell (by rw [block_of_add]; exact hab)).trans (HCX.out j u hu)
    refine hK _ _ ⟨hrl.drew.on hb2, hcx2⟩ ?_
    clear hK K
    refine plan_one _ rfl fun K hK => ?_
    go_simp
    refine (HLY _).out.mono ?_
    rintro e w3 ⟨rfl, hb3⟩
    have hb3' := hb2'.trans (hb3.mono hb2'.size)
    refine hK _ _ ⟨(hrl.drew.on hb2).on hb3, fun j u hu => (hb3'.cell (by rw [block_of_add]; exact hab)).trans (HCX.out j u hu)⟩ ?_
    clear hK K
    repeat (refine plan_take _ rfl ?_; (first | (refine wpQuiet_valueG (o := ⟨some 40, _, _, _, _, _⟩) rfl _ (by intro _ h; exact exec_eql16 _ _ _ rfl X Y HMX.out HMY.out rfl rfl) (wpQuiet_nil ?_); simp only [Act.put, List.setIfInBounds_toArray, List.set_cons_zero, List.set_cons_succ]) | (go_big_quiet_step ((intros; rfl)); refine wpQuiet_nil ?_)))
    refine plan_done ?_
    go_wp2_with fail
    go_ret
    exact ⟨rfl, hb3'⟩

set_option maxRecDepth 100000 in
set_option maxHeartbeats 4000000 in
theorem refCollides_any (m : Nat) : ∀ (A B : Option Addr) (c d n q i : Nat) (leaf : List UInt8) (l p : List (List UInt8)) (w : World), q ≤ m → ReadsD w A n l → ReadsD w B q p → n ≤ c → q ≤ d → n ≤ 1000 → q ≤ 1000 → i < n → leaf.length = 16 →
    Calls Tryd.prog 17 #[.slice A n c, .int .i64 (i : Int), .agg (bvs leaf).toArray, .slice B q d] w (TellsB (collL leaf p l i) w) := by
  induction m with
  | zero =>
    intro A B c d n q i leaf l p w hm ha hp hc hd hn hq hi hl
    by_cases h1 : n = 1
    · subst h1
      obtain ⟨x, rfl⟩ := one_of (l := l) (by rw [ha.len]; omega) (by rw [ha.len]; omega)
      obtain rfl : i = 0 := by omega
      exact refCollides_one A B c q d x leaf p w ha hl
    · obtain rfl : q = 0 := by omega
      obtain rfl : p = [] := List.eq_nil_of_length_eq_zero hp.len
      exact refCollides_nil A B c d n i leaf l w ha.len (by omega) hi
  | succ m ih =>
    intro A B c d n q i leaf l p w hm ha hp hc hd hn hq hi hl
    by_cases h1 : n = 1
    · subst h1
      obtain ⟨x, rfl⟩ := one_of (l := l) (by rw [ha.len]; omega) (by rw [ha.len]; omega)
      obtain rfl : i = 0 := by omega
      exact refCollides_one A B c q d x leaf p w ha hl
    by_cases h0 : q = 0
    · subst h0
      obtain rfl : p = [] := List.eq_nil_of_length_eq_zero hp.len
      exact refCollides_nil A B c d n i leaf l w ha.len (by omega) hi
    obtain ⟨q, rfl⟩ : ∃ r, q = r + 1 := ⟨q - 1, by omega⟩
    have h2 : 2 ≤ n := by omega
    obtain ⟨ad, rfl⟩ : ∃ ad, A = some ad := by obtain ⟨ad, h, _⟩ := ha.1.2 (by omega); exact ⟨ad, h⟩
    obtain ⟨bd, s, rfl, hbb, hs, hs16, hcl⟩ := hp.1.dig_at hp.2 (k := q) (by omega)
    have HC := Lib.hid hcl
    have HS := Lib.hid hs16
    have HL := Lib.hid hl
    clear hcl hs16
    have HS1 := split_pos n
    have HS2 := split_lt h2
    have hal := ha.len
    have ha1 := ha.first (k := split n) (by omega)
    have ha2 := ha.last (k := split n) (cap := c) (by omega) hc
    rw [if_neg (by omega)] at ha2
    have hp1 := hp.first (k := q) (by omega)
    have hin : ¬ n ≤ i := by omega
    have HSP := fun W => Lib.hid (refSplit_any n h2 (by omega) W)
    have H1 := fun W hW => Lib.hid (refRoot_any 1000 (some ad) c (split n) (l.take (split n)) W (by omega) (ha1.on hW) (by omega) (by omega))
    have H2 := fun W hW => Lib.hid (refRoot_any 1000 (some (ad.add (split n * 16))) (c - split n) (n - split n) (l.drop (split n)) W (by omega) (ha2.on hW) (by omega) (by omega))
    have LL := Lib.hid (root_len (l.take (split n)))
    have LR := Lib.hid (root_len (l.drop (split n)))
    by_cases hik : i < split n
    · have HP := fun W hW => Lib.hid (combine_any 1000 (some bd) d q (split n) i leaf (p.take q) W (by omega) hl (hp1.on hW) (by omega) (by omega) (by omega) (by omega) hik)
      have HG := fun W hW => Lib.hid (ih (some ad) (some bd) c d (split n) q i leaf (l.take (split n)) (p.take q) W (by omega) (ha1.on hW) (hp1.on hW) (by omega) (by omega) (by omega) (by omega) hik hl)
      have HE := Lib.hid (collL_left leaf (l := l) (i := i) (by omega) hp.len hs (by rw [hal]; exact hik))
      rw [hal] at HE
      rw [HE.out]
      have HRL := Lib.hid (combL_len leaf (p.take q) (split n) i)
      generalize collL leaf (p.take q) (l.take (split n)) i = qr at *
      generalize combL leaf (p.take q) (split n) i = R1 at *
      clear HE
      obtain ⟨D1, ok⟩ := R1
      generalize root (l.take (split n)) = DL at *
      generalize root (l.drop (split n)) = DR at *
      generalize split n = k at *
      clear ha1 ha2 hp1 ih hal hs hl
      obtain ⟨cnd, hcnd⟩ : ∃ cnd, cnd = ((D1 != DL || s != DR) && mNode D1 s == mNode DL DR) := ⟨_, rfl⟩
      rw [← hcnd]
      have HCN := Lib.hid hcnd
      clear hcnd
      go_enter Tryd.func17, Tryd.ntmps17
      go_wp2_with (with_reducible refine wpList_box_row (o := ⟨some 6, _, _, _, _, _⟩) rfl _ _ rfl (bvs leaf) rfl ?_; intro w1 hrl hs1 hg1)
      refine (HSP _).out.mono ?_
      rintro e w2 ⟨rfl, rfl⟩
      have hb2 : Below w.heap.size w w2 := grown_below hg1 (Nat.le_refl _) (by simp)
      clear HSP hg1
      go_wp2_with fail
      refine (H1 _ hb2).out.mono ?_
      rintro e w3 ⟨rfl, hb3⟩
      have hb3' := hb2.trans (hb3.mono hb2.size)
      have hrl3 := hrl.on hb3
      have hzl3 := hrl3.lt
      clear hrl
      go_wp2_with (first
        | (with_reducible refine wpList_alloc_row (o := ⟨some 11, _, _, _, _, _⟩) rfl _ rfl zeros16 zero_b16 ?_; intro w4 hr4 hs4 hg4)
        | (with_reducible refine wpList_at ⟨none, .store _ (.tmp 11) _, _, _, _, _⟩ ?_; refine wpList_store_all rfl _ _ _ rfl w3.heap.size rfl _ _ hr4 (bvs DL) rfl (bvs_one _) (b16_zeros _ LL.out) (b16_size _ LL.out) ?_; intro w5 hr5 hg5))
      have hb5 := below_kept (below_kept hb3' hg4 hb3'.size (by simp)) hg5 (by have := hb3'.size; omega) (by rintro k hk; cases hk; exact hb3'.size)
      have hrl5 := (hrl3.kept hg4 (by simp)).kept hg5 (by simp; omega)
      have hz5 := hr5.lt
      clear hg4 hg5 hr4 hs4 hrl3
      refine (H2 _ hb5).out.mono ?_
      rintro e w6 ⟨rfl, hb6⟩
      have hb6' := hb5.trans (hb6.mono hb5.size)
      have hrl6 := hrl5.on hb6
      have hr6 := hr5.on hb6
      have hz6 := hr6.lt
      have hzl6 := hrl6.lt
      clear hrl5 hr5
      go_wp2_with (first
        | (with_reducible refine wpList_alloc_row (o := ⟨some 12, _, _, _, _, _⟩) rfl _ rfl zeros16 zero_b16 ?_; intro w7 hr7 hs7 hg7)
        | (with_reducible refine wpList_at ⟨none, .store _ (.tmp 12) _, _, _, _, _⟩ ?_; refine wpList_store_all rfl _ _ _ rfl w6.heap.size rfl _ _ hr7 (bvs DR) rfl (bvs_one _) (b16_zeros _ LR.out) (b16_size _ LR.out) ?_; intro w8 hr8 hg8))
      have hb8 := below_kept (below_kept hb6' hg7 hb6'.size (by simp)) hg8 (by have := hb6'.size; omega) (by rintro k hk; cases hk; exact hb6'.size)
      have hrl8 := (hrl6.kept hg7 (by simp)).kept hg8 (by simp; omega)
      have hrL8 := (hr6.kept hg7 (by simp)).kept hg8 (by simp; omega)
      have hz8 := hr8.lt
      clear hg7 hg8 hr7 hs7 hrl6 hr6 H1 H2
      go_cut [13, 14] (fun s1 s2 wc => ∃ g, s1 = .pointer (some ⟨g, 0, none⟩) ∧ s2 = .bool ok ∧ Row wc g 28 (bvs D1) ∧ Row wc w3.heap.size 28 (bvs DL) ∧ Row wc w6.heap.size 28 (bvs DR) ∧ Row wc w.heap.size 28 (bvs leaf) ∧ Below w.heap.size w wc)
      case first =>
        refine wp_region_plan (fun w' => Row w' w.heap.size 28 (bvs leaf)) (.take 0 <| .take 1 <| .take 2 <| .take 3 <| .take 4 <| .take 5 <| .two 6 (.take 7 <| .take 8 <| .take 9 <| .one 10 <| .one 11 <| .take 12 <| .done) 10 (.one 6 <| .take 7 <| .take 8 <| .take 9 <| .one 11 <| .take 12 <| .done)) (by kernel_rfl) (by kernel_rfl) (by kernel_rfl) (fun _ _ _ _ _ h => h) hrl8.drew ?_
        repeat (refine plan_take _ rfl ?_; (first | (refine wpQuiet_valueG (o := ⟨some 65, _, _, _, _, _⟩) rfl _ (by intro _ h; exact exec_load16 _ _ rfl _ rfl leaf HL.out h.cells) (wpQuiet_nil ?_); simp only [Act.put, List.setIfInBounds_toArray, List.set_cons_zero, List.set_cons_succ]) | (go_big_quiet_step ((intros; rfl)); refine wpQuiet_nil ?_)))
        refine plan_two ?_ ?_
        · refine step_at _ rfl fun K hK => ?_
          go_simp
          refine (HP _ hb8.drew).out.mono ?_
          rintro e wx ⟨rfl, hbx⟩
          have hbx' := hb8.drew.trans (hbx.mono hb8.size)
          have hrlx := hrl8.drew.on hbx
          have hrLx := hrL8.drew.on hbx
          have hrRx := hr8.drew.on hbx
          have q1 := hrlx.lt
          have q2 := hrLx.lt
          have q3 := hrRx.lt
          refine hK _ _ hrlx ?_
          clear hK K
          repeat (refine plan_take _ rfl ?_; go_big_quiet_step ((intros; rfl)); refine wpQuiet_nil ?_)
          refine plan_one _ rfl fun K hK => step_alloc rfl _ rfl zeros16 zero_b16 ?_
          intro wy hry hsy hgy
          refine hK _ _ (hrlx.kept hgy (by simp)) ?_
          clear hK K
          simp only [Act.put, List.setIfInBounds_toArray, List.set_cons_zero, List.set_cons_succ]
          refine plan_one _ rfl fun K hK => step_store_all rfl _ _ _ rfl wx.heap.size rfl _ _ hry (bvs D1) rfl (bvs_one _) (b16_zeros _ HRL.out) (b16_size _ HRL.out) ?_
          intro wz rz gz
          refine hK _ _ ((hrlx.kept hgy (by simp)).kept gz (by simp; omega)) ?_
          clear hK K
          simp only [Act.put]
          repeat (refine plan_take _ rfl ?_; go_big_quiet_step ((intros; rfl)); refine wpQuiet_nil ?_)
          refine plan_done ?_
          go_wp2_with fail
          go_meet
          exact ⟨_, rfl, rfl, rz, (hrLx.kept hgy (by simp)).kept gz (by simp; omega), (hrRx.kept hgy (by simp)).kept gz (by simp; omega), (hrlx.kept hgy (by simp)).kept gz (by simp; omega), below_kept (below_kept hbx' hgy hbx'.size (by simp)) gz (by have := hbx'.size; omega) (by rintro k hk; cases hk; exact hbx'.size)⟩
        · refine step_at _ rfl fun K hK => step_alloc rfl _ rfl zeros16 zero_b16 ?_
          intro wy hry hsy hgy
          have hrly := hrl8.drew.kept hgy (by simp)
          have hrLy := hrL8.drew.kept hgy (by simp)
          have hrRy := hr8.drew.kept hgy (by simp)
          have hby := below_kept hb8.drew hgy hb8.size (by simp)
          have q1 : w.heap.size < w8.drew.heap.size := hrl8.lt
          have q2 : w3.heap.size < w8.drew.heap.size := hrL8.lt
          have q3 : w6.heap.size < w8.drew.heap.size := hr8.lt
          refine hK _ _ hrly ?_
          clear hK K
          simp only [Act.put, List.setIfInBounds_toArray, List.set_cons_zero, List.set_cons_succ]
          refine plan_one _ rfl fun K hK => ?_
          go_simp
          refine (HP _ hby).out.mono ?_
          rintro e wx ⟨rfl, hbx⟩
          have hbx' := hby.trans (hbx.mono hby.size)
          refine hK _ _ (hrly.on hbx) ?_
          clear hK K
          repeat (refine plan_take _ rfl ?_; go_big_quiet_step ((intros; rfl)); refine wpQuiet_nil ?_)
          refine plan_one _ rfl fun K hK => step_store_all rfl _ _ _ rfl w8.drew.heap.size rfl _ _ (hry.on hbx) (bvs D1) rfl (bvs_one _) (b16_zeros _ HRL.out) (b16_size _ HRL.out) ?_
          intro wz rz gz
          refine hK _ _ ((hrly.on hbx).kept gz (by simp; omega)) ?_
          clear hK K
          simp only [Act.put]
          repeat (refine plan_take _ rfl ?_; go_big_quiet_step ((intros; rfl)); refine wpQuiet_nil ?_)
          refine plan_done ?_
          go_wp2_with fail
          go_meet
          exact ⟨_, rfl, rfl, rz, (hrLy.on hbx).kept gz (by simp; omega), (hrRy.on hbx).kept gz (by simp; omega), (hrly.on hbx).kept gz (by simp; omega), below_kept hbx' gz hbx'.size (by rintro k hk; cases hk; exact hb8.size)⟩
      case rest =>
        obtain ⟨g, rfl, rfl, hrg, hrL, hrR, hrl, hbc⟩ := hcut
        clear hrl8 hrL8 hr8 hb8 HP
        have hsc : ∀ j u, (bvs s)[j]? = some u → wc.drew.cell? ((bd.add (q * 16)).add j) = some u := fun j u hu => by
          rw [add_of_add]
          exact (hbc.cell (by rw [block_of_add]; exact hbb)).trans (HC.out j u hu)
        have HC0 : Hid (∀ p : Addr, p.block < w.heap.size → w.cell? p = wc.drew.cell? p) := fun p hp => (hbc.cell hp).symm
        go_wp2_with fail
        go_cut [94] (fun s94 wd => s94 = .bool cnd ∧ Row wd w.heap.size 28 (bvs leaf) ∧ Below w.heap.size w wd)
        case first =>
          cases hq1 : (D1 == DL)
          · have hv : cnd = (mNode D1 s == mNode DL DR) := by rw [HCN.out]; simp only [bne, hq1]; rfl
            have HV := Lib.hid hv
            clear hv
            refine wp_region_plan (fun w' => Row w' g 28 (bvs D1) ∧ Row w' w3.heap.size 28 (bvs DL) ∧ Row w' w6.heap.size 28 (bvs DR) ∧ Row w' w.heap.size 28 (bvs leaf) ∧ ∀ j u, (bvs s)[j]? = some u → w'.cell? ((bd.add (q * 16)).add j) = some u) (.take 0 <| .take 1 <| .take 2 <| .take 3 <| .take 4 <| .take 5 <| .take 6 <| .take 7 <| .take 8 <| .take 9 <| .take 10 <| .take 11 <| .take 12 <| .take 13 <| .take 14 <| .take 15 <| .take 16 <| .take 18 <| .take 19 <| .one 17 <| .one 20 <| .take 21 <| .take 22 <| .done) (by kernel_rfl) (by kernel_rfl) (by kernel_rfl) (fun _ _ _ _ _ h => h) ⟨hrg.drew, hrL.drew, hrR.drew, hrl.drew, hsc⟩ ?_
            repeat (refine plan_take _ rfl ?_; (first | (refine wpQuiet_valueG (o := ⟨some 72, _, _, _, _, _⟩) rfl _ (by intro _ h; exact exec_load16 _ _ rfl _ rfl D1 HRL.out h.1.cells) (wpQuiet_nil ?_); simp only [Act.put, List.setIfInBounds_toArray, List.set_cons_zero, List.set_cons_succ]) | (refine wpQuiet_valueG (o := ⟨some 73, _, _, _, _, _⟩) rfl _ (by intro _ h; exact exec_load16 _ _ rfl _ rfl DL LL.out h.2.1.cells) (wpQuiet_nil ?_); simp only [Act.put, List.setIfInBounds_toArray, List.set_cons_zero, List.set_cons_succ]) | (refine wpQuiet_valueG (o := ⟨some 74, _, _, _, _, _⟩) rfl _ (by intro _ h; exact exec_neq16 _ _ _ rfl D1 DL HRL.out LL.out rfl rfl) (wpQuiet_nil ?_); simp only [hq1, Bool.not_false, Act.put, List.setIfInBounds_toArray, List.set_cons_zero, List.set_cons_succ]) | (refine wpQuiet_valueG (o := ⟨some 84, _, _, _, _, _⟩) rfl _ (by intro _ h; exact exec_load16 _ _ rfl _ rfl D1 HRL.out h.1.cells) (wpQuiet_nil ?_); simp only [Act.put, List.setIfInBounds_toArray, List.set_cons_zero, List.set_cons_succ]) | (refine wpQuiet_valueG (o := ⟨some 88, _, _, _, _, _⟩) rfl _ (by intro _ h; exact exec_load16 _ _ rfl _ rfl s HS.out h.2.2.2.2) (wpQuiet_nil ?_); simp only [Act.put, List.setIfInBounds_toArray, List.set_cons_zero, List.set_cons_succ]) | (refine wpQuiet_valueG (o := ⟨some 90, _, _, _, _, _⟩) rfl _ (by intro _ h; exact exec_load16 _ _ rfl _ rfl DL LL.out h.2.1.cells) (wpQuiet_nil ?_); simp only [Act.put, List.setIfInBounds_toArray, List.set_cons_zero, List.set_cons_succ]) | (refine wpQuiet_valueG (o := ⟨some 91, _, _, _, _, _⟩) rfl _ (by intro _ h; exact exec_load16 _ _ rfl _ rfl DR LR.out h.2.2.1.cells) (wpQuiet_nil ?_); simp only [Act.put, List.setIfInBounds_toArray, List.set_cons_zero, List.set_cons_succ]) | (go_big_quiet_step ((intros; rfl)); refine wpQuiet_nil ?_)))
            refine plan_one _ rfl fun K hK => ?_
            go_simp
            refine (refNode_any D1 s HRL.out HS.out _).mono ?_
            rintro e wx ⟨rfl, hbx⟩
            have hbx' := hbc.drew.trans (hbx.mono hbc.size)
            have hsx : ∀ j u, (bvs s)[j]? = some u → wx.cell? ((bd.add (q * 16)).add j) = some u := fun j u hu => (hbx'.cell (by rw [block_of_add, block_of_add]; exact hbb)).trans ((HC0.out _ (by rw [block_of_add, block_of_add]; exact hbb)).trans (hsc j u hu))
            refine hK _ _ ⟨hrg.drew.on hbx, hrL.drew.on hbx, hrR.drew.on hbx, hrl.drew.on hbx, hsx⟩ ?_
            clear hK K
            refine plan_one _ rfl fun K hK => ?_
            go_simp
            refine (refNode_any DL DR LL.out LR.out _).mono ?_
            rintro e wy ⟨rfl, hby⟩
            have hby' := hbx'.trans (hby.mono hbx'.size)
            have hry := (hrl.drew.on hbx).on hby
            have hsy : ∀ j u, (bvs s)[j]? = some u → wy.cell? ((bd.add (q * 16)).add j) = some u := fun j u hu => (hby'.cell (by rw [block_of_add, block_of_add]; exact hbb)).trans ((HC0.out _ (by rw [block_of_add, block_of_add]; exact hbb)).trans (hsc j u hu))
            refine hK _ _ ⟨(hrg.drew.on hbx).on hby, (hrL.drew.on hbx).on hby, (hrR.drew.on hbx).on hby, hry, hsy⟩ ?_
            clear hK K
            repeat (refine plan_take _ rfl ?_; (first | (refine wpQuiet_valueG (o := ⟨some 93, _, _, _, _, _⟩) rfl _ (by intro _ h; exact exec_eql16 _ _ _ rfl (mNode D1 s) (mNode DL DR) (mNode_len _ _) (mNode_len _ _) rfl rfl) (wpQuiet_nil ?_); simp only [Act.put, List.setIfInBounds_toArray, List.set_cons_zero, List.set_cons_succ]) | (go_big_quiet_step ((intros; rfl)); refine wpQuiet_nil ?_)))
            refine plan_done ?_
            go_wp2_with fail
            go_meet
            exact ⟨congrArg Value.bool HV.out.symm, hry, hby'⟩
          · cases hq2 : (s == DR)
            · have hv : cnd = (mNode D1 s == mNode DL DR) := by rw [HCN.out]; simp only [bne, hq1, hq2]; rfl
              have HV := Lib.hid hv
              clear hv
              refine wp_region_plan (fun w' => Row w' g 28 (bvs D1) ∧ Row w' w3.heap.size 28 (bvs DL) ∧ Row w' w6.heap.size 28 (bvs DR) ∧ Row w' w.heap.size 28 (bvs leaf) ∧ ∀ j u, (bvs s)[j]? = some u → w'.cell? ((bd.add (q * 16)).add j) = some u) (.take 0 <| .take 1 <| .take 2 <| .take 3 <| .take 4 <| .take 5 <| .take 6 <| .take 7 <| .take 8 <| .take 9 <| .take 10 <| .take 11 <| .take 12 <| .take 13 <| .take 14 <| .take 15 <| .take 16 <| .take 18 <| .take 19 <| .one 17 <| .one 20 <| .take 21 <| .take 22 <| .done) (by kernel_rfl) (by kernel_rfl) (by kernel_rfl) (fun _ _ _ _ _ h => h) ⟨hrg.drew, hrL.drew, hrR.drew, hrl.drew, hsc⟩ ?_
              repeat (refine plan_take _ rfl ?_; (first | (refine wpQuiet_valueG (o := ⟨some 72, _, _, _, _, _⟩) rfl _ (by intro _ h; exact exec_load16 _ _ rfl _ rfl D1 HRL.out h.1.cells) (wpQuiet_nil ?_); simp only [Act.put, List.setIfInBounds_toArray, List.set_cons_zero, List.set_cons_succ]) | (refine wpQuiet_valueG (o := ⟨some 73, _, _, _, _, _⟩) rfl _ (by intro _ h; exact exec_load16 _ _ rfl _ rfl DL LL.out h.2.1.cells) (wpQuiet_nil ?_); simp only [Act.put, List.setIfInBounds_toArray, List.set_cons_zero, List.set_cons_succ]) | (refine wpQuiet_valueG (o := ⟨some 74, _, _, _, _, _⟩) rfl _ (by intro _ h; exact exec_neq16 _ _ _ rfl D1 DL HRL.out LL.out rfl rfl) (wpQuiet_nil ?_); simp only [hq1, Bool.not_true, Act.put, List.setIfInBounds_toArray, List.set_cons_zero, List.set_cons_succ]) | (refine wpQuiet_valueG (o := ⟨some 79, _, _, _, _, _⟩) rfl _ (by intro _ h; exact exec_load16 _ _ rfl _ rfl s HS.out h.2.2.2.2) (wpQuiet_nil ?_); simp only [Act.put, List.setIfInBounds_toArray, List.set_cons_zero, List.set_cons_succ]) | (refine wpQuiet_valueG (o := ⟨some 80, _, _, _, _, _⟩) rfl _ (by intro _ h; exact exec_load16 _ _ rfl _ rfl DR LR.out h.2.2.1.cells) (wpQuiet_nil ?_); simp only [Act.put, List.setIfInBounds_toArray, List.set_cons_zero, List.set_cons_succ]) | (refine wpQuiet_valueG (o := ⟨some 81, _, _, _, _, _⟩) rfl _ (by intro _ h; exact exec_neq16 _ _ _ rfl s DR HS.out LR.out rfl rfl) (wpQuiet_nil ?_); simp only [hq2, Bool.not_false, Act.put, List.setIfInBounds_toArray, List.set_cons_zero, List.set_cons_succ]) | (refine wpQuiet_valueG (o := ⟨some 84, _, _, _, _, _⟩) rfl _ (by intro _ h; exact exec_load16 _ _ rfl _ rfl D1 HRL.out h.1.cells) (wpQuiet_nil ?_); simp only [Act.put, List.setIfInBounds_toArray, List.set_cons_zero, List.set_cons_succ]) | (refine wpQuiet_valueG (o := ⟨some 88, _, _, _, _, _⟩) rfl _ (by intro _ h; exact exec_load16 _ _ rfl _ rfl s HS.out h.2.2.2.2) (wpQuiet_nil ?_); simp only [Act.put, List.setIfInBounds_toArray, List.set_cons_zero, List.set_cons_succ]) | (refine wpQuiet_valueG (o := ⟨some 90, _, _, _, _, _⟩) rfl _ (by intro _ h; exact exec_load16 _ _ rfl _ rfl DL LL.out h.2.1.cells) (wpQuiet_nil ?_); simp only [Act.put, List.setIfInBounds_toArray, List.set_cons_zero, List.set_cons_succ]) | (refine wpQuiet_valueG (o := ⟨some 91, _, _, _, _, _⟩) rfl _ (by intro _ h; exact exec_load16 _ _ rfl _ rfl DR LR.out h.2.2.1.cells) (wpQuiet_nil ?_); simp only [Act.put, List.setIfInBounds_toArray, List.set_cons_zero, List.set_cons_succ]) | (go_big_quiet_step ((intros; rfl)); refine wpQuiet_nil ?_)))
              refine plan_one _ rfl fun K hK => ?_
              go_simp
              refine (refNode_any D1 s HRL.out HS.out _).mono ?_
              rintro e wx ⟨rfl, hbx⟩
              have hbx' := hbc.drew.trans (hbx.mono hbc.size)
              have hsx : ∀ j u, (bvs s)[j]? = some u → wx.cell? ((bd.add (q * 16)).add j) = some u := fun j u hu => (hbx'.cell (by rw [block_of_add, block_of_add]; exact hbb)).trans ((HC0.out _ (by rw [block_of_add, block_of_add]; exact hbb)).trans (hsc j u hu))
              refine hK _ _ ⟨hrg.drew.on hbx, hrL.drew.on hbx, hrR.drew.on hbx, hrl.drew.on hbx, hsx⟩ ?_
              clear hK K
              refine plan_one _ rfl fun K hK => ?_
              go_simp
              refine (refNode_any DL DR LL.out LR.out _).mono ?_
              rintro e wy ⟨rfl, hby⟩
              have hby' := hbx'.trans (hby.mono hbx'.size)
              have hry := (hrl.drew.on hbx).on hby
              have hsy : ∀ j u, (bvs s)[j]? = some u → wy.cell? ((bd.add (q * 16)).add j) = some u := fun j u hu => (hby'.cell (by rw [block_of_add, block_of_add]; exact hbb)).trans ((HC0.out _ (by rw [block_of_add, block_of_add]; exact hbb)).trans (hsc j u hu))
              refine hK _ _ ⟨(hrg.drew.on hbx).on hby, (hrL.drew.on hbx).on hby, (hrR.drew.on hbx).on hby, hry, hsy⟩ ?_
              clear hK K
              repeat (refine plan_take _ rfl ?_; (first | (refine wpQuiet_valueG (o := ⟨some 93, _, _, _, _, _⟩) rfl _ (by intro _ h; exact exec_eql16 _ _ _ rfl (mNode D1 s) (mNode DL DR) (mNode_len _ _) (mNode_len _ _) rfl rfl) (wpQuiet_nil ?_); simp only [Act.put, List.setIfInBounds_toArray, List.set_cons_zero, List.set_cons_succ]) | (go_big_quiet_step ((intros; rfl)); refine wpQuiet_nil ?_)))
              refine plan_done ?_
              go_wp2_with fail
              go_meet
              exact ⟨congrArg Value.bool HV.out.symm, hry, hby'⟩
            · have hv : cnd = false := by rw [HCN.out]; simp only [bne, hq1, hq2]; rfl
              have HV := Lib.hid hv
              clear hv
              refine wp_region_plan (fun w' => Row w' g 28 (bvs D1) ∧ Row w' w3.heap.size 28 (bvs DL) ∧ Row w' w6.heap.size 28 (bvs DR) ∧ Row w' w.heap.size 28 (bvs leaf) ∧ ∀ j u, (bvs s)[j]? = some u → w'.cell? ((bd.add (q * 16)).add j) = some u) (.take 0 <| .take 1 <| .take 2 <| .take 3 <| .take 4 <| .take 5 <| .take 6 <| .take 7 <| .take 8 <| .take 9 <| .take 10 <| .take 11 <| .take 12 <| .take 13 <| .take 14 <| .take 15 <| .take 16 <| .take 18 <| .take 19 <| .one 17 <| .one 20 <| .take 21 <| .take 22 <| .done) (by kernel_rfl) (by kernel_rfl) (by kernel_rfl) (fun _ _ _ _ _ h => h) ⟨hrg.drew, hrL.drew, hrR.drew, hrl.drew, hsc⟩ ?_
              repeat (refine plan_take _ rfl ?_; (first | (refine wpQuiet_valueG (o := ⟨some 72, _, _, _, _, _⟩) rfl _ (by intro _ h; exact exec_load16 _ _ rfl _ rfl D1 HRL.out h.1.cells) (wpQuiet_nil ?_); simp only [Act.put, List.setIfInBounds_toArray, List.set_cons_zero, List.set_cons_succ]) | (refine wpQuiet_valueG (o := ⟨some 73, _, _, _, _, _⟩) rfl _ (by intro _ h; exact exec_load16 _ _ rfl _ rfl DL LL.out h.2.1.cells) (wpQuiet_nil ?_); simp only [Act.put, List.setIfInBounds_toArray, List.set_cons_zero, List.set_cons_succ]) | (refine wpQuiet_valueG (o := ⟨some 74, _, _, _, _, _⟩) rfl _ (by intro _ h; exact exec_neq16 _ _ _ rfl D1 DL HRL.out LL.out rfl rfl) (wpQuiet_nil ?_); simp only [hq1, Bool.not_true, Act.put, List.setIfInBounds_toArray, List.set_cons_zero, List.set_cons_succ]) | (refine wpQuiet_valueG (o := ⟨some 79, _, _, _, _, _⟩) rfl _ (by intro _ h; exact exec_load16 _ _ rfl _ rfl s HS.out h.2.2.2.2) (wpQuiet_nil ?_); simp only [Act.put, List.setIfInBounds_toArray, List.set_cons_zero, List.set_cons_succ]) | (refine wpQuiet_valueG (o := ⟨some 80, _, _, _, _, _⟩) rfl _ (by intro _ h; exact exec_load16 _ _ rfl _ rfl DR LR.out h.2.2.1.cells) (wpQuiet_nil ?_); simp only [Act.put, List.setIfInBounds_toArray, List.set_cons_zero, List.set_cons_succ]) | (refine wpQuiet_valueG (o := ⟨some 81, _, _, _, _, _⟩) rfl _ (by intro _ h; exact exec_neq16 _ _ _ rfl s DR HS.out LR.out rfl rfl) (wpQuiet_nil ?_); simp only [hq2, Bool.not_true, Act.put, List.setIfInBounds_toArray, List.set_cons_zero, List.set_cons_succ]) | (go_big_quiet_step ((intros; rfl)); refine wpQuiet_nil ?_)))
              refine plan_one _ rfl fun K hK => ?_
              go_simp
              refine hK _ _ ⟨hrg.drew, hrL.drew, hrR.drew, hrl.drew, hsc⟩ ?_
              clear hK K
              refine plan_one _ rfl fun K hK => ?_
              go_simp
              refine hK _ _ ⟨hrg.drew, hrL.drew, hrR.drew, hrl.drew, hsc⟩ ?_
              clear hK K
              repeat (refine plan_take _ rfl ?_; go_big_quiet_step ((intros; rfl)); refine wpQuiet_nil ?_)
              refine plan_done ?_
              go_wp2_with fail
              go_meet
              exact ⟨congrArg Value.bool HV.out.symm, hrl.drew, hbc.drew⟩
        case rest =>
          obtain ⟨rfl, hrd, hbd⟩ := hcut
          cases cnd with
          | true =>
            go_wp2_with fail
            go_ret
            exact ⟨rfl, hbd⟩
          | false =>
            go_wp2_with fail
            refine wp_region_plan (fun w' => Row w' w.heap.size 28 (bvs leaf)) (.take 0 <| .take 1 <| .take 2 <| .take 3 <| .take 4 <| .take 5 <| .take 6 <| .take 7 <| .one 8 <| .take 9 <| .done) (by kernel_rfl) (by kernel_rfl) (by kernel_rfl) (fun _ _ _ _ _ h => h) hrd.drew ?_
            repeat (refine plan_take _ rfl ?_; (first | (refine wpQuiet_valueG (o := ⟨some 99, _, _, _, _, _⟩) rfl _ (by intro _ h; exact exec_load16 _ _ rfl _ rfl leaf HL.out h.cells) (wpQuiet_nil ?_); simp only [Act.put, List.setIfInBounds_toArray, List.set_cons_zero, List.set_cons_succ]) | (go_big_quiet_step ((intros; rfl)); refine wpQuiet_nil ?_)))
            refine plan_one _ rfl fun K hK => ?_
            go_simp
            refine (HG _ hbd.drew).out.mono ?_
            rintro e wx ⟨rfl, hbx⟩
            refine hK _ _ (hrd.drew.on hbx) ?_
            clear hK K
            repeat (refine plan_take _ rfl ?_; go_big_quiet_step ((intros; rfl)); refine wpQuiet_nil ?_)
            refine plan_done ?_
            go_wp2_with fail
            go_ret
            exact ⟨rfl, hbd.drew.trans (hbx.mono hbd.size)⟩
    · have hik2 : split n ≤ i := by omega
      have HP := fun W hW => Lib.hid (combine_any 1000 (some bd) d q (n - split n) (i - split n) leaf (p.take q) W (by omega) hl (hp1.on hW) (by omega) (by omega) (by omega) (by omega) (by omega))
      have HG := fun W hW => Lib.hid (ih (some (ad.add (split n * 16))) (some bd) (c - split n) d (n - split n) q (i - split n) leaf (l.drop (split n)) (p.take q) W (by omega) (ha2.on hW) (hp1.on hW) (by omega) (by omega) (by omega) (by omega) (by omega) hl)
      have HE := Lib.hid (collL_right leaf (l := l) (i := i) (by omega) hp.len hs (by rw [hal]; exact hik))
      rw [hal] at HE
      rw [HE.out]
      have HRL := Lib.hid (combL_len leaf (p.take q) (n - split n) (i - split n))
      generalize collL leaf (p.take q) (l.drop (split n)) (i - split n) = qr at *
      generalize combL leaf (p.take q) (n - split n) (i - split n) = R1 at *
      simp only [show ((i - split n : Nat) : Int) = (i : Int) - (split n : Int) from by omega, show ((n - split n : Nat) : Int) = (n : Int) - (split n : Int) from by omega] at HP HG
      clear HE
      obtain ⟨D1, ok⟩ := R1
      generalize root (l.take (split n)) = DL at *
      generalize root (l.drop (split n)) = DR at *
      generalize split n = k at *
      clear ha1 ha2 hp1 ih hal hs hl
      obtain ⟨cnd, hcnd⟩ : ∃ cnd, cnd = ((s != DL || D1 != DR) && mNode s D1 == mNode DL DR) := ⟨_, rfl⟩
      rw [← hcnd]
      have HCN := Lib.hid hcnd
      clear hcnd
      go_enter Tryd.func17, Tryd.ntmps17
      go_wp2_with (with_reducible refine wpList_box_row (o := ⟨some 6, _, _, _, _, _⟩) rfl _ _ rfl (bvs leaf) rfl ?_; intro w1 hrl hs1 hg1)
      refine (HSP _).out.mono ?_
      rintro e w2 ⟨rfl, rfl⟩
      have hb2 : Below w.heap.size w w2 := grown_below hg1 (Nat.le_refl _) (by simp)
      clear HSP hg1
      go_wp2_with fail
      refine (H1 _ hb2).out.mono ?_
      rintro e w3 ⟨rfl, hb3⟩
      have hb3' := hb2.trans (hb3.mono hb2.size)
      have hrl3 := hrl.on hb3
      have hzl3 := hrl3.lt
      clear hrl
      go_wp2_with (first
        | (with_reducible refine wpList_alloc_row (o := ⟨some 11, _, _, _, _, _⟩) rfl _ rfl zeros16 zero_b16 ?_; intro w4 hr4 hs4 hg4)
        | (with_reducible refine wpList_at ⟨none, .store _ (.tmp 11) _, _, _, _, _⟩ ?_; refine wpList_store_all rfl _ _ _ rfl w3.heap.size rfl _ _ hr4 (bvs DL) rfl (bvs_one _) (b16_zeros _ LL.out) (b16_size _ LL.out) ?_; intro w5 hr5 hg5))
      have hb5 := below_kept (below_kept hb3' hg4 hb3'.size (by simp)) hg5 (by have := hb3'.size; omega) (by rintro k hk; cases hk; exact hb3'.size)
      have hrl5 := (hrl3.kept hg4 (by simp)).kept hg5 (by simp; omega)
      have hz5 := hr5.lt
      clear hg4 hg5 hr4 hs4 hrl3
      refine (H2 _ hb5).out.mono ?_
      rintro e w6 ⟨rfl, hb6⟩
      have hb6' := hb5.trans (hb6.mono hb5.size)
      have hrl6 := hrl5.on hb6
      have hr6 := hr5.on hb6
      have hz6 := hr6.lt
      have hzl6 := hrl6.lt
      clear hrl5 hr5
      go_wp2_with (first
        | (with_reducible refine wpList_alloc_row (o := ⟨some 12, _, _, _, _, _⟩) rfl _ rfl zeros16 zero_b16 ?_; intro w7 hr7 hs7 hg7)
        | (with_reducible refine wpList_at ⟨none, .store _ (.tmp 12) _, _, _, _, _⟩ ?_; refine wpList_store_all rfl _ _ _ rfl w6.heap.size rfl _ _ hr7 (bvs DR) rfl (bvs_one _) (b16_zeros _ LR.out) (b16_size _ LR.out) ?_; intro w8 hr8 hg8))
      have hb8 := below_kept (below_kept hb6' hg7 hb6'.size (by simp)) hg8 (by have := hb6'.size; omega) (by rintro k hk; cases hk; exact hb6'.size)
      have hrl8 := (hrl6.kept hg7 (by simp)).kept hg8 (by simp; omega)
      have hrL8 := (hr6.kept hg7 (by simp)).kept hg8 (by simp; omega)
      have hz8 := hr8.lt
      clear hg7 hg8 hr7 hs7 hrl6 hr6 H1 H2
      go_cut [15, 16] (fun s1 s2 wc => ∃ g, s1 = .pointer (some ⟨g, 0, none⟩) ∧ s2 = .bool ok ∧ Row wc g 28 (bvs D1) ∧ Row wc w3.heap.size 28 (bvs DL) ∧ Row wc w6.heap.size 28 (bvs DR) ∧ Row wc w.heap.size 28 (bvs leaf) ∧ Below w.heap.size w wc)
      case first =>
        refine wp_region_plan (fun w' => Row w' w.heap.size 28 (bvs leaf)) (.take 0 <| .take 2 <| .take 4 <| .take 5 <| .take 6 <| .take 7 <| .take 8 <| .take 9 <| .take 10 <| .two 1 (.take 3 <| .two 11 (.take 12 <| .take 13 <| .take 14 <| .one 15 <| .one 16 <| .take 17 <| .done) 15 (.one 11 <| .take 12 <| .take 13 <| .take 14 <| .one 16 <| .take 17 <| .done)) 15 (.one 1 <| .take 3 <| .one 11 <| .take 12 <| .take 13 <| .take 14 <| .one 16 <| .take 17 <| .done)) (by kernel_rfl) (by kernel_rfl) (by kernel_rfl) (fun _ _ _ _ _ h => h) hrl8.drew ?_
        repeat (refine plan_take _ rfl ?_; (first | (refine wpQuiet_valueG (o := ⟨some 112, _, _, _, _, _⟩) rfl _ (by intro _ h; exact exec_load16 _ _ rfl _ rfl leaf HL.out h.cells) (wpQuiet_nil ?_); simp only [Act.put, List.setIfInBounds_toArray, List.set_cons_zero, List.set_cons_succ]) | (go_big_quiet_step ((intros; rfl)); refine wpQuiet_nil ?_)))
        refine plan_two ?_ ?_
        · refine step_at _ rfl fun K hK => ?_
          go_simp
          refine hK _ _ hrl8.drew ?_
          clear hK K
          repeat (refine plan_take _ rfl ?_; go_big_quiet_step ((intros; rfl)); refine wpQuiet_nil ?_)
          refine plan_two ?_ ?_
          · refine step_at _ rfl fun K hK => ?_
            go_simp
            refine (HP _ hb8.drew).out.mono ?_
            rintro e wx ⟨rfl, hbx⟩
            have hbx' := hb8.drew.trans (hbx.mono hb8.size)
            have hrlx := hrl8.drew.on hbx
            have hrLx := hrL8.drew.on hbx
            have hrRx := hr8.drew.on hbx
            have q1 := hrlx.lt
            have q2 := hrLx.lt
            have q3 := hrRx.lt
            refine hK _ _ hrlx ?_
            clear hK K
            repeat (refine plan_take _ rfl ?_; go_big_quiet_step ((intros; rfl)); refine wpQuiet_nil ?_)
            refine plan_one _ rfl fun K hK => step_alloc rfl _ rfl zeros16 zero_b16 ?_
            intro wy hry hsy hgy
            refine hK _ _ (hrlx.kept hgy (by simp)) ?_
            clear hK K
            simp only [Act.put, List.setIfInBounds_toArray, List.set_cons_zero, List.set_cons_succ]
            refine plan_one _ rfl fun K hK => step_store_all rfl _ _ _ rfl wx.heap.size rfl _ _ hry (bvs D1) rfl (bvs_one _) (b16_zeros _ HRL.out) (b16_size _ HRL.out) ?_
            intro wz rz gz
            refine hK _ _ ((hrlx.kept hgy (by simp)).kept gz (by simp; omega)) ?_
            clear hK K
            simp only [Act.put]
            repeat (refine plan_take _ rfl ?_; go_big_quiet_step ((intros; rfl)); refine wpQuiet_nil ?_)
            refine plan_done ?_
            go_wp2_with fail
            go_meet
            exact ⟨_, rfl, rfl, rz, (hrLx.kept hgy (by simp)).kept gz (by simp; omega), (hrRx.kept hgy (by simp)).kept gz (by simp; omega), (hrlx.kept hgy (by simp)).kept gz (by simp; omega), below_kept (below_kept hbx' hgy hbx'.size (by simp)) gz (by have := hbx'.size; omega) (by rintro k hk; cases hk; exact hbx'.size)⟩
          · refine step_at _ rfl fun K hK => step_alloc rfl _ rfl zeros16 zero_b16 ?_
            intro wy hry hsy hgy
            have hrly := hrl8.drew.kept hgy (by simp)
            have hrLy := hrL8.drew.kept hgy (by simp)
            have hrRy := hr8.drew.kept hgy (by simp)
            have hby := below_kept hb8.drew hgy hb8.size (by simp)
            have q1 : w.heap.size < w8.drew.heap.size := hrl8.lt
            have q2 : w3.heap.size < w8.drew.heap.size := hrL8.lt
            have q3 : w6.heap.size < w8.drew.heap.size := hr8.lt
            refine hK _ _ hrly ?_
            clear hK K
            simp only [Act.put, List.setIfInBounds_toArray, List.set_cons_zero, List.set_cons_succ]
            refine plan_one _ rfl fun K hK => ?_
            go_simp
            refine (HP _ hby).out.mono ?_
            rintro e wx ⟨rfl, hbx⟩
            have hbx' := hby.trans (hbx.mono hby.size)
            refine hK _ _ (hrly.on hbx) ?_
            clear hK K
            repeat (refine plan_take _ rfl ?_; go_big_quiet_step ((intros; rfl)); refine wpQuiet_nil ?_)
            refine plan_one _ rfl fun K hK => step_store_all rfl _ _ _ rfl w8.drew.heap.size rfl _ _ (hry.on hbx) (bvs D1) rfl (bvs_one _) (b16_zeros _ HRL.out) (b16_size _ HRL.out) ?_
            intro wz rz gz
            refine hK _ _ ((hrly.on hbx).kept gz (by simp; omega)) ?_
            clear hK K
            simp only [Act.put]
            repeat (refine plan_take _ rfl ?_; go_big_quiet_step ((intros; rfl)); refine wpQuiet_nil ?_)
            refine plan_done ?_
            go_wp2_with fail
            go_meet
            exact ⟨_, rfl, rfl, rz, (hrLy.on hbx).kept gz (by simp; omega), (hrRy.on hbx).kept gz (by simp; omega), (hrly.on hbx).kept gz (by simp; omega), below_kept hbx' gz hbx'.size (by rintro k hk; cases hk; exact hb8.size)⟩
        · refine step_at _ rfl fun K hK => step_alloc rfl _ rfl zeros16 zero_b16 ?_
          intro wy hry hsy hgy
          have hrly := hrl8.drew.kept hgy (by simp)
          have hrLy := hrL8.drew.kept hgy (by simp)
          have hrRy := hr8.drew.kept hgy (by simp)
          have hby := below_kept hb8.drew hgy hb8.size (by simp)
          have q1 : w.heap.size < w8.drew.heap.size := hrl8.lt
          have q2 : w3.heap.size < w8.drew.heap.size := hrL8.lt
          have q3 : w6.heap.size < w8.drew.heap.size := hr8.lt
          refine hK _ _ hrly ?_
          clear hK K
          simp only [Act.put, List.setIfInBounds_toArray, List.set_cons_zero, List.set_cons_succ]
          refine plan_one _ rfl fun K hK => ?_
          go_simp
          refine hK _ _ hrly ?_
          clear hK K
          repeat (refine plan_take _ rfl ?_; go_big_quiet_step ((intros; rfl)); refine wpQuiet_nil ?_)
          refine plan_one _ rfl fun K hK => ?_
          go_simp
          refine (HP _ hby).out.mono ?_
          rintro e wx ⟨rfl, hbx⟩
          have hbx' := hby.trans (hbx.mono hby.size)
          refine hK _ _ (hrly.on hbx) ?_
          clear hK K
          repeat (refine plan_take _ rfl ?_; go_big_quiet_step ((intros; rfl)); refine wpQuiet_nil ?_)
          refine plan_one _ rfl fun K hK => step_store_all rfl _ _ _ rfl w8.drew.heap.size rfl _ _ (hry.on hbx) (bvs D1) rfl (bvs_one _) (b16_zeros _ HRL.out) (b16_size _ HRL.out) ?_
          intro wz rz gz
          refine hK _ _ ((hrly.on hbx).kept gz (by simp; omega)) ?_
          clear hK K
          simp only [Act.put]
          repeat (refine plan_take _ rfl ?_; go_big_quiet_step ((intros; rfl)); refine wpQuiet_nil ?_)
          refine plan_done ?_
          go_wp2_with fail
          go_meet
          exact ⟨_, rfl, rfl, rz, (hrLy.on hbx).kept gz (by simp; omega), (hrRy.on hbx).kept gz (by simp; omega), (hrly.on hbx).kept gz (by simp; omega), below_kept hbx' gz hbx'.size (by rintro k hk; cases hk; exact hb8.size)⟩
      case rest =>
        obtain ⟨g, rfl, rfl, hrg, hrL, hrR, hrl, hbc⟩ := hcut
        clear hrl8 hrL8 hr8 hb8 HP
        have hsc : ∀ j u, (bvs s)[j]? = some u → wc.drew.cell? ((bd.add (q * 16)).add j) = some u := fun j u hu => by
          rw [add_of_add]
          exact (hbc.cell (by rw [block_of_add]; exact hbb)).trans (HC.out j u hu)
        have HC0 : Hid (∀ p : Addr, p.block < w.heap.size → w.cell? p = wc.drew.cell? p) := fun p hp => (hbc.cell hp).symm
        go_wp2_with fail
        go_cut [141] (fun s94 wd => s94 = .bool cnd ∧ Row wd w.heap.size 28 (bvs leaf) ∧ Below w.heap.size w wd)
        case first =>
          cases hq1 : (s == DL)
          · have hv : cnd = (mNode s D1 == mNode DL DR) := by rw [HCN.out]; simp only [bne, hq1]; rfl
            have HV := Lib.hid hv
            clear hv
            refine wp_region_plan (fun w' => Row w' g 28 (bvs D1) ∧ Row w' w3.heap.size 28 (bvs DL) ∧ Row w' w6.heap.size 28 (bvs DR) ∧ Row w' w.heap.size 28 (bvs leaf) ∧ ∀ j u, (bvs s)[j]? = some u → w'.cell? ((bd.add (q * 16)).add j) = some u) (.take 0 <| .take 1 <| .take 2 <| .take 3 <| .take 4 <| .take 5 <| .take 6 <| .take 7 <| .take 8 <| .take 9 <| .take 10 <| .take 11 <| .take 12 <| .take 13 <| .take 14 <| .take 15 <| .take 16 <| .take 18 <| .take 19 <| .one 17 <| .one 20 <| .take 21 <| .take 22 <| .done) (by kernel_rfl) (by kernel_rfl) (by kernel_rfl) (fun _ _ _ _ _ h => h) ⟨hrg.drew, hrL.drew, hrR.drew, hrl.drew, hsc⟩ ?_
            repeat (refine plan_take _ rfl ?_; (first | (refine wpQuiet_valueG (o := ⟨some 122, _, _, _, _, _⟩) rfl _ (by intro _ h; exact exec_load16 _ _ rfl _ rfl s HS.out h.2.2.2.2) (wpQuiet_nil ?_); simp only [Act.put, List.setIfInBounds_toArray, List.set_cons_zero, List.set_cons_succ]) | (refine wpQuiet_valueG (o := ⟨some 123, _, _, _, _, _⟩) rfl _ (by intro _ h; exact exec_load16 _ _ rfl _ rfl DL LL.out h.2.1.cells) (wpQuiet_nil ?_); simp only [Act.put, List.setIfInBounds_toArray, List.set_cons_zero, List.set_cons_succ]) | (refine wpQuiet_valueG (o := ⟨some 124, _, _, _, _, _⟩) rfl _ (by intro _ h; exact exec_neq16 _ _ _ rfl s DL HS.out LL.out rfl rfl) (wpQuiet_nil ?_); simp only [hq1, Bool.not_false, Act.put, List.setIfInBounds_toArray, List.set_cons_zero, List.set_cons_succ]) | (refine wpQuiet_valueG (o := ⟨some 134, _, _, _, _, _⟩) rfl _ (by intro _ h; exact exec_load16 _ _ rfl _ rfl s HS.out h.2.2.2.2) (wpQuiet_nil ?_); simp only [Act.put, List.setIfInBounds_toArray, List.set_cons_zero, List.set_cons_succ]) | (refine wpQuiet_valueG (o := ⟨some 135, _, _, _, _, _⟩) rfl _ (by intro _ h; exact exec_load16 _ _ rfl _ rfl D1 HRL.out h.1.cells) (wpQuiet_nil ?_); simp only [Act.put, List.setIfInBounds_toArray, List.set_cons_zero, List.set_cons_succ]) | (refine wpQuiet_valueG (o := ⟨some 137, _, _, _, _, _⟩) rfl _ (by intro _ h; exact exec_load16 _ _ rfl _ rfl DL LL.out h.2.1.cells) (wpQuiet_nil ?_); simp only [Act.put, List.setIfInBounds_toArray, List.set_cons_zero, List.set_cons_succ]) | (refine wpQuiet_valueG (o := ⟨some 138, _, _, _, _, _⟩) rfl _ (by intro _ h; exact exec_load16 _ _ rfl _ rfl DR LR.out h.2.2.1.cells) (wpQuiet_nil ?_); simp only [Act.put, List.setIfInBounds_toArray, List.set_cons_zero, List.set_cons_succ]) | (go_big_quiet_step ((intros; rfl)); refine wpQuiet_nil ?_)))
            refine plan_one _ rfl fun K hK => ?_
            go_simp
            refine (refNode_any s D1 HS.out HRL.out _).mono ?_
            rintro e wx ⟨rfl, hbx⟩
            have hbx' := hbc.drew.trans (hbx.mono hbc.size)
            have hsx : ∀ j u, (bvs s)[j]? = some u → wx.cell? ((bd.add (q * 16)).add j) = some u := fun j u hu => (hbx'.cell (by rw [block_of_add, block_of_add]; exact hbb)).trans ((HC0.out _ (by rw [block_of_add, block_of_add]; exact hbb)).trans (hsc j u hu))
            refine hK _ _ ⟨hrg.drew.on hbx, hrL.drew.on hbx, hrR.drew.on hbx, hrl.drew.on hbx, hsx⟩ ?_
            clear hK K
            refine plan_one _ rfl fun K hK => ?_
            go_simp
            refine (refNode_any DL DR LL.out LR.out _).mono ?_
            rintro e wy ⟨rfl, hby⟩
            have hby' := hbx'.trans (hby.mono hbx'.size)
            have hry := (hrl.drew.on hbx).on hby
            have hsy : ∀ j u, (bvs s)[j]? = some u → wy.cell? ((bd.add (q * 16)).add j) = some u := fun j u hu => (hby'.cell (by rw [block_of_add, block_of_add]; exact hbb)).trans ((HC0.out _ (by rw [block_of_add, block_of_add]; exact hbb)).trans (hsc j u hu))
            refine hK _ _ ⟨(hrg.drew.on hbx).on hby, (hrL.drew.on hbx).on hby, (hrR.drew.on hbx).on hby, hry, hsy⟩ ?_
            clear hK K
            repeat (refine plan_take _ rfl ?_; (first | (refine wpQuiet_valueG (o := ⟨some 140, _, _, _, _, _⟩) rfl _ (by intro _ h; exact exec_eql16 _ _ _ rfl (mNode s D1) (mNode DL DR) (mNode_len _ _) (mNode_len _ _) rfl rfl) (wpQuiet_nil ?_); simp only [Act.put, List.setIfInBounds_toArray, List.set_cons_zero, List.set_cons_succ]) | (go_big_quiet_step ((intros; rfl)); refine wpQuiet_nil ?_)))
            refine plan_done ?_
            go_wp2_with fail
            go_meet
            exact ⟨congrArg Value.bool HV.out.symm, hry, hby'⟩
          · cases hq2 : (D1 == DR)
            · have hv : cnd = (mNode s D1 == mNode DL DR) := by rw [HCN.out]; simp only [bne, hq1, hq2]; rfl
              have HV := Lib.hid hv
              clear hv
              refine wp_region_plan (fun w' => Row w' g 28 (bvs D1) ∧ Row w' w3.heap.size 28 (bvs DL) ∧ Row w' w6.heap.size 28 (bvs DR) ∧ Row w' w.heap.size 28 (bvs leaf) ∧ ∀ j u, (bvs s)[j]? = some u → w'.cell? ((bd.add (q * 16)).add j) = some u) (.take 0 <| .take 1 <| .take 2 <| .take 3 <| .take 4 <| .take 5 <| .take 6 <| .take 7 <| .take 8 <| .take 9 <| .take 10 <| .take 11 <| .take 12 <| .take 13 <| .take 14 <| .take 15 <| .take 16 <| .take 18 <| .take 19 <| .one 17 <| .one 20 <| .take 21 <| .take 22 <| .done) (by kernel_rfl) (by kernel_rfl) (by kernel_rfl) (fun _ _ _ _ _ h => h) ⟨hrg.drew, hrL.drew, hrR.drew, hrl.drew, hsc⟩ ?_
              repeat (refine plan_take _ rfl ?_; (first | (refine wpQuiet_valueG (o := ⟨some 122, _, _, _, _, _⟩) rfl _ (by intro _ h; exact exec_load16 _ _ rfl _ rfl s HS.out h.2.2.2.2) (wpQuiet_nil ?_); simp only [Act.put, List.setIfInBounds_toArray, List.set_cons_zero, List.set_cons_succ]) | (refine wpQuiet_valueG (o := ⟨some 123, _, _, _, _, _⟩) rfl _ (by intro _ h; exact exec_load16 _ _ rfl _ rfl DL LL.out h.2.1.cells) (wpQuiet_nil ?_); simp only [Act.put, List.setIfInBounds_toArray, List.set_cons_zero, List.set_cons_succ]) | (refine wpQuiet_valueG (o := ⟨some 124, _, _, _, _, _⟩) rfl _ (by intro _ h; exact exec_neq16 _ _ _ rfl s DL HS.out LL.out rfl rfl) (wpQuiet_nil ?_); simp only [hq1, Bool.not_true, Act.put, List.setIfInBounds_toArray, List.set_cons_zero, List.set_cons_succ]) | (refine wpQuiet_valueG (o := ⟨some 126, _, _, _, _, _⟩) rfl _ (by intro _ h; exact exec_load16 _ _ rfl _ rfl D1 HRL.out h.1.cells) (wpQuiet_nil ?_); simp only [Act.put, List.setIfInBounds_toArray, List.set_cons_zero, List.set_cons_succ]) | (refine wpQuiet_valueG (o := ⟨some 127, _, _, _, _, _⟩) rfl _ (by intro _ h; exact exec_load16 _ _ rfl _ rfl DR LR.out h.2.2.1.cells) (wpQuiet_nil ?_); simp only [Act.put, List.setIfInBounds_toArray, List.set_cons_zero, List.set_cons_succ]) | (refine wpQuiet_valueG (o := ⟨some 128, _, _, _, _, _⟩) rfl _ (by intro _ h; exact exec_neq16 _ _ _ rfl D1 DR HRL.out LR.out rfl rfl) (wpQuiet_nil ?_); simp only [hq2, Bool.not_false, Act.put, List.setIfInBounds_toArray, List.set_cons_zero, List.set_cons_succ]) | (refine wpQuiet_valueG (o := ⟨some 134, _, _, _, _, _⟩) rfl _ (by intro _ h; exact exec_load16 _ _ rfl _ rfl s HS.out h.2.2.2.2) (wpQuiet_nil ?_); simp only [Act.put, List.setIfInBounds_toArray, List.set_cons_zero, List.set_cons_succ]) | (refine wpQuiet_valueG (o := ⟨some 135, _, _, _, _, _⟩) rfl _ (by intro _ h; exact exec_load16 _ _ rfl _ rfl D1 HRL.out h.1.cells) (wpQuiet_nil ?_); simp only [Act.put, List.setIfInBounds_toArray, List.set_cons_zero, List.set_cons_succ]) | (refine wpQuiet_valueG (o := ⟨some 137, _, _, _, _, _⟩) rfl _ (by intro _ h; exact exec_load16 _ _ rfl _ rfl DL LL.out h.2.1.cells) (wpQuiet_nil ?_); simp only [Act.put, List.setIfInBounds_toArray, List.set_cons_zero, List.set_cons_succ]) | (refine wpQuiet_valueG (o := ⟨some 138, _, _, _, _, _⟩) rfl _ (by intro _ h; exact exec_load16 _ _ rfl _ rfl DR LR.out h.2.2.1.cells) (wpQuiet_nil ?_); simp only [Act.put, List.setIfInBounds_toArray, List.set_cons_zero, List.set_cons_succ]) | (go_big_quiet_step ((intros; rfl)); refine wpQuiet_nil ?_)))
              refine plan_one _ rfl fun K hK => ?_
              go_simp
              refine (refNode_any s D1 HS.out HRL.out _).mono ?_
              rintro e wx ⟨rfl, hbx⟩
              have hbx' := hbc.drew.trans (hbx.mono hbc.size)
              have hsx : ∀ j u, (bvs s)[j]? = some u → wx.cell? ((bd.add (q * 16)).add j) = some u := fun j u hu => (hbx'.cell (by rw [block_of_add, block_of_add]; exact hbb)).trans ((HC0.out _ (by rw [block_of_add, block_of_add]; exact hbb)).trans (hsc j u hu))
              refine hK _ _ ⟨hrg.drew.on hbx, hrL.drew.on hbx, hrR.drew.on hbx, hrl.drew.on hbx, hsx⟩ ?_
              clear hK K
              refine plan_one _ rfl fun K hK => ?_
              go_simp
              refine (refNode_any DL DR LL.out LR.out _).mono ?_
              rintro e wy ⟨rfl, hby⟩
              have hby' := hbx'.trans (hby.mono hbx'.size)
              have hry := (hrl.drew.on hbx).on hby
              have hsy : ∀ j u, (bvs s)[j]? = some u → wy.cell? ((bd.add (q * 16)).add j) = some u := fun j u hu => (hby'.cell (by rw [block_of_add, block_of_add]; exact hbb)).trans ((HC0.out _ (by rw [block_of_add, block_of_add]; exact hbb)).trans (hsc j u hu))
              refine hK _ _ ⟨(hrg.drew.on hbx).on hby, (hrL.drew.on hbx).on hby, (hrR.drew.on hbx).on hby, hry, hsy⟩ ?_
              clear hK K
              repeat (refine plan_take _ rfl ?_; (first | (refine wpQuiet_valueG (o := ⟨some 140, _, _, _, _, _⟩) rfl _ (by intro _ h; exact exec_eql16 _ _ _ rfl (mNode s D1) (mNode DL DR) (mNode_len _ _) (mNode_len _ _) rfl rfl) (wpQuiet_nil ?_); simp only [Act.put, List.setIfInBounds_toArray, List.set_cons_zero, List.set_cons_succ]) | (go_big_quiet_step ((intros; rfl)); refine wpQuiet_nil ?_)))
              refine plan_done ?_
              go_wp2_with fail
              go_meet
              exact ⟨congrArg Value.bool HV.out.symm, hry, hby'⟩
            · have hv : cnd = false := by rw [HCN.out]; simp only [bne, hq1, hq2]; rfl
              have HV := Lib.hid hv
              clear hv
              refine wp_region_plan (fun w' => Row w' g 28 (bvs D1) ∧ Row w' w3.heap.size 28 (bvs DL) ∧ Row w' w6.heap.size 28 (bvs DR) ∧ Row w' w.heap.size 28 (bvs leaf) ∧ ∀ j u, (bvs s)[j]? = some u → w'.cell? ((bd.add (q * 16)).add j) = some u) (.take 0 <| .take 1 <| .take 2 <| .take 3 <| .take 4 <| .take 5 <| .take 6 <| .take 7 <| .take 8 <| .take 9 <| .take 10 <| .take 11 <| .take 12 <| .take 13 <| .take 14 <| .take 15 <| .take 16 <| .take 18 <| .take 19 <| .one 17 <| .one 20 <| .take 21 <| .take 22 <| .done) (by kernel_rfl) (by kernel_rfl) (by kernel_rfl) (fun _ _ _ _ _ h => h) ⟨hrg.drew, hrL.drew, hrR.drew, hrl.drew, hsc⟩ ?_
              repeat (refine plan_take _ rfl ?_; (first | (refine wpQuiet_valueG (o := ⟨some 122, _, _, _, _, _⟩) rfl _ (by intro _ h; exact exec_load16 _ _ rfl _ rfl s HS.out h.2.2.2.2) (wpQuiet_nil ?_); simp only [Act.put, List.setIfInBounds_toArray, List.set_cons_zero, List.set_cons_succ]) | (refine wpQuiet_valueG (o := ⟨some 123, _, _, _, _, _⟩) rfl _ (by intro _ h; exact exec_load16 _ _ rfl _ rfl DL LL.out h.2.1.cells) (wpQuiet_nil ?_); simp only [Act.put, List.setIfInBounds_toArray, List.set_cons_zero, List.set_cons_succ]) | (refine wpQuiet_valueG (o := ⟨some 124, _, _, _, _, _⟩) rfl _ (by intro _ h; exact exec_neq16 _ _ _ rfl s DL HS.out LL.out rfl rfl) (wpQuiet_nil ?_); simp only [hq1, Bool.not_true, Act.put, List.setIfInBounds_toArray, List.set_cons_zero, List.set_cons_succ]) | (refine wpQuiet_valueG (o := ⟨some 126, _, _, _, _, _⟩) rfl _ (by intro _ h; exact exec_load16 _ _ rfl _ rfl D1 HRL.out h.1.cells) (wpQuiet_nil ?_); simp only [Act.put, List.setIfInBounds_toArray, List.set_cons_zero, List.set_cons_succ]) | (refine wpQuiet_valueG (o := ⟨some 127, _, _, _, _, _⟩) rfl _ (by intro _ h; exact exec_load16 _ _ rfl _ rfl DR LR.out h.2.2.1.cells) (wpQuiet_nil ?_); simp only [Act.put, List.setIfInBounds_toArray, List.set_cons_zero, List.set_cons_succ]) | (refine wpQuiet_valueG (o := ⟨some 128, _, _, _, _, _⟩) rfl _ (by intro _ h; exact exec_neq16 _ _ _ rfl D1 DR HRL.out LR.out rfl rfl) (wpQuiet_nil ?_); simp only [hq2, Bool.not_true, Act.put, List.setIfInBounds_toArray, List.set_cons_zero, List.set_cons_succ]) | (go_big_quiet_step ((intros; rfl)); refine wpQuiet_nil ?_)))
              refine plan_one _ rfl fun K hK => ?_
              go_simp
              refine hK _ _ ⟨hrg.drew, hrL.drew, hrR.drew, hrl.drew, hsc⟩ ?_
              clear hK K
              refine plan_one _ rfl fun K hK => ?_
              go_simp
              refine hK _ _ ⟨hrg.drew, hrL.drew, hrR.drew, hrl.drew, hsc⟩ ?_
              clear hK K
              repeat (refine plan_take _ rfl ?_; go_big_quiet_step ((intros; rfl)); refine wpQuiet_nil ?_)
              refine plan_done ?_
              go_wp2_with fail
              go_meet
              exact ⟨congrArg Value.bool HV.out.symm, hrl.drew, hbc.drew⟩
        case rest =>
          obtain ⟨rfl, hrd, hbd⟩ := hcut
          cases cnd with
          | true =>
            go_wp2_with fail
            go_ret
            exact ⟨rfl, hbd⟩
          | false =>
            go_wp2_with fail
            refine wp_region_plan (fun w' => Row w' w.heap.size 28 (bvs leaf)) (.take 0 <| .take 1 <| .take 2 <| .take 3 <| .take 4 <| .take 5 <| .take 6 <| .take 7 <| .take 8 <| .take 9 <| .one 10 <| .take 11 <| .done) (by kernel_rfl) (by kernel_rfl) (by kernel_rfl) (fun _ _ _ _ _ h => h) hrd.drew ?_
            repeat (refine plan_take _ rfl ?_; (first | (refine wpQuiet_valueG (o := ⟨some 148, _, _, _, _, _⟩) rfl _ (by intro _ h; exact exec_load16 _ _ rfl _ rfl leaf HL.out h.cells) (wpQuiet_nil ?_); simp only [Act.put, List.setIfInBounds_toArray, List.set_cons_zero, List.set_cons_succ]) | (go_big_quiet_step ((intros; rfl)); refine wpQuiet_nil ?_)))
            refine plan_one _ rfl fun K hK => ?_
            go_simp
            refine (HG _ hbd.drew).out.mono ?_
            rintro e wx ⟨rfl, hbx⟩
            refine hK _ _ (hrd.drew.on hbx) ?_
            clear hK K
            repeat (refine plan_take _ rfl ?_; go_big_quiet_step ((intros; rfl)); refine wpQuiet_nil ?_)
            refine plan_done ?_
            go_wp2_with fail
            go_ret
            exact ⟨rfl, hbd.drew.trans (hbx.mono hbd.size)⟩
end Go.Proofs.YtpmkjnmddglckaaDoor
