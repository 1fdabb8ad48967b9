/-
  What the reference's combine and Verify return: contracts by walks, combine's by induction on the length of the proof. Conditions: bounded sizes; an index of the tree.
-/
import Derived.Test.YtpmkjnmddglckaaDoorRMk
import Derived.Test.YtpmkjnmddglckaaDoorFlat
namespace Go.Proofs.YtpmkjnmddglckaaDoor
open Go.RowKit

/-- What a proof (from the leaf up) yields. -/
def combL (leaf : List UInt8) (p : List (List UInt8)) (n i : Nat) : List UInt8 × Bool := comb leaf p.reverse n i
theorem combL_len (leaf : List UInt8) (p : List (List UInt8)) (n i : Nat) : (combL leaf p n i).1.length = 16 := comb_len _ _ _ _
theorem combL_one (leaf : List UInt8) (p : List (List UInt8)) (i : Nat) : combL leaf p 1 i = (mLeaf leaf, decide (p.length = 0)) := by
  unfold combL
  rcases p.eq_nil_or_concat with rfl | ⟨q, s, rfl⟩
  · simp [comb]
  · simp [comb]
theorem combL_nil (leaf : List UInt8) {n : Nat} (h : n ≠ 1) (i : Nat) : combL leaf [] n i = (zero16B, false) := by
  unfold combL
  rw [List.reverse_nil, comb, if_neg h]
theorem rev_snoc {α : Type} {p : List α} {q : Nat} {s : α} (hl : p.length = q + 1) (hs : p[q]? = some s) : p.reverse = s :: (p.take q).reverse := by
  have e : p = p.take q ++ [s] := by
    have := List.take_add_one (l := p) (i := q)
    rw [List.take_of_length_le (by omega), hs] at this
    simpa using this
  have : p.reverse = (p.take q ++ [s]).reverse := by rw [← e]
  rw [this, List.reverse_append]
  rfl
theorem combL_left (leaf : List UInt8) {p : List (List UInt8)} {n i q : Nat} {s : List UInt8} (h : n ≠ 1) (hl : p.length = q + 1) (hs : p[q]? = some s) (hi : i < split n) :
    combL leaf p n i = (mNode (combL leaf (p.take q) (split n) i).1 s, (combL leaf (p.take q) (split n) i).2) := by
  unfold combL
  rw [rev_snoc hl hs, comb, if_neg h, if_pos hi]
theorem combL_right (leaf : List UInt8) {p : List (List UInt8)} {n i q : Nat} {s : List UInt8} (h : n ≠ 1) (hl : p.length = q + 1) (hs : p[q]? = some s) (hi : ¬ i < split n) :
    combL leaf p n i = (mNode s (combL leaf (p.take q) (n - split n) (i - split n)).1, (combL leaf (p.take q) (n - split n) (i - split n)).2) := by
  unfold combL
  rw [rev_snoc hl hs, comb, if_neg h, if_neg hi]

/-- A digest and a bool come back; nothing that was there has changed. -/
def GivesDB (r : List UInt8 × Bool) (w : World) (e : Ending) (w' : World) : Prop :=
  e = .returned (.tuple #[.agg (bvs r.1).toArray, .bool r.2]) ∧ Below w.heap.size w w'
theorem results_cell2 {P : Program} {fn : Func} {p t : Tmp} {ty : TypeId} (h : fn.results = #[.cell p ty, .tmp t]) (tmps : Array Value) (w : World) (ad : Addr) (x : Value) (hp : tmps.getD p undef = .pointer (some ad))
    (hl : (loadVar ty ad).run P w = .ok x w) : (results fn tmps).run P w = .ok (.tuple #[x, tmps.getD t undef]) w := by
  have hp' : tmps[p]?.getD undef = .pointer (some ad) := by simpa using hp
  simp [results, h, hp', asAddr, hl]

theorem int_eq0 (q : Nat) : ((q : Int) == 0) = decide (q = 0) := by rw [Bool.eq_iff_iff]; simp
set_option maxRecDepth 100000 in
set_option maxHeartbeats 1000000 in
theorem combine_one (A : Option Addr) (c q i : Nat) (leaf : List UInt8) (p : List (List UInt8)) (w : World) (hl : leaf.length = 16) (hr : ReadsD w A q p) :
    Calls Tryd.prog 31 #[.int .i64 1, .int .i64 (i : Int), .agg (bvs leaf).toArray, .slice A q c] w (GivesDB (combL leaf p 1 i) w) := by
  rw [combL_one, hr.len]
  have HL := Lib.hid hl
  have HRL := Lib.hid (mLeaf_len leaf)
  have HLF := fun W => Lib.hid (refLeaf_any leaf hl W)
  clear hl
  generalize mLeaf leaf = D at *
  go_enter Tryd.func31, Tryd.ntmps31
  go_wp2_with (first
    | (with_reducible refine wpList_box_row (o := ⟨some 6, _, _, _, _, _⟩) rfl _ _ rfl (bvs leaf) rfl ?_; intro w1 hrow1 hs1 hg1)
    | (with_reducible refine wpList_alloc_row (o := ⟨some 8, _, _, _, _, _⟩) rfl _ rfl zeros16 zero_b16 ?_; intro w2 hrow2 hs2 hg2; have hrow1' := hrow1.kept hg2 (by simp))
    | (with_reducible refine wpList_load_all (o := ⟨some 18, _, _, _, _, _⟩) rfl _ _ rfl w.heap.size rfl _ _ hrow1' _ Tryd.underlying28 rfl (b16_size _ HL.out) ?_))
  refine (HLF _).out.mono ?_
  rintro e w3 ⟨rfl, hb3⟩
  have hb2 : Below w.heap.size w w2 := below_kept (grown_below hg1 (Nat.le_refl _) (by simp)) hg2 (by omega) (by simp)
  have hrow3 := hrow2.on hb3
  have hb3' := hb2.trans (hb3.mono hb2.size)
  clear hg1 hg2
  go_wp2_with (with_reducible refine wpList_store_all (o := ⟨none, _, _, _, _, _⟩) rfl _ _ _ rfl w1.heap.size rfl _ _ hrow3 (bvs D) rfl (bvs_one _) (b16_zeros _ HRL.out) (b16_size _ HRL.out) ?_; intro wz hrowz hgz)
  have hload := run_loadVar_at (P := Tryd.prog) wz 28 ⟨w1.heap.size, 0, none⟩ (bvs D) hrowz.cells _ Tryd.underlying28 rfl (b16_size _ HRL.out)
  refine bodyPost_ret (results_cell2 Tryd.results31 _ _ _ _ rfl hload) rfl ⟨?_, below_kept hb3' hgz hb3'.size (by rintro k hk; cases hk; omega)⟩
  simp [int_eq0]
set_option maxRecDepth 100000 in
set_option maxHeartbeats 1000000 in
theorem combine_nil (A : Option Addr) (c n i : Nat) (leaf : List UInt8) (w : World) (hl : leaf.length = 16) (hn : 2 ≤ n) (hn2 : n ≤ 1000000000) :
    Calls Tryd.prog 31 #[.int .i64 (n : Int), .int .i64 (i : Int), .agg (bvs leaf).toArray, .slice A 0 c] w (GivesDB (combL leaf [] n i) w) := by
  rw [combL_nil leaf (by omega)]
  have HL := Lib.hid hl
  have HRL : Hid (zero16B.length = 16) := rfl
  clear hl
  go_enter Tryd.func31, Tryd.ntmps31
  go_wp2_with (first
    | (with_reducible refine wpList_box_row (o := ⟨some 6, _, _, _, _, _⟩) rfl _ _ rfl (bvs leaf) rfl ?_; intro w1 hrow1 hs1 hg1)
    | (with_reducible refine wpList_alloc_row (o := ⟨some 8, _, _, _, _, _⟩) rfl _ rfl zeros16 zero_b16 ?_; intro w2 hrow2 hs2 hg2)
    | (refine wpList_store_all (o := ⟨none, _, _, _, _, _⟩) rfl _ _ _ rfl w1.heap.size rfl _ _ hrow2 (bvs zero16B) rfl (bvs_one _) (b16_zeros _ HRL.out) (b16_size _ HRL.out) ?_; intro wz hrowz hgz))
  have hb2 : Below w.heap.size w w2 := below_kept (grown_below hg1 (Nat.le_refl _) (by simp)) hg2 (by omega) (by simp)
  have hload := run_loadVar_at (P := Tryd.prog) wz 28 ⟨w1.heap.size, 0, none⟩ (bvs zero16B) hrowz.cells _ Tryd.underlying28 rfl (b16_size _ HRL.out)
  exact bodyPost_ret (results_cell2 Tryd.results31 _ _ _ _ rfl hload) rfl ⟨rfl, below_kept hb2 hgz hb2.size (by rintro k hk; cases hk; omega)⟩

set_option maxRecDepth 100000 in
set_option maxHeartbeats 2000000 in
theorem combine_any (m : Nat) : ∀ (A : Option Addr) (c q n i : Nat) (leaf : List UInt8) (p : List (List UInt8)) (w : World), q ≤ m → leaf.length = 16 → ReadsD w A q p → q ≤ c → q ≤ 1000 → 1 ≤ n → n ≤ 1000000000 → i < n →
    Calls Tryd.prog 31 #[.int .i64 (n : Int), .int .i64 (i : Int), .agg (bvs leaf).toArray, .slice A q c] w (GivesDB (combL leaf p n i) w) := by
  induction m with
  | zero =>
    intro A c q n i leaf p w hm hl hr hc hq hn1 hn hi
    by_cases h1 : n = 1
    · subst h1; exact combine_one A c q i leaf p w hl hr
    · obtain rfl : q = 0 := by omega
      obtain rfl : p = [] := List.eq_nil_of_length_eq_zero hr.len
      exact combine_nil A c n i leaf w hl (by omega) hn
  | succ m ih =>
    intro A c q n i leaf p w hm hl hr hc hq hn1 hn hi
    by_cases h1 : n = 1
    · subst h1; exact combine_one A c q i leaf p w hl hr
    by_cases h0 : q = 0
    · subst h0
      obtain rfl : p = [] := List.eq_nil_of_length_eq_zero hr.len
      exact combine_nil A c n i leaf w hl (by omega) hn
    obtain ⟨q, rfl⟩ : ∃ r, q = r + 1 := ⟨q - 1, by omega⟩
    obtain ⟨ad, s, rfl, hab, hs, hs16, hcl⟩ := hr.1.dig_at hr.2 (k := q) (by omega)
    have h2 : 2 ≤ n := by omega
    have HS1 := split_pos n
    have HS2 := split_lt h2
    have HLN := Lib.hid hr.len
    have hr1 := hr.first (k := q) (by omega)
    have HSP := fun W => Lib.hid (refSplit_any n h2 hn W)
    have HC := Lib.hid hcl
    have HS := Lib.hid hs16
    have HL := Lib.hid hl
    by_cases hik : i < split n
    · have HP := fun W hW => Lib.hid (ih (some ad) c q (split n) i leaf (p.take q) W (by omega) hl (hr1.on hW) (by omega) (by omega) (by omega) (by omega) hik)
      have HE := Lib.hid (combL_left leaf (n := n) (i := i) (by omega) hr.len hs hik)
      have HRL := Lib.hid (combL_len leaf (p.take q) (split n) i)
      have HNL := Lib.hid (combL_len leaf p n i)
      generalize combL leaf p n i = R at *
      generalize combL leaf (p.take q) (split n) i = R1 at *
      obtain ⟨D1, ok⟩ := R1
      obtain ⟨D, okR⟩ := R
      have hD : D = mNode D1 s := congrArg Prod.fst HE.out
      have hok : okR = ok := congrArg Prod.snd HE.out
      subst hok
      have HD := Lib.hid hD
      clear hD HE
      generalize split n = k at *
      clear hr1 ih hcl hs16 hl hs
      go_enter Tryd.func31, Tryd.ntmps31
      go_wp2_with (first
        | (with_reducible refine wpList_box_row (o := ⟨some 6, _, _, _, _, _⟩) rfl _ _ rfl (bvs leaf) rfl ?_; intro w1 hrow1 hs1 hg1)
        | (with_reducible refine wpList_alloc_row (o := ⟨some 8, _, _, _, _, _⟩) rfl _ rfl zeros16 zero_b16 ?_; intro w2 hrow2 hs2 hg2; have hrow1' := hrow1.kept hg2 (by simp)))
      have hb2 : Below w.heap.size w w2 := below_kept (grown_below hg1 (Nat.le_refl _) (by simp)) hg2 (by omega) (by simp)
      clear hg1 hg2 hrow1
      refine (HSP _).out.mono ?_
      rintro e w3 ⟨rfl, rfl⟩
      clear HSP
      go_wp2_with fail
      go_cut [12, 13] (fun s1 s2 wc => ∃ g, s1 = .pointer (some ⟨g, 0, none⟩) ∧ s2 = .bool okR ∧ w1.heap.size < g ∧ Row wc g 28 (bvs D1) ∧ Row wc w1.heap.size 28 zeros16 ∧ Below w.heap.size w wc)
      case first =>
        refine wp_region_plan (fun w' => Row w' w.heap.size 28 (bvs leaf)) (.take 0 <| .take 1 <| .take 2 <| .take 3 <| .take 4 <| .take 5 <| .two 6 (.take 7 <| .take 8 <| .take 9 <| .one 10 <| .one 11 <| .take 12 <| .done) 10 (.one 6 <| .take 7 <| .take 8 <| .take 9 <| .one 11 <| .take 12 <| .done)) (by kernel_rfl) (by kernel_rfl) (by kernel_rfl) (fun _ _ _ _ _ h => h) hrow1'.drew ?_
        repeat (refine plan_take _ rfl ?_; (first
          | (refine wpQuiet_load_all (o := ⟨some 38, _, _, _, _, _⟩) rfl _ _ rfl w.heap.size rfl _ _ (fun _ h => h) _ Tryd.underlying28 rfl (b16_size _ HL.out) (wpQuiet_nil ?_); simp only [Act.put, List.setIfInBounds_toArray, List.set_cons_zero, List.set_cons_succ])
          | (go_big_quiet_step ((intros; rfl)); refine wpQuiet_nil ?_)))
        have hlt3 := hrow2.lt
        refine plan_two ?_ ?_
        · refine step_at _ rfl fun K hK => ?_
          go_simp
          refine (HP _ hb2.drew).out.mono ?_
          rintro e w4 ⟨rfl, hb4⟩
          have hb4' := hb2.drew.trans (hb4.mono hb2.size)
          have hrow4 := hrow2.drew.on hb4
          have hlt4 := hrow4.lt
          refine hK _ _ (hrow1'.drew.on hb4) ?_
          clear hK K
          repeat (refine plan_take _ rfl ?_; go_big_quiet_step ((intros; rfl)); refine wpQuiet_nil ?_)
          refine plan_one _ rfl fun K hK => step_alloc rfl _ rfl zeros16 zero_b16 ?_
          intro w5 hrow5 hs5 hg5
          have hrl5 := (hrow1'.drew.on hb4).kept hg5 (by simp)
          refine hK _ _ hrl5 ?_
          clear hK K
          simp only [Act.put, List.setIfInBounds_toArray, List.set_cons_zero, List.set_cons_succ]
          refine plan_one _ rfl fun K hK => step_store_all rfl _ _ _ rfl w4.heap.size rfl _ _ hrow5 (bvs D1) rfl (bvs_one _) (b16_zeros _ HRL.out) (b16_size _ HRL.out) ?_
          intro wz rz gz
          refine hK _ _ (hrl5.kept gz (by simp; omega)) ?_
          clear hK K
          simp only [Act.put]
          repeat (refine plan_take _ rfl ?_; go_big_quiet_step ((intros; rfl)); refine wpQuiet_nil ?_)
          refine plan_done ?_
          go_wp2_with fail
          go_meet
          exact ⟨w4.heap.size, rfl, rfl, hlt4, rz, (hrow4.kept hg5 (by simp)).kept gz (by simp; omega), below_kept (below_kept hb4' hg5 hb4'.size (by simp)) gz (by have := hb4'.size; omega) (by rintro k hk; cases hk; exact hb4'.size)⟩
        · refine step_at _ rfl fun K hK => step_alloc rfl _ rfl zeros16 zero_b16 ?_
          intro w5 hrow5 hs5 hg5
          have hrl5 := hrow1'.drew.kept hg5 (by simp)
          have hrow6 := hrow2.drew.kept hg5 (by simp)
          have hb5 := below_kept hb2.drew hg5 hb2.size (by simp)
          refine hK _ _ hrl5 ?_
          clear hK K
          simp only [Act.put, List.setIfInBounds_toArray, List.set_cons_zero, List.set_cons_succ]
          refine plan_one _ rfl fun K hK => ?_
          go_simp
          refine (HP _ hb5).out.mono ?_
          rintro e w6 ⟨rfl, hb6⟩
          have hb6' := hb5.trans (hb6.mono hb5.size)
          refine hK _ _ (hrl5.on hb6) ?_
          clear hK K
          repeat (refine plan_take _ rfl ?_; go_big_quiet_step ((intros; rfl)); refine wpQuiet_nil ?_)
          refine plan_one _ rfl fun K hK => step_store_all rfl _ _ _ rfl w3.drew.heap.size rfl _ _ (hrow5.on hb6) (bvs D1) rfl (bvs_one _) (b16_zeros _ HRL.out) (b16_size _ HRL.out) ?_
          intro wz rz gz
          refine hK _ _ ((hrl5.on hb6).kept gz (by simp; omega)) ?_
          clear hK K
          simp only [Act.put]
          repeat (refine plan_take _ rfl ?_; go_big_quiet_step ((intros; rfl)); refine wpQuiet_nil ?_)
          refine plan_done ?_
          go_wp2_with fail
          go_meet
          exact ⟨_, rfl, rfl, hlt3, rz, (hrow6.on hb6).kept gz (by simp; omega), below_kept hb6' gz hb6'.size (by rintro k hk; cases hk; exact hb2.size)⟩
      case rest =>
        obtain ⟨g, rfl, rfl, hg, hrowg, hrowr, hbc⟩ := hcut
        have hsc : ∀ j u, (bvs s)[j]? = some u → wc.cell? ((ad.add (q * 16)).add j) = some u := fun j u hu => by
          rw [add_of_add]
          exact (hbc.cell (by rw [block_of_add]; exact hab)).trans (HC.out j u hu)
        have HSC := Lib.hid hsc
        clear hsc hrow2 hrow1' hb2 HP
        go_wp2_with fail

        refine wp_region_plan (fun w' => Row w' g 28 (bvs D1) ∧ ∀ j u, (bvs s)[j]? = some u → w'.cell? ((ad.add (q * 16)).add j) = some u) (.take 0 <| .take 1 <| .take 2 <| .take 3 <| .take 4 <| .take 6 <| .one 5 <| .one 7 <| .take 8 <| .done) (by kernel_rfl) (by kernel_rfl) (by kernel_rfl) (fun _ _ _ _ _ h => h) ⟨hrowg.drew, fun j u hu => HSC.out j u hu⟩ ?_
        repeat (refine plan_take _ rfl ?_; (first
          | (refine wpQuiet_load_all (o := ⟨some 45, _, _, _, _, _⟩) rfl _ _ rfl g rfl _ _ (fun _ h => h.1) _ Tryd.underlying28 rfl (b16_size _ HRL.out) (wpQuiet_nil ?_); simp only [Act.put, List.setIfInBounds_toArray, List.set_cons_zero, List.set_cons_succ])
          | (refine wpQuiet_valueK (o := ⟨some 49, _, _, _, _, _⟩) rfl _ (by intro _ h; exact exec_load _ _ _ rfl _ rfl (bvs s) h.2 _ Tryd.underlying28 rfl (b16_size _ HS.out)) (fun K hK => ?_); go_simp; refine hK _ ?_; clear hK K; refine wpQuiet_nil ?_)
          | (go_big_quiet_step ((intros; rfl)); refine wpQuiet_nil ?_)))
        refine plan_one _ rfl fun K hK => ?_
        go_simp
        refine (refNode_any D1 s HRL.out HS.out _).mono ?_
        rintro e w7 ⟨rfl, hb7⟩
        rw [← HD.out]
        have hb7' := hbc.drew.trans (hb7.mono hbc.size)
        have hrowr7 := hrowr.drew.on hb7
        have hlt7 := hrowr7.lt
        refine hK _ _ ⟨hrowg.drew.on hb7, fun j u hu => (hb7.cell (Nat.lt_of_lt_of_le (by rw [block_of_add, block_of_add]; exact hab) hbc.size)).trans (HSC.out j u hu)⟩ ?_
        clear hK K
        refine plan_one _ rfl fun K hK => step_store_all rfl _ _ _ rfl w1.heap.size rfl _ _ hrowr7 (bvs D) rfl (bvs_one _) (b16_zeros _ HNL.out) (b16_size _ HNL.out) ?_
        intro wz rz gz
        have hbz := below_kept hb7' gz hb7'.size (by rintro k hk; cases hk; omega)
        refine hK _ _ ⟨(hrowg.drew.on hb7).kept gz (by simp; omega), fun j u hu => (hbz.cell (by rw [block_of_add, block_of_add]; exact hab)).trans ((hbc.cell (by rw [block_of_add, block_of_add]; exact hab)).symm.trans (HSC.out j u hu))⟩ ?_
        clear hK K
        simp only [Act.put]
        repeat (refine plan_take _ rfl ?_; go_big_quiet_step ((intros; rfl)); refine wpQuiet_nil ?_)
        refine plan_done ?_
        go_wp2_with fail
        have hload := run_loadVar_at (P := Tryd.prog) wz 28 ⟨w1.heap.size, 0, none⟩ (bvs D) rz.cells _ Tryd.underlying28 rfl (b16_size _ HNL.out)
        exact bodyPost_ret (results_cell2 Tryd.results31 _ _ _ _ rfl hload) rfl ⟨rfl, hbz⟩
    · have HP := fun W hW => Lib.hid (ih (some ad) c q (n - split n) (i - split n) leaf (p.take q) W (by omega) hl (hr1.on hW) (by omega) (by omega) (by omega) (by omega) (by omega))
      simp only [show ((i - split n : Nat) : Int) = (i : Int) - (split n : Int) from by omega, show ((n - split n : Nat) : Int) = (n : Int) - (split n : Int) from by omega] at HP
      have hik2 : split n ≤ i := by omega
      have HE := Lib.hid (combL_right leaf (n := n) (i := i) (by omega) hr.len hs hik)
      have HRL := Lib.hid (combL_len leaf (p.take q) (n - split n) (i - split n))
      have HNL := Lib.hid (combL_len leaf p n i)
      generalize combL leaf p n i = R at *
      generalize combL leaf (p.take q) (n - split n) (i - split n) = R1 at *
      obtain ⟨D1, ok⟩ := R1
      obtain ⟨D, okR⟩ := R
      have hD : D = mNode s D1 := congrArg Prod.fst HE.out
      have hok : okR = ok := congrArg Prod.snd HE.out
      subst hok
      have HD := Lib.hid hD
      clear hD HE
      generalize split n = k at *
      clear hr1 ih hcl hs16 hl hs
      go_enter Tryd.func31, Tryd.ntmps31
      go_wp2_with (first
        | (with_reducible refine wpList_box_row (o := ⟨some 6, _, _, _, _, _⟩) rfl _ _ rfl (bvs leaf) rfl ?_; intro w1 hrow1 hs1 hg1)
        | (with_reducible refine wpList_alloc_row (o := ⟨some 8, _, _, _, _, _⟩) rfl _ rfl zeros16 zero_b16 ?_; intro w2 hrow2 hs2 hg2; have hrow1' := hrow1.kept hg2 (by simp)))
      have hb2 : Below w.heap.size w w2 := below_kept (grown_below hg1 (Nat.le_refl _) (by simp)) hg2 (by omega) (by simp)
      clear hg1 hg2 hrow1
      refine (HSP _).out.mono ?_
      rintro e w3 ⟨rfl, rfl⟩
      clear HSP
      go_wp2_with fail
      go_cut [14, 15] (fun s1 s2 wc => ∃ g, s1 = .pointer (some ⟨g, 0, none⟩) ∧ s2 = .bool okR ∧ w1.heap.size < g ∧ Row wc g 28 (bvs D1) ∧ Row wc w1.heap.size 28 zeros16 ∧ Below w.heap.size w wc)
      case first =>
        refine wp_region_plan (fun w' => Row w' w.heap.size 28 (bvs leaf)) (.take 0 <| .take 1 <| .take 2 <| .take 3 <| .take 4 <| .take 5 <| .take 6 <| .take 7 <| .take 8 <| .take 9 <| .two 10 (.take 11 <| .take 12 <| .take 13 <| .one 14 <| .one 15 <| .take 16 <| .done) 14 (.one 10 <| .take 11 <| .take 12 <| .take 13 <| .one 15 <| .take 16 <| .done)) (by kernel_rfl) (by kernel_rfl) (by kernel_rfl) (fun _ _ _ _ _ h => h) hrow1'.drew ?_
        repeat (refine plan_take _ rfl ?_; (first
          | (refine wpQuiet_load_all (o := ⟨some 59, _, _, _, _, _⟩) rfl _ _ rfl w.heap.size rfl _ _ (fun _ h => h) _ Tryd.underlying28 rfl (b16_size _ HL.out) (wpQuiet_nil ?_); simp only [Act.put, List.setIfInBounds_toArray, List.set_cons_zero, List.set_cons_succ])
          | (go_big_quiet_step ((intros; rfl)); refine wpQuiet_nil ?_)))
        have hlt3 := hrow2.lt
        refine plan_two ?_ ?_
        · refine step_at _ rfl fun K hK => ?_
          go_simp
          refine (HP _ hb2.drew).out.mono ?_
          rintro e w4 ⟨rfl, hb4⟩
          have hb4' := hb2.drew.trans (hb4.mono hb2.size)
          have hrow4 := hrow2.drew.on hb4
          have hlt4 := hrow4.lt
          refine hK _ _ (hrow1'.drew.on hb4) ?_
          clear hK K
          repeat (refine plan_take _ rfl ?_; go_big_quiet_step ((intros; rfl)); refine wpQuiet_nil ?_)
          refine plan_one _ rfl fun K hK => step_alloc rfl _ rfl zeros16 zero_b16 ?_
          intro w5 hrow5 hs5 hg5
          have hrl5 := (hrow1'.drew.on hb4).kept hg5 (by simp)
          refine hK _ _ hrl5 ?_
          clear hK K
          simp only [Act.put, List.setIfInBounds_toArray, List.set_cons_zero, List.set_cons_succ]
          refine plan_one _ rfl fun K hK => step_store_all rfl _ _ _ rfl w4.heap.size rfl _ _ hrow5 (bvs D1) rfl (bvs_one _) (b16_zeros _ HRL.out) (b16_size _ HRL.out) ?_
          intro wz rz gz
          refine hK _ _ (hrl5.kept gz (by simp; omega)) ?_
          clear hK K
          simp only [Act.put]
          repeat (refine plan_take _ rfl ?_; go_big_quiet_step ((intros; rfl)); refine wpQuiet_nil ?_)
          refine plan_done ?_
          go_wp2_with fail
          go_meet
          exact ⟨w4.heap.size, rfl, rfl, hlt4, rz, (hrow4.kept hg5 (by simp)).kept gz (by simp; omega), below_kept (below_kept hb4' hg5 hb4'.size (by simp)) gz (by have := hb4'.size; omega) (by rintro k hk; cases hk; exact hb4'.size)⟩
        · refine step_at _ rfl fun K hK => step_alloc rfl _ rfl zeros16 zero_b16 ?_
          intro w5 hrow5 hs5 hg5
          have hrl5 := hrow1'.drew.kept hg5 (by simp)
          have hrow6 := hrow2.drew.kept hg5 (by simp)
          have hb5 := below_kept hb2.drew hg5 hb2.size (by simp)
          refine hK _ _ hrl5 ?_
          clear hK K
          simp only [Act.put, List.setIfInBounds_toArray, List.set_cons_zero, List.set_cons_succ]
          refine plan_one _ rfl fun K hK => ?_
          go_simp
          refine (HP _ hb5).out.mono ?_
          rintro e w6 ⟨rfl, hb6⟩
          have hb6' := hb5.trans (hb6.mono hb5.size)
          refine hK _ _ (hrl5.on hb6) ?_
          clear hK K
          repeat (refine plan_take _ rfl ?_; go_big_quiet_step ((intros; rfl)); refine wpQuiet_nil ?_)
          refine plan_one _ rfl fun K hK => step_store_all rfl _ _ _ rfl w3.drew.heap.size rfl _ _ (hrow5.on hb6) (bvs D1) rfl (bvs_one _) (b16_zeros _ HRL.out) (b16_size _ HRL.out) ?_
          intro wz rz gz
          refine hK _ _ ((hrl5.on hb6).kept gz (by simp; omega)) ?_
          clear hK K
          simp only [Act.put]
          repeat (refine plan_take _ rfl ?_; go_big_quiet_step ((intros; rfl)); refine wpQuiet_nil ?_)
          refine plan_done ?_
          go_wp2_with fail
          go_meet
          exact ⟨_, rfl, rfl, hlt3, rz, (hrow6.on hb6).kept gz (by simp; omega), below_kept hb6' gz hb6'.size (by rintro k hk; cases hk; exact hb2.size)⟩
      case rest =>
        obtain ⟨g, rfl, rfl, hg, hrowg, hrowr, hbc⟩ := hcut
        have hsc : ∀ j u, (bvs s)[j]? = some u → wc.cell? ((ad.add (q * 16)).add j) = some u := fun j u hu => by
          rw [add_of_add]
          exact (hbc.cell (by rw [block_of_add]; exact hab)).trans (HC.out j u hu)
        have HSC := Lib.hid hsc
        clear hsc hrow2 hrow1' hb2 HP
        go_wp2_with fail

        refine wp_region_plan (fun w' => Row w' g 28 (bvs D1) ∧ ∀ j u, (bvs s)[j]? = some u → w'.cell? ((ad.add (q * 16)).add j) = some u) (.take 0 <| .take 1 <| .take 2 <| .take 3 <| .take 4 <| .take 6 <| .one 5 <| .one 7 <| .take 8 <| .done) (by kernel_rfl) (by kernel_rfl) (by kernel_rfl) (fun _ _ _ _ _ h => h) ⟨hrowg.drew, fun j u hu => HSC.out j u hu⟩ ?_
        repeat (refine plan_take _ rfl ?_; (first
          | (refine wpQuiet_load_all (o := ⟨some 70, _, _, _, _, _⟩) rfl _ _ rfl g rfl _ _ (fun _ h => h.1) _ Tryd.underlying28 rfl (b16_size _ HRL.out) (wpQuiet_nil ?_); simp only [Act.put, List.setIfInBounds_toArray, List.set_cons_zero, List.set_cons_succ])
          | (refine wpQuiet_valueK (o := ⟨some 69, _, _, _, _, _⟩) rfl _ (by intro _ h; exact exec_load _ _ _ rfl _ rfl (bvs s) h.2 _ Tryd.underlying28 rfl (b16_size _ HS.out)) (fun K hK => ?_); go_simp; refine hK _ ?_; clear hK K; refine wpQuiet_nil ?_)
          | (go_big_quiet_step ((intros; rfl)); refine wpQuiet_nil ?_)))
        refine plan_one _ rfl fun K hK => ?_
        go_simp
        refine (refNode_any s D1 HS.out HRL.out _).mono ?_
        rintro e w7 ⟨rfl, hb7⟩
        rw [← HD.out]
        have hb7' := hbc.drew.trans (hb7.mono hbc.size)
        have hrowr7 := hrowr.drew.on hb7
        have hlt7 := hrowr7.lt
        refine hK _ _ ⟨hrowg.drew.on hb7, fun j u hu => (hb7.cell (Nat.lt_of_lt_of_le (by rw [block_of_add, block_of_add]; exact hab) hbc.size)).trans (HSC.out j u hu)⟩ ?_
        clear hK K
        refine plan_one _ rfl fun K hK => step_store_all rfl _ _ _ rfl w1.heap.size rfl _ _ hrowr7 (bvs D) rfl (bvs_one _) (b16_zeros _ HNL.out) (b16_size _ HNL.out) ?_
        intro wz rz gz
        have hbz := below_kept hb7' gz hb7'.size (by rintro k hk; cases hk; omega)
        refine hK _ _ ⟨(hrowg.drew.on hb7).kept gz (by simp; omega), fun j u hu => (hbz.cell (by rw [block_of_add, block_of_add]; exact hab)).trans ((hbc.cell (by rw [block_of_add, block_of_add]; exact hab)).symm.trans (HSC.out j u hu))⟩ ?_
        clear hK K
        simp only [Act.put]
        repeat (refine plan_take _ rfl ?_; go_big_quiet_step ((intros; rfl)); refine wpQuiet_nil ?_)
        refine plan_done ?_
        go_wp2_with fail
        have hload := run_loadVar_at (P := Tryd.prog) wz 28 ⟨w1.heap.size, 0, none⟩ (bvs D) rz.cells _ Tryd.underlying28 rfl (b16_size _ HNL.out)
        exact bodyPost_ret (results_cell2 Tryd.results31 _ _ _ _ rfl hload) rfl ⟨rfl, hbz⟩
end Go.Proofs.YtpmkjnmddglckaaDoor
