/-
  What merkle.Verify returns: contracts by walks, with what they rest on without a program. Conditions: the table of constants as laid; sizes of at most 1000. (With these, all contracts of package merkle are here: Root and Prove are imported.)
-/
import Derived.Test.YtpmkjnmddglckaaDoorTurn
import Derived.Test.YtpmkjnmddglckaaDoorProvP
import Derived.Test.YtpmkjnmddglckaaDoorRVer
import Derived.Test.YtpmkjnmddglckaaDoorRSame
namespace Go.Proofs.YtpmkjnmddglckaaDoor
open Go.RowKit

/-- What the first k elements of a proof yield, from the leaf up, on the sides given. -/
def upK (leaf : List UInt8) (T : List Bool) (p : List (List UInt8)) : Nat → List UInt8
  | 0 => mLeaf leaf
  | k + 1 => if T.getD k false then mNode (p.getD k []) (upK leaf T p k) else mNode (upK leaf T p k) (p.getD k [])
theorem upK_len (leaf : List UInt8) (T : List Bool) (p : List (List UInt8)) (k : Nat) : (upK leaf T p k).length = 16 := by
  cases k with
  | zero => exact mLeaf_len _
  | succ k => unfold upK; split <;> exact mNode_len _ _
theorem upK_congr (leaf : List UInt8) (T T' : List Bool) (p p' : List (List UInt8)) : ∀ k, (∀ j, j < k → T.getD j false = T'.getD j false) → (∀ j, j < k → p.getD j [] = p'.getD j []) → upK leaf T p k = upK leaf T' p' k
  | 0, _, _ => rfl
  | k + 1, h1, h2 => by
    unfold upK
    rw [h1 k (by omega), h2 k (by omega), upK_congr leaf T T' p p' k (fun j hj => h1 j (by omega)) (fun j hj => h2 j (by omega))]
theorem upK_comb (leaf : List UInt8) (m : Nat) : ∀ (n i : Nat) (p : List (List UInt8)), n ≤ m → 1 ≤ n → p.length = plen n i → upK leaf (turns n i) p p.length = (combL leaf p n i).1 := by
  induction m with
  | zero => intro n i p hm h1 hp; omega
  | succ m ih =>
    intro n i p hm h1 hp
    by_cases h2 : 2 ≤ n
    · have hs1 := split_pos n
      have hs2 := split_lt h2
      rw [plen, dif_pos h2] at hp
      by_cases hi : i < split n
      · rw [if_pos hi] at hp
        generalize hq : plen (split n) i = q at hp
        obtain ⟨s, hs⟩ : ∃ s, p[q]? = some s := ⟨_, List.getElem?_eq_getElem (by omega)⟩
        have hT : turns n i = turns (split n) i ++ [false] := by unfold turns; rw [turnsR_left h2 hi]; simp
        have hTl : (turns (split n) i).length = q := by rw [turns_len, hq]
        have htl : (p.take q).length = q := by rw [List.length_take]; omega
        rw [combL_left leaf (by omega) hp hs hi, hp, upK]
        have e1 : (turns n i).getD q false = false := by rw [hT, List.getD_eq_getElem?_getD, List.getElem?_append_right (by omega), hTl]; simp
        have e2 : p.getD q [] = s := by rw [List.getD_eq_getElem?_getD, hs]; rfl
        have e3 := ih (split n) i (p.take q) (by omega) (by omega) (by rw [htl, hq])
        rw [htl] at e3
        rw [e1, e2, if_neg (by simp), ← e3, upK_congr leaf (turns n i) (turns (split n) i) p (p.take q) q
          (fun j hj => by rw [hT, List.getD_eq_getElem?_getD, List.getElem?_append_left (by omega), List.getD_eq_getElem?_getD])
          (fun j hj => by rw [List.getD_eq_getElem?_getD, List.getD_eq_getElem?_getD, List.getElem?_take, if_pos hj])]
      · rw [if_neg hi] at hp
        generalize hq : plen (n - split n) (i - split n) = q at hp
        obtain ⟨s, hs⟩ : ∃ s, p[q]? = some s := ⟨_, List.getElem?_eq_getElem (by omega)⟩
        have hT : turns n i = turns (n - split n) (i - split n) ++ [true] := by unfold turns; rw [turnsR_right h2 hi]; simp
        have hTl : (turns (n - split n) (i - split n)).length = q := by rw [turns_len, hq]
        have htl : (p.take q).length = q := by rw [List.length_take]; omega
        rw [combL_right leaf (by omega) hp hs hi, hp, upK]
        have e1 : (turns n i).getD q false = true := by rw [hT, List.getD_eq_getElem?_getD, List.getElem?_append_right (by omega), hTl]; simp
        have e2 : p.getD q [] = s := by rw [List.getD_eq_getElem?_getD, hs]; rfl
        have e3 := ih (n - split n) (i - split n) (p.take q) (by omega) (by omega) (by rw [htl, hq])
        rw [htl] at e3
        rw [e1, e2, if_pos rfl, ← e3, upK_congr leaf (turns n i) (turns (n - split n) (i - split n)) p (p.take q) q
          (fun j hj => by rw [hT, List.getD_eq_getElem?_getD, List.getElem?_append_left (by omega), List.getD_eq_getElem?_getD])
          (fun j hj => by rw [List.getD_eq_getElem?_getD, List.getD_eq_getElem?_getD, List.getElem?_take, if_pos hj])]
    · obtain rfl : n = 1 := by omega
      rw [plen, dif_neg (by omega)] at hp
      rw [hp, combL_one]
      rfl
theorem combL_ok (leaf : List UInt8) (p : List (List UInt8)) {n : Nat} (i : Nat) (h : 1 ≤ n) : (combL leaf p n i).2 = decide (p.length = plen n i) := by
  unfold combL
  rw [comb_ok leaf _ n i h, List.length_reverse]
theorem mVerify_no {rt leaf : List UInt8} {p : List (List UInt8)} {n i : Nat} (h : 1 ≤ n) (hp : p.length ≠ plen n i) : mVerify rt leaf p n i = false := by
  unfold mVerify
  rw [combL_ok leaf p i h, decide_eq_false hp, Bool.false_and]
theorem mVerify_up {rt leaf : List UInt8} {p : List (List UInt8)} {n i : Nat} (h : 1 ≤ n) (hp : p.length = plen n i) : mVerify rt leaf p n i = (upK leaf (turns n i) p p.length == rt) := by
  unfold mVerify
  rw [combL_ok leaf p i h, decide_eq_true hp, Bool.true_and, upK_comb leaf n n i p (Nat.le_refl _) h hp]

set_option maxRecDepth 100000 in
set_option maxHeartbeats 1000000 in
theorem verify_bad (A : Option Addr) (c q n : Nat) (i : Int) (rt leaf : List UInt8) (w : World) (hi : i < 0 ∨ (n : Int) ≤ i) :
    Calls Tryd.prog 15 #[.agg (bvs rt).toArray, .int .i64 (n : Int), .int .i64 i, .agg (bvs leaf).toArray, .slice A q c] w (TellsB false w) := by
  by_cases h0 : i < 0
  · go_enter Tryd.func15, Tryd.ntmps15
    go_wp2_with (first
      | (with_reducible refine wpList_box_row (o := ⟨some 5, _, _, _, _, _⟩) rfl _ _ rfl (bvs rt) rfl ?_; intro w1 hrow1 hs1 hg1)
      | (with_reducible refine wpList_box_row (o := ⟨some 8, _, _, _, _, _⟩) rfl _ _ rfl (bvs leaf) rfl ?_; intro w2 hrow2 hs2 hg2))
    go_ret
    exact ⟨rfl, below_kept (grown_below hg1 (Nat.le_refl _) (by simp)) hg2 (by omega) (by simp)⟩
  · have h1 : (n : Int) ≤ i := by omega
    go_enter Tryd.func15, Tryd.ntmps15
    go_wp2_with (first
      | (with_reducible refine wpList_box_row (o := ⟨some 5, _, _, _, _, _⟩) rfl _ _ rfl (bvs rt) rfl ?_; intro w1 hrow1 hs1 hg1)
      | (with_reducible refine wpList_box_row (o := ⟨some 8, _, _, _, _, _⟩) rfl _ _ rfl (bvs leaf) rfl ?_; intro w2 hrow2 hs2 hg2))
    go_ret
    exact ⟨rfl, below_kept (grown_below hg1 (Nat.le_refl _) (by simp)) hg2 (by omega) (by simp)⟩

set_option maxRecDepth 100000 in
set_option maxHeartbeats 1000000 in
theorem verify_any (A : Option Addr) (c q n i : Nat) (rt leaf : List UInt8) (p : List (List UInt8)) (w : World) (hK : Consts w) (ht : rt.length = 16) (hl : leaf.length = 16) (hr : ReadsD w A q p) (hc : q ≤ c) (hq : q ≤ 1000) (hn : n ≤ 1000) (hi : i < n) :
    Calls Tryd.prog 15 #[.agg (bvs rt).toArray, .int .i64 (n : Int), .int .i64 (i : Int), .agg (bvs leaf).toArray, .slice A q c] w (TellsB (mVerify rt leaf p n i) w) := by
  have HT := Lib.hid ht
  have HL := Lib.hid hl
  have HPL := Lib.hid hr.len
  have HTL := Lib.hid (turns_len n i)
  have HNO : plen n i ≠ q → Hid (mVerify rt leaf p n i = false) := fun h => mVerify_no (by omega) (by rw [hr.len]; exact fun e => h e.symm)
  have HUP : plen n i = q → Hid (mVerify rt leaf p n i = (upK leaf (turns n i) p q == rt)) := fun h => by
    have e := mVerify_up (rt := rt) (leaf := leaf) (p := p) (n := n) (i := i) (by omega) (by rw [hr.len, h])
    rw [hr.len] at e
    exact e
  have HTU := fun W => Lib.hid (turns_any n i hn hi W)
  generalize mVerify rt leaf p n i = V at *
  generalize turns n i = T at *
  clear ht hl
  have hik : ¬ n ≤ i := by omega
  go_enter Tryd.func15, Tryd.ntmps15
  go_wp2_with (first
    | (with_reducible refine wpList_box_row (o := ⟨some 5, _, _, _, _, _⟩) rfl _ _ rfl (bvs rt) rfl ?_; intro w1 hrow1 hs1 hg1)
    | (with_reducible refine wpList_box_row (o := ⟨some 8, _, _, _, _, _⟩) rfl _ _ rfl (bvs leaf) rfl ?_; intro w2 hrow2 hs2 hg2; have hb2 : Below w.heap.size w w2 := below_kept (grown_below hg1 (Nat.le_refl _) (by simp)) hg2 (by omega) (by simp)))
  have hrow1' := hrow1.kept hg2 (by simp)
  have hlt1 := hrow1'.lt
  have hlt2 := hrow2.lt
  clear hg1 hg2 hrow1
  refine (HTU _).out.mono ?_
  rintro e w3 ⟨v, rfl, hown3, hb3⟩
  have hrow31 := hrow1'.on hb3
  have hrow32 := hrow2.on hb3
  have hb3' := hb2.trans (hb3.mono hb2.size)
  obtain ⟨A3, c3, rfl, hc3, hm3, hrd3⟩ := own_form hown3
  clear hown3 HTU hrow1' hrow2
  by_cases hqp : plen n i = q
  · have HV := (HUP hqp)
    rw [show T.length = q from HTL.out.trans hqp] at hrd3 ⊢
    have HTL2 : Hid (T.length = q) := HTL.out.trans hqp
    clear HUP HNO HTL hqp
    go_wp2_with (with_reducible refine wpList_load_all (o := ⟨some 30, _, _, _, _, _⟩) rfl _ _ rfl w1.heap.size rfl _ _ hrow32 _ Tryd.underlying28 rfl (b16_size _ HL.out) ?_)
    refine (leafDigest_any leaf HL.out _ (hK.on hb3')).mono ?_
    rintro e w4 ⟨rfl, hb4⟩
    have hb4' := hb3'.trans (hb4.mono hb3'.size)
    have hrow41 := hrow31.on hb4
    have hrd4 := hrd3.on hb4
    have hlt4 := hrow41.lt
    have hsz4 := hb4.size
    clear hrow31 hrow32 hrd3
    have HML := Lib.hid (mLeaf_len leaf)
    have HU0 : Hid (mLeaf leaf = upK leaf T p 0) := rfl
    generalize mLeaf leaf = D0 at *
    go_wp2_with (first
      | (with_reducible refine wpList_alloc_row (o := ⟨some 12, _, _, _, _, _⟩) rfl _ rfl zeros16 zero_b16 ?_; intro w5 hrow5 hs5 hg5)
      | (with_reducible refine wpList_store_all (o := ⟨none, _, _, _, _, _⟩) rfl _ _ _ rfl w4.heap.size rfl _ _ hrow5 (bvs D0) rfl (bvs_one _) (b16_zeros _ HML.out) (b16_size _ HML.out) ?_; intro w6 hrow6 hg6))
    have hb6 : Below w.heap.size w w6 := below_kept (below_kept hb4' hg5 hb4'.size (by simp)) hg6 (by have := hb4'.size; omega) (by rintro k hk; cases hk; exact hb4'.size)
    have hb46 : Below w4.heap.size w4 w6 := below_kept (grown_below hg5 (Nat.le_refl _) (by simp)) hg6 (by omega) (by rintro k hk; cases hk; exact Nat.le_refl _)
    have hrow61 := hrow41.on hb46
    have hrd6 := hrd4.on hb46
    clear hrow5 hg5 hg6 hrow61 hrd6
    go_loopg [34] q (fun gk s wr => ∃ j : Nat, s = .int .i64 (j : Int) ∧ q ≤ gk + j ∧ j ≤ q ∧ Row wr w4.heap.size 28 (bvs (upK leaf T p j)) ∧ Below w4.heap.size w4 wr)
    case atStart => exact ⟨0, rfl, by omega, by omega, by rw [← HU0.out]; exact hrow6, hb46⟩
    case round =>
      obtain ⟨j, rfl, hgk, hjq, hrow, hbr⟩ := hrel
      have hbw := hb4'.trans (hbr.mono hb4'.size)
      have hrt := hrow41.on hbr
      have HUL := Lib.hid (upK_len leaf T p j)
      by_cases hlt : j < q
      · have hpr := hr.on hbw
        obtain ⟨ad, u, rfl, hab, hu, hcu⟩ := (hrd4.on hbr).at_ hlt
        obtain ⟨b, hb, rfl⟩ : ∃ b, T[j]? = some b ∧ u = .bool b := by
          unfold bls at hu
          rw [List.getElem?_map] at hu
          cases hT : T[j]? with
          | none => rw [hT] at hu; simp at hu
          | some b => rw [hT] at hu; exact ⟨b, rfl, by simpa using hu.symm⟩
        obtain ⟨ap, d, rfl, hapb, hd, hd16, hcl⟩ := hpr.1.dig_at hpr.2 (k := j) hlt
        have HD := Lib.hid hd16
        have HC := Lib.hid hcl
        have HUS : Hid (upK leaf T p (j + 1) = if b then mNode d (upK leaf T p j) else mNode (upK leaf T p j) d) := by
          show _ = _
          rw [upK, List.getD_eq_getElem?_getD, hb, List.getD_eq_getElem?_getD, hd]; rfl
        have HNL := Lib.hid (upK_len leaf T p (j + 1))
        have hzr := hbr.size
        generalize hDE : upK leaf T p (j + 1) = D' at HUS HNL
        have HDE := Lib.hid hDE
        clear hDE
        generalize upK leaf T p j = D at *
        clear hd16 hcl hpr hu hb hd
        cases b with
        | true =>
          have HS2 : Hid (mNode d D = D') := by show _ = _; rw [HUS.out]; rfl
          clear HUS
          go_wp2_with fail
          refine wp_region_tail 5 (by kernel_rfl) (by kernel_rfl) ?_
          simp only [List.take_succ_cons, List.take_zero, List.drop_succ_cons, List.drop_zero]
          repeat (first
            | (refine wpQuiet_valueG (o := ⟨some 43, _, _, _, _, _⟩) rfl _ (by rintro _ rfl; exact exec_load16 _ _ rfl _ rfl d HD.out (fun k u hu => by rw [add_of_add]; exact HC.out k u hu)) ?_; simp only [Act.put, List.setIfInBounds_toArray, List.set_cons_zero, List.set_cons_succ])
            | (refine wpQuiet_valueG (o := ⟨some 44, _, _, _, _, _⟩) rfl _ (by rintro _ rfl; exact exec_load16 _ _ rfl _ rfl D HUL.out hrow.drew.cells) ?_; simp only [Act.put, List.setIfInBounds_toArray, List.set_cons_zero, List.set_cons_succ])
            | go_big_quiet_step (fail))
          refine wpQuiet_nil ?_
          go_wp2_with fail
          refine (node_any d D HD.out HUL.out _ (hK.on hbw.drew)).mono ?_
          rintro e w7 ⟨rfl, hb7⟩
          rw [HS2.out]
          have hrow7 := hrow.drew.on hb7
          have hbr7 : Below w4.heap.size w4 w7 := hbr.drew.trans (hb7.mono hzr)
          have hz7 := hbr7.size
          go_wp2_with (with_reducible refine wpList_store_all (o := ⟨none, _, _, _, _, _⟩) rfl _ _ _ rfl w4.heap.size rfl _ _ hrow7 (bvs D') rfl (bvs_one _) (by rw [bvs_length, bvs_length, HUL.out, HNL.out]) (b16_size _ HNL.out) ?_; intro w8 hrow8 hg8)
          go_roundg (gk - 1)
          case measure => omega
          case rel => exact ⟨j + 1, by go_num, by omega, by omega, by rw [HDE.out]; exact hrow8, below_kept hbr7 hg8 hz7 (by rintro k hk; cases hk; exact Nat.le_refl _)⟩
        | false =>
          have HS2 : Hid (mNode D d = D') := by show _ = _; rw [HUS.out]; rfl
          clear HUS
          go_wp2_with fail
          refine wp_region_tail 5 (by kernel_rfl) (by kernel_rfl) ?_
          simp only [List.take_succ_cons, List.take_zero, List.drop_succ_cons, List.drop_zero]
          repeat (first
            | (refine wpQuiet_valueG (o := ⟨some 50, _, _, _, _, _⟩) rfl _ (by rintro _ rfl; exact exec_load16 _ _ rfl _ rfl d HD.out (fun k u hu => by rw [add_of_add]; exact HC.out k u hu)) ?_; simp only [Act.put, List.setIfInBounds_toArray, List.set_cons_zero, List.set_cons_succ])
            | (refine wpQuiet_valueG (o := ⟨some 46, _, _, _, _, _⟩) rfl _ (by rintro _ rfl; exact exec_load16 _ _ rfl _ rfl D HUL.out hrow.drew.cells) ?_; simp only [Act.put, List.setIfInBounds_toArray, List.set_cons_zero, List.set_cons_succ])
            | go_big_quiet_step (fail))
          refine wpQuiet_nil ?_
          go_wp2_with fail
          refine (node_any D d HUL.out HD.out _ (hK.on hbw.drew)).mono ?_
          rintro e w7 ⟨rfl, hb7⟩
          rw [HS2.out]
          have hrow7 := hrow.drew.on hb7
          have hbr7 : Below w4.heap.size w4 w7 := hbr.drew.trans (hb7.mono hzr)
          have hz7 := hbr7.size
          go_wp2_with (with_reducible refine wpList_store_all (o := ⟨none, _, _, _, _, _⟩) rfl _ _ _ rfl w4.heap.size rfl _ _ hrow7 (bvs D') rfl (bvs_one _) (by rw [bvs_length, bvs_length, HUL.out, HNL.out]) (b16_size _ HNL.out) ?_; intro w8 hrow8 hg8)
          go_roundg (gk - 1)
          case measure => omega
          case rel => exact ⟨j + 1, by go_num, by omega, by omega, by rw [HDE.out]; exact hrow8, below_kept hbr7 hg8 hz7 (by rintro k hk; cases hk; exact Nat.le_refl _)⟩
      · obtain rfl : j = q := by omega
        go_wp2_with (first
          | (refine wpList_valueG (o := ⟨some 53, _, _, _, _, _⟩) rfl _ (by exact exec_load16 _ _ rfl _ rfl _ HUL.out hrow.cells) ?_)
          | (refine wpList_valueG (o := ⟨some 54, _, _, _, _, _⟩) rfl _ (by exact exec_load16 _ _ rfl _ rfl rt HT.out hrt.cells) ?_)
          | (refine wpList_valueG (o := ⟨some 55, _, _, _, _, _⟩) rfl _ (by exact exec_eql16 _ _ _ rfl _ rt HUL.out HT.out rfl rfl) ?_))
        go_ret
        exact ⟨by rw [HV.out]; rfl, hbw⟩
  · have HV := (HNO hqp)
    have hne : ((q : Int) != (T.length : Int)) = true := by simp; intro h; exact hqp (by rw [← HTL.out]; omega)
    generalize T.length = L at *
    go_wp2_with fail
    go_ret
    exact ⟨by rw [HV.out]; rfl, hb3'⟩
end Go.Proofs.YtpmkjnmddglckaaDoor
