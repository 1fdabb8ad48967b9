/-
  What fuse.stuck, slices.Chunk's iterator, fuse.unsound and fuse.Sound return: contracts by walks, the range over a function inside a fence. Condition: banks of whole bits, bounded lengths.
-/
import Derived.Test.YtliaapgnknbmbaaFuC
import Derived.RangeFuncNested
import Derived.RangeFuncBound
import Derived.RangeFuncCalls
import Derived.RangeFuncLeaves
import Derived.RangeFuncFrom
import Derived.Shelf.Abstract
import Derived.Shelf.RegionOpen
import Derived.OwnWalkIn
import Derived.TacticsInMore
import Derived.LoopNIn
import Derived.LoopIn
import Derived.BigRegionIn
namespace Go.Proofs.Ytliaapgnknbmbaa
open Go.RowKit Go.Shelf
attribute [local go_sem] Oper.semAt_some

theorem stk_succ (l : List UInt8) (i : Nat) (s : UInt8) (hs : l[i]? = some s) : fuStk (l.take (i + 1)) = fuStk (l.take i) + (if s == 3 then 1 else 0) := by
  unfold fuStk
  rw [List.take_add_one, hs, List.count_append]
  show _ + List.count 3 [s] = _
  rw [List.count_singleton]
theorem stk_le (l : List UInt8) : fuStk l ≤ l.length := List.count_le_length

set_option maxRecDepth 100000 in
set_option maxHeartbeats 1000000 in
theorem fstuck_any (B : Nat) (A : Option Addr) (n c : Nat) (l : List UInt8) (w : World) (hr : Reads w B 1 A n (bvs l)) (hn : n ≤ 9223372036854775806) :
    Calls Try.prog 46 #[.slice A n c] w fun e w' => e = .returned (.int .i64 (fuStk l : Nat)) ∧ w' = w := by
  have HLN := Lib.hid hr.bytes_len
  go_enter Try.func46, Try.ntmps46
  go_wp2_with fail
  go_loopg [3, 8] n (fun g s3 s8 wr => ∃ i : Nat, Hid (i + g = n) ∧ i ≤ n ∧ s8 = .int .i64 (i : Int) ∧ s3 = .int .i64 (fuStk (l.take i) : Nat) ∧ wr = w)
  case atStart => exact ⟨0, by show _ = _; omega, by omega, rfl, rfl, rfl⟩
  case round =>
    obtain ⟨i, HI, hi, rfl, rfl, rfl⟩ := hrel
    by_cases hlt : i < n
    · obtain ⟨s, hs⟩ : ∃ s, l[i]? = some s := ⟨_, List.getElem?_eq_getElem (by rw [HLN.out]; exact hlt)⟩
      obtain ⟨ad, rfl, hlta, hc⟩ := hr.byte_at hs
      have HS := Lib.hid (stk_succ l i s hs)
      have hle : fuStk (l.take i) ≤ i := Nat.le_trans (stk_le _) (by rw [List.length_take]; omega)
      clear hs
      generalize fuStk (l.take i) = k at *
      unfold bv at hc
      by_cases h3 : s = 3
      · have HT : Hid ((if s == 3 then 1 else 0) = 1) := Lib.hid (by rw [if_pos (by simpa using h3)])
        rw [h3] at hc
        have hc' : wr.cell? (ad.add i) = some (.int .u8 3) := hc
        clear hc h3
        go_wp2_with fail
        go_roundg (gk - 1)
        case measure => have := HI.out; omega
        case rel => exact ⟨i + 1, by have := HI.out; show _ = _; omega, by omega, by go_num, by rw [HS.out, HT.out]; go_num, rfl⟩
      · have HT : Hid ((if s == 3 then 1 else 0) = 0) := Lib.hid (by rw [if_neg (by simpa using h3)])
        have e3 : (((s.toNat : Nat) : Int) == 3) = false := by
          have : s.toNat ≠ 3 := fun h => h3 (UInt8.toNat.inj h)
          simp only [beq_eq_false_iff_ne, ne_eq]
          omega
        clear h3
        generalize s.toNat = v at *
        go_wp2_with fail
        go_roundg (gk - 1)
        case measure => have := HI.out; omega
        case rel => exact ⟨i + 1, by have := HI.out; show _ = _; omega, by omega, by go_num, by rw [HS.out, HT.out]; go_num, rfl⟩
    · obtain rfl : i = n := by omega
      have HK : Hid (fuStk (l.take i) = fuStk l) := Lib.hid (by rw [List.take_of_length_le (by rw [HLN.out]; exact Nat.le_refl _)])
      generalize fuStk (l.take i) = k at *
      go_wp2_with fail
      go_ret
      exact ⟨by rw [← HK.out]; rfl, rfl⟩

abbrev Bits (m : Nat) := { i : Nat // i < m }
def bitv (A : Option Addr) (i : Nat) : Value := .slice (A.map (·.add (3 * i))) 3 3
set_option maxRecDepth 100000 in
set_option maxHeartbeats 2000000 in
/-- The iterator, for every loop body that keeps what lay below n₀. -/
theorem chunk1_in (n l g1 g2 n₀ m : Nat) (hn : 1 ≤ n) (hm : m ≤ 1000000) (A : Option Addr) (c : Nat) (hc : 3 * m ≤ c) (hA : 0 < m → ∃ ad, A = some ad) (J Jx : List (Bits m) → World → Prop) (W : World) (hJ : AbidesFrom W.heap.size J)
    (hY : ∀ pre x W1, J pre W1 → pre.length < m → YieldAt Fence.wide (n - 1) Try.prog l #[bitv A x.1] W1 fun e W' =>
      (e = .returned (.bool true) ∧ J (pre ++ [x]) W' ∧ Below n₀ W1 W') ∨ (e = .returned (.bool false) ∧ Jx (pre ++ [x]) W'))
    (h1 : Row W g1 26 [.slice A (3 * m) c]) (hg1 : g1 < n₀) (h2 : Row W g2 3 [.int .i64 3]) (hg2 : g2 < n₀) (h0 : J [] W) :
    CallsIn Fence.wide n Try.prog 48 #[.func (.yield l) #[] #[], .pointer (some ⟨g1, 0, none⟩), .pointer (some ⟨g2, 0, none⟩)] W fun e W' => (∃ v, e = .returned v) ∧
      ((∃ xs, xs.map (·.1) = List.range m ∧ J xs W') ∨ (∃ pre, True ∧ Jx pre W')) := by
  refine callsIn_of_wp Try.func48 rfl trivial ?_ rfl
  simp only [Try.ntmps48, List.size_toArray, List.length_cons, List.length_nil, Nat.reduceAdd, Nat.reduceSub, Array.replicate_succ, Array.replicate_zero, List.push_toArray, List.append_toArray, List.nil_append, List.cons_append]
  gi_wp2
  gi_loopw [4] (fun p wr => ∃ (i : Nat) (pre : List (Bits m)), p = .int .i64 ((3 * i : Nat) : Int) ∧ i ≤ m ∧ pre.length = i ∧ pre.map (·.1) = List.range i ∧ J pre wr ∧ Below n₀ W wr ∧ W.heap.size ≤ wr.heap.size)
    (fun p wr => match p with | .int _ x => 3 * m - x.toNat | _ => 0)
  case atStart => exact ⟨0, [], rfl, by omega, rfl, rfl, h0, Below.refl _ _, Nat.le_refl _⟩
  case round =>
    obtain ⟨i, pre, rfl, hi, hpl, hpm, hJp, hbr, hsz⟩ := hrel
    have c1 := (h1.below hbr hg1).cell (j := 0) rfl
    have c2 := (h2.below hbr hg2).cell (j := 0) rfl
    by_cases hlt : i < m
    · obtain ⟨ad, rfl⟩ := hA (by omega)
      have hJd : J pre wr.drew := hJ pre wr wr.drew none hJp ⟨rfl, rfl, rfl, Nat.le_refl _, fun _ _ _ => rfl⟩ (fun r e => by cases e)
      obtain ⟨fn, tmps, assign, body, hy, hR⟩ := hY pre ⟨i, hlt⟩ wr.drew hJd (by omega)
      rw [show bitv (some ad) i = .slice (some (ad.add (3 * i))) 3 3 from rfl] at hy
      gi_wp2
      gi_region
      gi_wp2
      refine hR.mono ?_
      rintro e W3 (⟨rfl, hJ3, hk3⟩ | ⟨rfl, hJx3⟩)
      · have B3 : Below n₀ W W3 := hbr.drew.trans hk3
        have d2 := (h2.below B3 hg2).cell (j := 0) rfl
        gi_wp2
        go_roundw
        case rel => exact ⟨i + 1, pre ++ [⟨i, hlt⟩], by go_num, by omega, by simp [hpl], by rw [List.map_append, hpm, List.range_succ]; rfl, hJ3, B3, by have := hk3.size; have : wr.drew.heap.size = wr.heap.size := rfl; omega⟩
        case measure => go_num
      · gi_wp2
        refine bodyPost_ret (results_none rfl _ _ _) rfl ?_
        exact ⟨⟨_, rfl⟩, .inr ⟨_, True.intro, hJx3⟩⟩
    · obtain rfl : i = m := by omega
      gi_wp2
      refine bodyPost_end (results_none rfl _ _ _) rfl ?_
      exact ⟨⟨_, rfl⟩, .inl ⟨pre, hpm, hJp⟩⟩

theorem chunk_stops (n g1 g2 m : Nat) (hn : 1 ≤ n) (hm : m ≤ 1000000) (A : Option Addr) (c : Nat) (hc : 3 * m ≤ c) (hA : 0 < m → ∃ ad, A = some ad) (n₀ : Nat) (w : World)
    (h1 : Row w g1 26 [.slice A (3 * m) c]) (hg1 : g1 < n₀) (h2 : Row w g2 3 [.int .i64 3]) (hg2 : g2 < n₀) :
    SeqStopsK Fence.wide n Try.prog 48 #[.pointer (some ⟨g1, 0, none⟩), .pointer (some ⟨g2, 0, none⟩)] (fun x : Bits m => #[bitv A x.1]) (Below n₀)
      (fun xs => xs.map (·.1) = List.range m) (fun _ => True) m w := fun l J Jx W hW hJ _ hY h0 =>
  chunk1_in n l g1 g2 n₀ m hn hm A c hc hA J Jx W hJ hY (h1.on hW) hg1 (h2.on hW) hg2 h0

set_option maxRecDepth 100000 in
set_option maxHeartbeats 1000000 in
/-- The maker of the iterator. -/
theorem chunk_any (A : Option Addr) (n c : Nat) (w : World) : Calls Try.prog 45 #[.slice A n c, .int .i64 3] w fun e w' =>
    ∃ g1 g2, e = .returned (.func (.func 48) #[] #[.pointer (some ⟨g1, 0, none⟩), .pointer (some ⟨g2, 0, none⟩)]) ∧ Row w' g1 26 [.slice A n c] ∧ Row w' g2 3 [.int .i64 3] ∧ Below w.heap.size w w' := by
  go_enter Try.func45, Try.ntmps45
  go_wp2_with (first
    | (with_reducible refine wpList_box_row (o := ⟨some 2, _, _, _, _, _⟩) rfl _ _ rfl [.slice A n c] rfl ?_; intro w1 hrow1 hs1 hg1)
    | (with_reducible refine wpList_box_row (o := ⟨some 3, _, _, _, _, _⟩) rfl _ _ rfl [.int .i64 3] rfl ?_; intro w2 hrow2 hs2 hg2; have c2 := hrow2.cell (j := 0) rfl))
  go_ret
  exact ⟨_, _, rfl, hrow1.kept hg2 (by simp), hrow2, below_kept (grown_below hg1 (Nat.le_refl _) (by simp)) hg2 (by omega) (by simp)⟩

theorem fuUns_of {l : List UInt8} {m : Nat} (hl : l.length = 3 * m) {i : Nat} (hi : i < m) (h : 1 < fuStk (fuBit l i)) : fuUns l = true := by
  unfold fuUns
  rw [hl, Nat.mul_div_cancel_left m (by omega)]
  exact List.any_eq_true.2 ⟨i, List.mem_range.2 hi, decide_eq_true h⟩
theorem fuUns_not {l : List UInt8} {m : Nat} (hl : l.length = 3 * m) (h : ∀ i, i < m → ¬ 1 < fuStk (fuBit l i)) : fuUns l = false := by
  unfold fuUns
  rw [hl, Nat.mul_div_cancel_left m (by omega)]
  refine List.any_eq_false.2 fun i hi => ?_
  rw [decide_eq_true_eq]
  exact h i (List.mem_range.1 hi)

set_option maxRecDepth 100000 in
set_option maxHeartbeats 4000000 in
theorem funsound_in (n : Nat) (hn : 4 ≤ n) (m : Nat) (hm : m ≤ 1000000) (p : Part) (w : World) (hr : Reads w w.heap.size 1 p.A p.n (bvs p.l)) (hc : p.n ≤ p.c) (hl : p.l.length = 3 * m) :
    CallsIn Fence.wide n Try.prog 37 #[p.v] w (TellsB (fuUns p.l) w) := by
  have h1 : 1 ≤ n := by omega
  have h1' : 1 ≤ n - 1 - 1 := by omega
  obtain ⟨A, k, c, l⟩ := p
  simp only at *
  have hk := hr.bytes_len
  obtain rfl : k = 3 * m := by omega
  have HL := Lib.hid hl
  have HCH := fun W => Lib.hid (chunk_any A (3 * m) c W)
  have hA : 0 < m → ∃ ad, A = some ad := fun h0 => by
    obtain ⟨ad, h, _⟩ := hr.2 (by omega)
    exact ⟨ad, h⟩
  have HST : ∀ (i : Nat) (hi : i < m) W (hW : Below w.heap.size w W), Hid (Calls Try.prog 46 #[bitv A i] W fun e w' => e = .returned (.int .i64 (fuStk (fuBit l i) : Nat)) ∧ w' = W) := fun i hi W hW => by
    have h := fstuck_any w.heap.size (A.map (·.add (3 * i))) 3 3 (fuBit l i) W (by
      have h := (hr.below hW).sub (u := 3 * i) (m := 3) (by omega) hc
      rw [Nat.mul_one, if_neg (by omega)] at h
      exact h) (by omega)
    unfold bitv
    exact Lib.hid h
  unfold Part.v
  simp only
  refine callsIn_of_wp_marks Try.func37 rfl trivial ?_ rfl
  simp only [Try.ntmps37, List.size_toArray, List.length_cons, List.length_nil, Nat.reduceAdd, Nat.reduceSub, Array.replicate_succ, Array.replicate_zero, List.push_toArray, List.append_toArray, List.nil_append, List.cons_append]
  gi_wp2_with (refine ⟨trivial, ?_⟩; gi_at_call 45; refine (callsIn_wide.2 (HCH _).out).mono ?_; rintro e W1 ⟨g1, g2, rfl, r1, r2, b1⟩)
  have b0 : Below w.heap.size w (w.alloc (.cells #[.bool false] 4)) := (Below.refl _ _).alloc (Nat.le_refl _) _
  have rr := (row_alloc w 4 [.bool false]).on b1
  have B1 := b0.trans (b1.mono b0.size)
  have hrc := rr.cell (j := 0) rfl
  have hrf := rr.free 0
  have hlt1 := rr.lt
  have hg1 := r1.lt
  have hg2 := r2.lt
  have hge : w.heap.size ≤ W1.heap.size := B1.size
  clear b1 rr
  refine wpIn_rangeFunc_ownF (F := Fence.wide) rfl h1 (gf := 48) (lb := #[.pointer (some ⟨g1, 0, none⟩), .pointer (some ⟨g2, 0, none⟩)]) rfl trivial (enters_of Try.func48 (by kernel_rfl) rfl)
    (chunk_stops (n - 1) g1 g2 m (by omega) hm A c hc hA W1.heap.size W1 r1 hg1 r2 hg2) belowK_t (belowK_b (Nat.le_refl _)) (Below.refl _ _) (fun _ => rfl)
    (fun (pre : List (Bits m)) W => ((∀ x ∈ pre, ¬ 1 < fuStk (fuBit l x.1)) ∧ W.cell? ⟨w.heap.size, 0, none⟩ = some (.bool false) ∧ W.frozen? ⟨w.heap.size, 0, none⟩ = false) ∧ Below w.heap.size w W)
    (fun (k : Code) (pre : List (Bits m)) W => (k = .ret ∧ (∃ x ∈ pre, 1 < fuStk (fuBit l x.1)) ∧ W.cell? ⟨w.heap.size, 0, none⟩ = some (.bool true)) ∧ Below w.heap.size w W)
    (OwnFrom.and (Own.from (fun s A B row hs hg hr => ⟨hs.1, cell_kept hs.2.1 hg hr, (frozen_kept hs.2.1 hg hr).trans hs.2.2⟩) _) (ownFrom_below (Nat.le_refl _) hge))
    (fun c => OwnFrom.and (Own.from (fun s A B row hs hg hr => ⟨hs.1, hs.2.1, cell_kept hs.2.2 hg hr⟩) _) (ownFrom_below (Nat.le_refl _) hge))
    ⟨⟨by simp, hrc, hrf⟩, B1⟩
    (fun x => { tmps := #[.slice A (3 * m) c, undef, .pointer (some ⟨w.heap.size, 0, none⟩), bitv A x.1, .slice A (3 * m) c, .func (.func 48) #[] #[.pointer (some ⟨g1, 0, none⟩), .pointer (some ⟨g2, 0, none⟩)], bitv A x.1, undef, undef, undef], defers := [] }) ?assign ?body ?done ?stop
  case assign =>
    intro l' x W K hK
    generalize bitv A x.1 = bv at *
    gi_wp2
    exact hK
  case body =>
    rintro l' pre x W ⟨⟨hp, hcr, hfr⟩, hB⟩ _
    have HX := HST x.1 x.2 W hB
    by_cases hx : 1 < fuStk (fuBit l x.1)
    · have HQ : Hid (∃ y ∈ pre ++ [x], 1 < fuStk (fuBit l y.1)) := Lib.hid ⟨x, List.mem_append.2 (.inr (by simp)), hx⟩
      have hd : (1 : Int) < (fuStk (fuBit l x.1) : Nat) := by omega
      generalize bitv A x.1 = bv at *
      generalize fuStk (fuBit l x.1) = k at *
      gi_wp2_with (refine ⟨trivial, ?_⟩; gi_at_call 46; refine (CallsIn.inRound l' (callsIn_wide.2 HX.out)).mono ?_; rintro e W3 ⟨rfl, hW3⟩; obtain rfl : W = W3 := hW3.symm)
      exact ⟨KeepsOthers.setCell _ _ _, ⟨rfl, HQ.out, World.cell?_setCell_same' _ _ _ (by rw [hcr]; rfl)⟩, hB.setCell (p := ⟨w.heap.size, 0, none⟩) (Nat.le_refl _) _⟩
    · have HQ := Lib.hid hx
      have hd : ¬ (1 : Int) < (fuStk (fuBit l x.1) : Nat) := by omega
      have HP : Hid (∀ y ∈ pre ++ [x], ¬ 1 < fuStk (fuBit l y.1)) := Lib.hid (fun y hy => (List.mem_append.1 hy).elim (hp y) (fun e => by simp at e; subst e; exact hx))
      generalize bitv A x.1 = bv at *
      generalize fuStk (fuBit l x.1) = k at *
      gi_wp2_with (refine ⟨trivial, ?_⟩; gi_at_call 46; refine (CallsIn.inRound l' (callsIn_wide.2 HX.out)).mono ?_; rintro e W3 ⟨rfl, hW3⟩; obtain rfl : W = W3 := hW3.symm)
      exact ⟨KeepsOthers.refl _, Below.refl _ _, ⟨HP.out, hcr, hfr⟩, hB⟩
  case done =>
    rintro D ys W hD hys ⟨⟨hne, hcr, hfr⟩, hB⟩ hK
    have HU : Hid (fuUns l = false) := Lib.hid (fuUns_not HL.out fun i hi => by
      have hmem : i ∈ ys.map (·.1) := by rw [hys]; exact List.mem_range.2 hi
      obtain ⟨y, hy, rfl⟩ := List.mem_map.1 hmem
      exact hne y hy)
    gi_wp2
    have hK' := (KeepsOthers.setCell W ⟨w.heap.size, 0, none⟩ (.bool false)).same D _ hK rfl
    refine ⟨by simp, .inl ⟨_, _, rfl, run_takeDeferred hK', ?_⟩⟩
    have hc5 := cell_kept (World.cell?_setCell_same' W ⟨w.heap.size, 0, none⟩ (.bool false) (by rw [hcr]; rfl)) (grownBy_putObj' _ D (.deferred none)) (fun r e => by cases e; exact ⟨_, hK', rfl⟩)
    refine ⟨.bool false, ?_, by rw [HU.out], (hB.setCell (p := ⟨w.heap.size, 0, none⟩) (Nat.le_refl _) _).trans (belowK_b (w := w) (Nat.le_refl _) _ D _ _ (by omega) hK' rfl rfl)⟩
    simp [results, Try.f37, go_sem, hc5]
  case stop =>
    rintro D k pre W hD hpre ⟨⟨rfl, hin, hcr⟩, hB⟩ hK
    gi_wp2
    refine ⟨by simp, .inl ⟨_, _, rfl, run_takeDeferred hK, ?_⟩⟩
    have hc5 := cell_kept hcr (grownBy_putObj' _ D (.deferred none)) (fun r e => by cases e; exact ⟨_, hK, rfl⟩)
    obtain ⟨x, _, hx⟩ := hin
    refine ⟨.bool true, ?_, by rw [fuUns_of HL.out x.2 hx], hB.trans (belowK_b (w := w) (Nat.le_refl _) W D _ _ (by omega) hK rfl rfl)⟩
    simp [results, Try.f37, go_sem, hc5]

set_option maxRecDepth 100000 in
set_option maxHeartbeats 1000000 in
theorem funsound_any (p : Part) (w : World) (hr : Reads w w.heap.size 1 p.A p.n (bvs p.l)) (hc : p.n ≤ p.c) (h3 : p.l.length % 3 = 0) (hn : p.l.length ≤ 1000) : Calls Try.prog 37 #[p.v] w (TellsB (fuUns p.l) w) :=
  callsIn_wide.1 (funsound_in 4 (Nat.le_refl _) (p.l.length / 3) (by omega) p w hr hc (by omega))
end Go.Proofs.Ytliaapgnknbmbaa
