/-
  What store.sector, writes and its iterator return: contracts by walks, the iterator inside a fence. Condition: bounded lengths.
-/
import Derived.Test.YtfclifolniefpaaDoorStI
import Derived.Test.YtfclifolniefpaaDoorStCE
import Derived.Laws.CopyOwn
import Derived.RangeFuncNested
import Derived.RangeFuncBound
import Derived.RangeFuncCalls
import Derived.RangeFuncLeaves
import Derived.RangeFuncFrom
import Derived.Shelf.Abstract
import Derived.Shelf.RegionOpen
import Derived.OwnWalkIn
import Derived.TacticsInMore
import Derived.LoopNIn
import Derived.LoopIn
import Derived.BigRegionIn
set_option linter.unusedSimpArgs false
set_option linter.unusedVariables false
namespace Go.Proofs.YtfclifolniefpaaDoor
open Go.RowKit Go.Shelf
attribute [local go_sem] Oper.semAt_some

def zeros256 : List Value := List.replicate 256 (.int .u8 0)
theorem zero_b256 : (Tryd.prog.info? 129).map (fun i => i.zero.map (·.cells)) = some (some zeros256.toArray) := by kernel_rfl
theorem splice256 (l : List UInt8) : splice zeros256 0 (bvs (l.take 256)) = bvs (stPad l) := by
  unfold splice stPad zeros256 bvs
  rw [List.take_zero, List.nil_append, List.length_map, Nat.zero_add, List.drop_replicate, List.length_take, List.take_append, List.map_append, List.take_replicate, List.map_replicate]
  congr 2
  omega
set_option maxRecDepth 100000 in
set_option maxHeartbeats 4000000 in
theorem ssector_any (A : Option Addr) (n c : Nat) (l : List UInt8) (w : World) (hr : Reads w w.heap.size 1 A n (bvs l)) (hn : n ≤ 1000000) :
    Calls Tryd.prog 60 #[.slice A n c] w (TellsS (stSec l) w) := by
  have HLN := Lib.hid hr.bytes_len
  obtain ⟨cs, hcs⟩ : ∃ cs, cs = bvs (l.take 256) := ⟨_, rfl⟩
  have HCL : Hid (cs.length = Nat.min n 256) := Lib.hid (by rw [hcs, bvs_length, List.length_take, HLN.out]; exact Nat.min_comm _ _)
  have HCS : Hid (splice zeros256 0 cs = bvs (stPad l)) := Lib.hid (by rw [hcs]; exact splice256 l)
  have HC1 : Hid (∀ v ∈ cs, v.oneCell' = true) := Lib.hid (by rw [hcs]; exact bvs_one _)
  have HSRC : Hid (0 < cs.length → ∃ ad, A = some ad ∧ ad.block < w.heap.size ∧ ∀ j v, cs[j]? = some v → w.cell? (ad.add j) = some v) := Lib.hid fun h => by
    rw [HCL.out] at h
    obtain ⟨ad, e, hb, hc⟩ := hr.2 (by have : Nat.min n 256 ≤ n := Nat.min_le_left _ _; omega)
    refine ⟨ad, e, hb, fun j v hv => hc j v ?_⟩
    rw [hcs] at hv
    unfold bvs at hv ⊢
    rw [List.map_take, List.getElem?_take] at hv
    split at hv
    · exact hv
    · cases hv
  have HCM : Hid (cs.length ≤ 256) := Lib.hid (by rw [HCL.out]; exact Nat.min_le_right _ _)
  have HPL := Lib.hid (stPad_len l)
  have HE : Hid (stSec l = ⟨(stPad l).toArray⟩) := Lib.hid rfl
  generalize stPad l = PD at *
  generalize stSec l = E at *
  clear hcs hr
  go_enter Tryd.func60, Tryd.ntmps60
  go_wp2_with (first
    | (with_reducible refine wpList_alloc_row (o := ⟨some 3, _, _, _, _, _⟩) rfl _ rfl zeros256 zero_b256 ?_; intro w1 r1 s1 g1; have b1 := grown_below g1 (Nat.le_refl _) (by simp))
    | ((with_reducible refine wpList_at ⟨some 6, _, _, _, _, _⟩ ?_); go_must (refine wpList_copy_splice rfl (.tmp 4) (.tmp 5) _ _ rfl 5 Tryd.underlying42 (by kernel_rfl) _ _ _ _ _ _ rfl rfl w.heap.size 0 zeros256 129 r1 cs HCL.out (fun h => ⟨rfl, by obtain ⟨ad, e, hb, hc⟩ := HSRC.out h; exact ⟨ad, e, fun j v hv => (b1.cell (by rw [block_of_add]; exact hb)).trans (hc j v hv)⟩⟩) (by have := HCM.out; show 0 + cs.length ≤ 256; omega) HC1.out w.heap.size w b1 (Nat.le_refl _) ?_); intro w2 h2 b2; have r2 : Row w2 w.heap.size 129 (bvs PD) := by have := h2.out; rw [HCS.out] at this; exact this)
    | ((with_reducible refine wpList_at ⟨some 8, _, _, _, _, _⟩ ?_); refine wpList_valueG rfl _ (by exact exec_string_of _ _ _ _ _ rfl Tryd.underlying42 Tryd.underlying5 Tryd.underlying9 rfl (r2.reads (size := 1) (n := 256) (by rw [bvs_length, HPL.out]))) ?_))
  go_ret
  exact ⟨by rw [HE.out]; rfl, b2⟩
/-- What the iterator yields. -/
def wI (b : List UInt8) (j : Nat) : Int := if j = 0 then 0 else if 256 * j < b.length then (j : Int) else 0
def wS (b : List UInt8) (j : Nat) : ByteArray := if j = 0 then stSec [] else if 256 * j < b.length then stSec (b.drop (256 * j)) else stSec b
theorem stWrt_eq (first : Int) (b : List UInt8) (j : Nat) : stWrt first b j = ⟨4, 0, first + wI b j, wS b j⟩ := by
  unfold stWrt wI wS
  split
  · rw [Int.add_zero]
  · split
    · rfl
    · rw [Int.add_zero]
theorem wI_zero (b : List UInt8) : wI b 0 = 0 := rfl
theorem wS_zero (b : List UInt8) : wS b 0 = stSec [] := rfl
theorem wI_mid {b : List UInt8} {j : Nat} (h : 1 ≤ j) (h2 : 256 * j < b.length) : wI b j = (j : Int) := by unfold wI; rw [if_neg (by omega), if_pos h2]
theorem wS_mid {b : List UInt8} {j : Nat} (h : 1 ≤ j) (h2 : 256 * j < b.length) : wS b j = stSec (b.drop (256 * j)) := by unfold wS; rw [if_neg (by omega), if_pos h2]
theorem wI_last {b : List UInt8} {j : Nat} (h2 : ¬ 256 * j < b.length) : wI b j = 0 := by
  unfold wI
  by_cases h0 : j = 0
  · rw [if_pos h0]
  · rw [if_neg h0, if_neg h2]
theorem wS_last {b : List UInt8} {j : Nat} (h : 1 ≤ j) (h2 : ¬ 256 * j < b.length) : wS b j = stSec b := by unfold wS; rw [if_neg (by omega), if_neg h2]
theorem range_last {i m : Nat} (h : i = m) : List.range i ++ [i] = List.range (m + 1) := by rw [h, List.range_succ]
/-- Two blocks are as they were. -/
def Kept2 (g G : Nat) (X Y : World) : Prop := X.heap.size ≤ Y.heap.size ∧ Y.heap[g]? = X.heap[g]? ∧ Y.heap[G]? = X.heap[G]?
theorem Kept2.refl (g G : Nat) (X : World) : Kept2 g G X X := ⟨Nat.le_refl _, rfl, rfl⟩
theorem Kept2.trans {g G : Nat} {X Y Z : World} (h : Kept2 g G X Y) (k : Kept2 g G Y Z) : Kept2 g G X Z := ⟨Nat.le_trans h.1 k.1, k.2.1.trans h.2.1, k.2.2.trans h.2.2⟩
theorem Kept2.of_below {g G n : Nat} {X Y : World} (h : Below n X Y) (hg : g < n) (hG : G < n) : Kept2 g G X Y := ⟨h.size, h.block g hg, h.block G hG⟩
theorem Kept2.row {g G : Nat} {X Y : World} {e : TypeId} {cs : List Value} (h : Kept2 g G X Y) (hr : Row X g e cs) : Row Y g e cs := h.2.1.trans hr
theorem Kept2.reads {g : Nat} {X Y : World} {ad : Addr} {size n : Nat} {xs : List Value} (h : Kept2 g ad.block X Y) (hr : Reads X X.heap.size size (some ad) n xs) : Reads Y Y.heap.size size (some ad) n xs :=
  ⟨hr.1, fun hn => by
    obtain ⟨ad', e, hb, hc⟩ := hr.2 hn
    cases e
    exact ⟨ad, rfl, Nat.lt_of_lt_of_le hb h.1, fun j u hu => (World.cell?_of_block (by rw [block_of_add]; exact h.2.2)).trans (hc j u hu)⟩⟩
theorem kept2_b {g G : Nat} {w : World} (hg : g < w.heap.size) (hG : G < w.heap.size) (W : World) (l : Nat) (o o' : Obj) (hl : w.heap.size ≤ l) : Kept2 g G W (W.putObj l o') :=
  ⟨by simp, World.putObj_heap_other (by omega), World.putObj_heap_other (by omega)⟩
abbrev Upto (m : Nat) := { i : Nat // i < m }
def wArgs (b : List UInt8) (j : Nat) : Array Value := #[.int .i64 (wI b j), .string (wS b j)]
set_option maxRecDepth 100000 in
set_option maxHeartbeats 4000000 in
/-- The iterator, for every loop body that keeps what lay below n₀. -/
theorem writes1_in (n l g : Nat) (hn : 1 ≤ n) (ad : Addr) (c : Nat) (b : List UInt8) (hc : b.length ≤ c) (hb0 : 0 < b.length) (hbl : b.length ≤ 100000) (J Jx : List (Upto (stCnt b + 1)) → World → Prop) (W : World) (hJ : AbidesFrom W.heap.size J)
    (hY : ∀ pre x W1, J pre W1 → pre.length < stCnt b + 1 → YieldAt Fence.wide (n - 1) Tryd.prog l (wArgs b x.1) W1 fun e W' =>
      (e = .returned (.bool true) ∧ J (pre ++ [x]) W' ∧ Kept2 g ad.block W1 W') ∨ (e = .returned (.bool false) ∧ Jx (pre ++ [x]) W'))
    (h1 : Row W g 42 [.slice (some ad) b.length c]) (hr : Reads W W.heap.size 1 (some ad) b.length (bvs b)) (h0 : J [] W) :
    CallsIn Fence.wide n Tryd.prog 59 #[.func (.yield l) #[] #[], .pointer (some ⟨g, 0, none⟩)] W fun e W' => (∃ v, e = .returned v) ∧
      ((∃ xs, xs.map (·.1) = List.range (stCnt b + 1) ∧ J xs W') ∨ (∃ pre, pre.map (·.1) = List.range pre.length ∧ Jx pre W')) := by
  have HZ := fun W => Lib.hid (ssector_any none 0 0 [] W Reads.nil_ (by omega))
  have hgW := h1.lt
  have hGW : ad.block < W.heap.size := by obtain ⟨ad', e, h, _⟩ := hr.2 hb0; cases e; exact h
  have HSEC := fun (W1 : World) (hW : Kept2 g ad.block W W1) => Lib.hid (ssector_any (some ad) b.length c b W1 (hW.reads hr) (by omega))
  have HPT := fun (j : Nat) (hj : j < b.length) (W1 : World) (hW : Kept2 g ad.block W W1) => Lib.hid (ssector_any (some (ad.add j)) (b.length - j) (c - j) (b.drop j) W1 (by
    have h := (hW.reads hr).sub (u := j) (m := b.length - j) (c := c) (by omega) hc
    rw [List.take_of_length_le (by rw [List.length_drop]; exact Nat.le_refl _), if_neg (by omega), Nat.mul_one] at h
    exact h) (by omega))
  have hcnt : 1 ≤ stCnt b := by unfold stCnt; omega
  have hlast : ¬ 256 * stCnt b < b.length := by unfold stCnt; omega
  have hmid : ∀ i, 256 * i < b.length → i < stCnt b := by intro i h; unfold stCnt; omega
  have HMID := Lib.hid hmid
  have HLAST := Lib.hid hlast
  obtain ⟨L, hL⟩ : ∃ L, L = b.length := ⟨_, rfl⟩
  obtain ⟨M, hM⟩ : ∃ M, M = stCnt b := ⟨_, rfl⟩
  have HM := Lib.hid hM
  have HL := Lib.hid hL
  have hMb : M ≤ 1000 := by rw [hM]; unfold stCnt; omega
  rw [← hM] at hcnt
  rw [← hL] at hc hb0 hbl
  clear hmid hlast hL hM
  refine callsIn_of_wp Tryd.func59 rfl trivial ?_ rfl
  simp only [Tryd.ntmps59, List.size_toArray, List.length_cons, List.length_nil, Nat.reduceAdd, Nat.reduceSub, Array.replicate_succ, Array.replicate_zero, List.push_toArray, List.append_toArray, List.nil_append, List.cons_append]
  have hY0 := fun W1 hJ1 => hY [] ⟨0, by omega⟩ W1 hJ1 (by simp)
  unfold wArgs at hY0
  simp only [wI_zero, wS_zero] at hY0
  gi_wp2_with (refine ⟨trivial, ?_⟩; gi_at_call 60; refine (callsIn_wide.2 (HZ _).out).mono ?_; rintro e W2 ⟨rfl, hb2⟩; obtain ⟨fn, tmps, assign, body, hy, hR⟩ := hY0 W2 (hJ [] W W2 none h0 (below_grownBy hb2 none) (fun r e => by cases e)))
  have B2 : Kept2 g ad.block W W2 := Kept2.of_below hb2 hgW hGW
  refine hR.mono ?_
  rintro e W3 (⟨rfl, hJ3, hk3⟩ | ⟨rfl, hJx3⟩)
  rotate_left
  · gi_wp2
    refine bodyPost_ret (results_none rfl _ _ _) rfl ?_
    exact ⟨⟨_, rfl⟩, .inr ⟨_, rfl, hJx3⟩⟩
  have B3 : Kept2 g ad.block W W3 := B2.trans hk3
  have hs3 : W.heap.size ≤ W3.heap.size := by have := hb2.size; have := hk3.1; omega
  gi_wp2
  gi_loopw [3] (fun p wr => ∃ (i : Nat) (pre : List (Upto (stCnt b + 1))), p = .int .i64 (i : Int) ∧ 1 ≤ i ∧ i ≤ M ∧ pre.length = i ∧ pre.map (·.1) = List.range i ∧ J pre wr ∧ Kept2 g ad.block W wr ∧ W.heap.size ≤ wr.heap.size)
    (fun p wr => match p with | .int _ x => M - x.toNat | _ => 0)
  case atStart => exact ⟨1, [⟨0, by omega⟩], rfl, by omega, hcnt, rfl, rfl, hJ3, B3, hs3⟩
  case round =>
    obtain ⟨i, pre, rfl, hi1, hi, hpl, hpm, hJp, hbr, hsz⟩ := hrel
    have c1 := (hbr.row h1).cell (j := 0) rfl
    rw [← HL.out] at c1
    by_cases hlt : i * 256 < L
    · have him : i < M := by rw [HM.out]; exact HMID.out i (by rw [← HL.out]; omega)
      have hne : ¬ c = i * 256 := by omega
      have HPI := fun W1 hW => (HPT (i * 256) (by rw [← HL.out]; exact hlt) W1 hW)
      rw [← HL.out] at HPI
      have hYi := fun W1 hJ1 => hY pre ⟨i, by rw [← HM.out]; omega⟩ W1 hJ1 (by rw [hpl, ← HM.out]; omega)
      unfold wArgs at hYi
      simp only [wI_mid hi1 (show 256 * i < b.length by rw [← HL.out]; omega), wS_mid hi1 (show 256 * i < b.length by rw [← HL.out]; omega)] at hYi
      rw [Nat.mul_comm 256 i] at hYi
      gi_wp2_with (refine ⟨trivial, ?_⟩; gi_at_call 60; refine (callsIn_wide.2 (HPI _ hbr).out).mono ?_; rintro e W4 ⟨rfl, hb4⟩; obtain ⟨fn, tmps, assign, body, hy, hR⟩ := hYi W4 (hJ pre wr W4 none hJp (below_grownBy hb4 none) (fun r e => by cases e)))
      have B4 : Kept2 g ad.block W W4 := hbr.trans (Kept2.of_below hb4 (by omega) (by omega))
      refine hR.mono ?_
      rintro e W5 (⟨rfl, hJ5, hk5⟩ | ⟨rfl, hJx5⟩)
      · gi_wp2
        go_roundw
        case rel => exact ⟨i + 1, pre ++ [⟨i, by rw [← HM.out]; omega⟩], by go_num, by omega, by omega, by simp [hpl], by rw [List.map_append, hpm, List.range_succ]; rfl, hJ5, B4.trans hk5, by have := hb4.size; have := hk5.1; omega⟩
        case measure => go_num
      · gi_wp2
        refine bodyPost_ret (results_none rfl _ _ _) rfl ?_
        exact ⟨⟨_, rfl⟩, .inr ⟨_, by rw [List.map_append, hpm, List.length_append, hpl]; exact List.range_succ.symm, hJx5⟩⟩
    · have hiM : i = M := by
        have h1 : ¬ (i < M ∧ ¬ i * 256 < L) := by rw [HM.out, HL.out]; unfold stCnt; omega
        omega
      subst hiM
      have hYi := fun W1 hJ1 => hY pre ⟨i, by rw [← HM.out]; omega⟩ W1 hJ1 (by rw [hpl, ← HM.out]; omega)
      unfold wArgs at hYi
      simp only [wI_last (show ¬ 256 * i < b.length by rw [← HL.out]; omega), wS_last hi1 (show ¬ 256 * i < b.length by rw [← HL.out]; omega)] at hYi
      have HSI := fun W1 hW => HSEC W1 hW
      rw [← HL.out] at HSI
      gi_wp2_with (refine ⟨trivial, ?_⟩; gi_at_call 60; refine (callsIn_wide.2 (HSI _ hbr).out).mono ?_; rintro e W4 ⟨rfl, hb4⟩; obtain ⟨fn, tmps, assign, body, hy, hR⟩ := hYi W4 (hJ pre wr W4 none hJp (below_grownBy hb4 none) (fun r e => by cases e)))
      refine hR.mono ?_
      rintro e W5 (⟨rfl, hJ5, hk5⟩ | ⟨rfl, hJx5⟩)
      · gi_wp2
        refine bodyPost_end (results_none rfl _ _ _) rfl ?_
        exact ⟨⟨_, rfl⟩, .inl ⟨_, by rw [List.map_append, hpm]; exact range_last HM.out, hJ5⟩⟩
      · gi_wp2
        refine bodyPost_end (results_none rfl _ _ _) rfl ?_
        exact ⟨⟨_, rfl⟩, .inr ⟨_, by rw [List.map_append, hpm, List.length_append, hpl]; exact List.range_succ.symm, hJx5⟩⟩
theorem writes_stops (n g : Nat) (hn : 1 ≤ n) (ad : Addr) (c : Nat) (b : List UInt8) (hc : b.length ≤ c) (hb0 : 0 < b.length) (hbl : b.length ≤ 100000) (w : World)
    (h1 : Row w g 42 [.slice (some ad) b.length c]) (hr : Reads w w.heap.size 1 (some ad) b.length (bvs b)) :
    SeqStopsK Fence.wide n Tryd.prog 59 #[.pointer (some ⟨g, 0, none⟩)] (fun x : Upto (stCnt b + 1) => wArgs b x.1) (Kept2 g ad.block)
      (fun xs => xs.map (·.1) = List.range (stCnt b + 1)) (fun pre => pre.map (·.1) = List.range pre.length) (stCnt b + 1) w := fun l J Jx W hW hJ _ hY h0 =>
  writes1_in n l g hn ad c b hc hb0 hbl J Jx W hJ hY (h1.on hW) (hr.on hW) h0
set_option maxRecDepth 100000 in
set_option maxHeartbeats 4000000 in
theorem swrites_any (A : Option Addr) (n c : Nat) (w : World) : Calls Tryd.prog 45 #[.slice A n c] w fun e w' =>
    ∃ g, e = .returned (.func (.func 59) #[] #[.pointer (some ⟨g, 0, none⟩)]) ∧ Row w' g 42 [.slice A n c] ∧ w.heap.size ≤ g ∧ Below w.heap.size w w' := by
  go_enter Tryd.func45, Tryd.ntmps45
  go_wp2_with (with_reducible refine wpList_box_row (o := ⟨some 1, _, _, _, _, _⟩) rfl _ _ rfl [.slice A n c] rfl ?_; intro w1 r1 s1 g1)
  go_ret
  exact ⟨_, rfl, r1, Nat.le_refl _, grown_below g1 (Nat.le_refl _) (by simp)⟩
end Go.Proofs.YtfclifolniefpaaDoor
