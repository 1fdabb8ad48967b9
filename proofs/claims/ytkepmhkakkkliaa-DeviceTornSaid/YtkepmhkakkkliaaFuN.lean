/-
  What fuse.New returns: a contract by a walk. No condition but a bounded length.
-/
import Derived.Test.YtkepmhkakkkliaaFuP
namespace Go.Proofs.Ytkepmhkakkkliaa
open Go.RowKit

def ivz (l : List Int) : List Value := l.map (Value.int .i64)
theorem Reads.ivz_len {w : World} {B n : Nat} {A : Option Addr} {l : List Int} (h : Reads w B 1 A n (ivz l)) : l.length = n := by
  have := h.1; unfold ivz at this; rw [List.length_map] at this; omega
theorem Reads.int_at {w : World} {B n : Nat} {A : Option Addr} {l : List Int} (h : Reads w B 1 A n (ivz l)) {i : Nat} {x : Int} (hx : l[i]? = some x) : ∃ ad, A = some ad ∧ ad.block < B ∧ w.cell? (ad.add i) = some (.int .i64 x) := by
  have hi : i < n := by have := h.ivz_len; have := (List.getElem?_eq_some_iff.1 hx).1; omega
  obtain ⟨ad, u, hA, hb, hu, hc⟩ := h.at_ hi
  unfold ivz at hu
  rw [List.getElem?_map, hx] at hu
  cases hu
  exact ⟨ad, hA, hb, hc⟩
def nilP : Part := ⟨none, 0, 0, []⟩
def nils (n : Nat) : List Part := List.replicate n nilP
theorem nils_at {n i : Nat} (h : i < n) : (nils n)[i]? = some nilP := by unfold nils; rw [List.getElem?_replicate, if_pos h]
theorem nils_v (n : Nat) : List.replicate n (Value.slice none 0 0) = midR [] (nils n) 0 [] := by
  unfold midR nils
  rw [List.drop_zero, List.map_replicate, List.append_nil]
  rfl
def zeroB (b : Int) : List UInt8 := List.replicate (3 * b.toNat) 0
theorem zeroB_v (m : Nat) : List.replicate m (Value.int .u8 0) = bvs (List.replicate m 0) := by
  unfold bvs
  rw [List.map_replicate]
  rfl
theorem fuNewBad_len {bits : List Int} (h : 4 < bits.length) : fuNewBad bits = true := by unfold fuNewBad; rw [decide_eq_true h]; rfl
theorem fuNewBad_at {bits : List Int} {i : Nat} {x : Int} (h : bits[i]? = some x) (hx : x < 0 ∨ 16 < x) : fuNewBad bits = true := by
  unfold fuNewBad
  rw [Bool.or_eq_true]
  refine .inr (List.any_eq_true.2 ⟨x, List.mem_of_getElem? h, ?_⟩)
  rw [Bool.or_eq_true, decide_eq_true_eq, decide_eq_true_eq]
  exact hx
theorem fuNewBad_no {bits : List Int} (h : ¬ 4 < bits.length) (ha : (bits.any fun n => decide (n < 0) || decide (16 < n)) = false) : fuNewBad bits = false := by unfold fuNewBad; rw [decide_eq_false h, ha]; rfl

set_option maxRecDepth 100000 in
set_option maxHeartbeats 4000000 in
theorem fnew_in (A : Option Addr) (n c : Nat) (bits : List Int) (w : World) (hr : Reads w w.heap.size 1 A n (ivz bits)) (hn : n ≤ 9223372036854775806) :
    Calls Try.prog 28 #[.slice A n c] w (GivesFX (fun _ => False) (fuNew bits) (fuNewE bits) w) := by
  have HLN := Lib.hid hr.ivz_len
  have HZ0 := Lib.hid (slice_one none 0 0)
  by_cases h4 : 4 < n
  · have HB : Hid (fuNewBad bits = true) := Lib.hid (fuNewBad_len (by rw [HLN.out]; exact h4))
    have HF : Hid (fuNew bits = []) := Lib.hid (by unfold fuNew; rw [HB.out]; rfl)
    have HE : Hid (fuNewE bits = 1) := Lib.hid (by unfold fuNewE; rw [HB.out]; rfl)
    go_enter Try.func28, Try.ntmps28
    go_wp2_with (first
      | (with_reducible refine wpList_alloc_row (o := ⟨some 2, _, _, _, _, _⟩) rfl _ rfl [.slice none 0 0] (by kernel_rfl) ?_; intro w1 r1 s1 g1)
      | (with_reducible refine wpList_store_all (o := ⟨none, _, _, _, _, _⟩) rfl _ _ _ rfl w.heap.size rfl _ _ r1 [.slice none 0 0] rfl HZ0.out rfl (by kernel_rfl) ?_; intro wy ry gy))
    have hload := run_loadVar_at (P := Try.prog) wy 24 ⟨w.heap.size, 0, none⟩ [.slice none 0 0] ry.cells _ Try.underlying24 rfl (by kernel_rfl)
    have b1 := grown_below g1 (Nat.le_refl _) (by simp)
    refine bodyPost_ret (results_cellE Try.results28 _ _ _ _ rfl hload) rfl ⟨none, 0, 0, [], by rw [HE.out]; rfl, ⟨⟨Reads.nil_, fun p hp => by simp at hp⟩, Nat.le_refl _, fun p hp => by simp at hp⟩, FuIn.nil_, by rw [HF.out]; rfl, below_kept b1 gy b1.size (by rintro k hk; cases hk; exact Nat.le_refl _)⟩
  · go_enter Try.func28, Try.ntmps28
    go_wp2_with (first
      | (with_reducible refine wpList_alloc_row (o := ⟨some 2, _, _, _, _, _⟩) rfl _ rfl [.slice none 0 0] (by kernel_rfl) ?_; intro w1 r1 s1 g1)
      | (with_reducible refine wpList_make_row (o := ⟨some 13, _, _, _, _, _⟩) rfl _ _ _ rfl 56 Try.underlying22 (.slice none 0 0) rfl 24 (by kernel_rfl) _ _ n n rfl rfl (Nat.le_refl _) (by omega) (by omega) ?_; intro w2 r2 s2 g2))
    have b1 := grown_below g1 (Nat.le_refl _) (by simp)
    have b2 := below_kept b1 g2 b1.size (by simp)
    have r1' := r1.kept g2 (by simp)
    have hlt := r1.lt
    rw [nils_v] at r2
    clear r1 g1 g2
    obtain ⟨G, hG⟩ : ∃ G, G = w1.heap.size := ⟨_, rfl⟩
    rw [← hG] at r2 hlt ⊢
    have HG := Lib.hid hG
    clear hG
    have HZU := Lib.hid zeroB_v
    go_loopg [16] n (fun g s16 wr => ∃ (i : Nat) (qs : List Part), Hid (i + g = n) ∧ i ≤ n ∧ s16 = .int .i64 (i : Int) ∧ Hid (qs.length = i) ∧ Hid (bk qs = (bits.take i).map zeroB) ∧ Hid (((bits.take i).any fun n => decide (n < 0) || decide (16 < n)) = false) ∧ Row wr w.heap.size 24 [.slice none 0 0] ∧ Row wr G 56 (midR qs (nils n) i []) ∧ OwnL wr (G + 1) qs ∧ Below w.heap.size w wr)
    case atStart => exact ⟨0, [], by show _ = _; omega, by omega, rfl, Lib.hid rfl, Lib.hid rfl, Lib.hid rfl, r1', r2, OwnL.nil_, b2⟩
    case round =>
      obtain ⟨i, qs, HI, hi, rfl, HQL, HQB, HOK, e1, e3, e4, hB⟩ := hrel
      by_cases hlt' : i < n
      · obtain ⟨x, hx⟩ : ∃ x, bits[i]? = some x := ⟨_, List.getElem?_eq_getElem (by rw [HLN.out]; exact hlt')⟩
        obtain ⟨ad, rfl, _, hc⟩ := (hr.below hB).int_at hx
        have HX := Lib.hid hx
        by_cases hbad : x < 0 ∨ 16 < x
        · have HB : Hid (fuNewBad bits = true) := Lib.hid (fuNewBad_at hx hbad)
          have HF : Hid (fuNew bits = []) := Lib.hid (by unfold fuNew; rw [HB.out]; rfl)
          have HE : Hid (fuNewE bits = 1) := Lib.hid (by unfold fuNewE; rw [HB.out]; rfl)
          have fin : ∀ wy, Row wy w.heap.size 24 [.slice none 0 0] → wr.grownBy wy (some w.heap.size) → GivesFX (fun _ => False) (fuNew bits) (fuNewE bits) w (.returned (.tuple #[fuv none 0 0, .int .i64 1])) wy := fun wy _ gy =>
            ⟨none, 0, 0, [], by rw [HE.out], ⟨⟨Reads.nil_, fun p hp => by simp at hp⟩, Nat.le_refl _, fun p hp => by simp at hp⟩, FuIn.nil_, by rw [HF.out]; rfl, below_kept hB gy hB.size (by rintro k hk; cases hk; exact Nat.le_refl _)⟩
          have FIN := Lib.hid fin
          clear hx fin
          rcases hbad with hb | hb
          · go_wp2_with (with_reducible refine wpList_store_all (o := ⟨none, _, _, _, _, _⟩) rfl _ _ _ rfl w.heap.size rfl _ _ e1 [.slice none 0 0] rfl HZ0.out rfl (by kernel_rfl) ?_; intro wy ry gy)
            have hload := run_loadVar_at (P := Try.prog) wy 24 ⟨w.heap.size, 0, none⟩ [.slice none 0 0] ry.cells _ Try.underlying24 rfl (by kernel_rfl)
            exact bodyPost_ret (results_cellE Try.results28 _ _ _ _ rfl hload) rfl (FIN.out wy ry gy)
          · have hb0 : ¬ x < 0 := by omega
            go_wp2_with (with_reducible refine wpList_store_all (o := ⟨none, _, _, _, _, _⟩) rfl _ _ _ rfl w.heap.size rfl _ _ e1 [.slice none 0 0] rfl HZ0.out rfl (by kernel_rfl) ?_; intro wy ry gy)
            have hload := run_loadVar_at (P := Try.prog) wy 24 ⟨w.heap.size, 0, none⟩ [.slice none 0 0] ry.cells _ Try.underlying24 rfl (by kernel_rfl)
            exact bodyPost_ret (results_cellE Try.results28 _ _ _ _ rfl hload) rfl (FIN.out wy ry gy)
        · obtain ⟨b, rfl⟩ : ∃ b : Nat, x = (b : Int) := ⟨x.toNat, by omega⟩
          have hb16 : b ≤ 16 := by omega
          have HTK : Hid (bits.take (i + 1) = bits.take i ++ [(b : Int)]) := Lib.hid (by rw [List.take_add_one, hx]; rfl)
          have HOK2 : Hid (((bits.take (i + 1)).any fun n => decide (n < 0) || decide (16 < n)) = false) := Lib.hid (by
            rw [HTK.out, List.any_append, HOK.out, List.any_cons, decide_eq_false (show ¬ (b : Int) < 0 by omega), decide_eq_false (show ¬ 16 < (b : Int) by omega)]; rfl)
          have HMS := fun q => Lib.hid (midR_set (tl := []) HQL.out (nils_at hlt') q)
          have HML := Lib.hid (midR_len (tl := []) (nils_at hlt') HQL.out)
          have hGl := e3.lt
          have HV : Hid (Value.int .i64 (3 * (b : Int)) = .int .i64 ((3 * b : Nat) : Int)) := Lib.hid rfl
          clear hx hbad
          go_wp2_with (first
            | ((with_reducible refine wpList_at ⟨some 32, _, _, _, _, _⟩ ?_); refine wpList_make_row rfl _ _ _ rfl 5 Try.underlying56 (.int .u8 0) rfl 1 (by kernel_rfl) .i64 .i64 (3 * b) (3 * b) HV.out HV.out (Nat.le_refl _) (by omega) (by omega) ?_; intro w5 r5 s5 g5)
            | ((with_reducible refine wpList_at ⟨none, .store _ (.tmp 33) _, _, _, _, _⟩ ?_); refine wpList_store_elem rfl _ _ _ rfl G i rfl _ _ (e3.kept g5 (by simp)) (.slice (some ⟨wr.heap.size, 0, none⟩) (3 * b) (3 * b)) rfl rfl HML.out (by kernel_rfl) ?_; intro w6 r6 g6))
          have b5 := grown_below g5 (Nat.le_refl _) (by simp)
          have hown5 : w5.ownsRow wr.heap.size 5 1 (⟨some ⟨wr.heap.size, 0, none⟩, 3 * b, 3 * b, zeroB (b : Int)⟩ : Part).v (3 * b) (bvs (zeroB (b : Int))) := by
            rw [HZU.out] at r5
            exact r5.owns_all (Nat.le_refl _) (3 * b) (by rw [bvs_length, List.length_replicate]) (by unfold maxLen; omega)
          have f4 := (OwnL.snoc (w := wr) (q := ⟨some ⟨wr.heap.size, 0, none⟩, 3 * b, 3 * b, zeroB (b : Int)⟩) e4 b5 hGl hown5).kept g6 (Nat.lt_succ_self _)
          have f1 := (e1.on b5).kept g6 (by simp; omega)
          have B6 := below_kept (hB.trans (b5.mono hB.size)) g6 (hB.trans (b5.mono hB.size)).size (by rintro k hk; cases hk; omega)
          rw [show Value.slice (some ⟨wr.heap.size, 0, none⟩) (3 * b) (3 * b) = (⟨some ⟨wr.heap.size, 0, none⟩, 3 * b, 3 * b, zeroB (b : Int)⟩ : Part).v from rfl, (HMS _).out] at r6
          go_roundg (gk - 1)
          case measure => have := HI.out; omega
          case rel =>
            refine ⟨i + 1, qs ++ [⟨some ⟨wr.heap.size, 0, none⟩, 3 * b, 3 * b, zeroB (b : Int)⟩], by have := HI.out; show _ = _; omega, by omega, by go_num, Lib.hid (by rw [List.length_append, HQL.out]; rfl), ?_, HOK2, f1, r6, f4, B6⟩
            show _ = _
            rw [HTK.out, List.map_append]
            unfold bk at *
            rw [List.map_append, HQB.out]
            rfl
      · obtain rfl : i = n := by omega
        have HT : Hid (bits.take i = bits) := Lib.hid (List.take_of_length_le (by rw [HLN.out]; exact Nat.le_refl _))
        have HB : Hid (fuNewBad bits = false) := Lib.hid (fuNewBad_no (by rw [HLN.out]; exact h4) (by rw [← HT.out]; exact HOK.out))
        have HF : Hid (fuNew bits = bits.map zeroB) := Lib.hid (by unfold fuNew; rw [HB.out]; rfl)
        have HE : Hid (fuNewE bits = 0) := Lib.hid (by unfold fuNewE; rw [HB.out]; rfl)
        go_wp2_with (with_reducible refine wpList_store_all (o := ⟨none, _, _, _, _, _⟩) rfl _ _ _ rfl w.heap.size rfl _ _ e1 [.slice (some ⟨G, 0, none⟩) i i] rfl (slice_one _ _ _) rfl (by kernel_rfl) ?_; intro wy ry gy)
        have hload := run_loadVar_at (P := Try.prog) wy 24 ⟨w.heap.size, 0, none⟩ [.slice (some ⟨G, 0, none⟩) i i] ry.cells _ Try.underlying24 rfl (by kernel_rfl)
        have e3y := e3.kept gy (by simp; omega)
        have e4y := e4.kept gy (by omega)
        unfold midR nils at e3y
        rw [List.drop_of_length_le (by rw [List.length_replicate]; exact Nat.le_refl _), List.map_nil, List.nil_append] at e3y
        have hO : OwnB wy w.heap.size (some ⟨G, 0, none⟩) i i qs := ⟨HQL.out, Nat.le_refl _, fun _ => ⟨G, [], rfl, by omega, e3y, e4y⟩⟩
        refine bodyPost_ret (results_cellE Try.results28 _ _ _ _ rfl hload) rfl ⟨some ⟨G, 0, none⟩, i, i, qs, by rw [HE.out]; rfl, hO.ok, hO.in_.weak (fun b hb => .inr (by omega)), by rw [HF.out, HQB.out, HT.out], below_kept hB gy hB.size (by rintro k hk; cases hk; exact Nat.le_refl _)⟩
theorem fnew_any (A : Option Addr) (n c : Nat) (bits : List Int) (w : World) (hr : Reads w w.heap.size 1 A n (ivz bits)) (hn : n ≤ 9223372036854775806) :
    Calls Try.prog 28 #[.slice A n c] w (GivesFE (fuNew bits) (fuNewE bits) w) := by
  refine (fnew_in A n c bits w hr hn).mono ?_
  rintro e w' ⟨A', n', c', qs, rfl, ho, _, hb, hB⟩
  exact ⟨A', n', c', qs, rfl, ho, hb, hB⟩
end Go.Proofs.Ytkepmhkakkkliaa
