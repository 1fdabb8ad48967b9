/-
  What the reference's Sum returns: a contract by a walk. Condition: at most 10^9 bytes.
-/
import Derived.Test.YtfclifolniefpaaDoorRWord
import Derived.Test.YtfclifolniefpaaDoorPad
import Derived.Test.YtfclifolniefpaaDoorBase
namespace Go.Proofs.YtfclifolniefpaaDoor
open Go.RowKit

def zeros32 : List Value := List.replicate 32 (.int .u8 0)
theorem zero_b32 : (Tryd.prog.info? 106).map (fun i => i.zero.map (·.cells)) = some (some zeros32.toArray) := by kernel_rfl
theorem b32_size (l : List UInt8) (h : l.length = 32) : (Tryd.prog.info? 106).map (·.size) = some (bvs l).length := by rw [bvs_length, h]; kernel_rfl
theorem b32_zeros (l : List UInt8) (h : l.length = 32) : zeros32.length = (bvs l).length := by rw [bvs_length, h]; rfl

theorem zeros32_one : ∀ u ∈ zeros32, u.oneCell' = true := by
  intro u hu
  rw [List.eq_of_mem_replicate hu]
  rfl
theorem byte_val (x : UInt32) (n : Nat) : Value.int IntKind.u8 (wi x / 2 ^ n % 256) = bv (UInt8.ofNat (x.toNat / 2 ^ n)) := by
  unfold bv wi
  rw [UInt8.toNat_ofNat']
  congr 1
theorem own_len {w : World} {b : Nat} {e : TypeId} {s n m : Nat} {v : Value} {xs : List Value} (h : w.ownsRow b e s v n xs) (he : n = m) : w.ownsRow b e s v m xs := he ▸ h
theorem be_val (n k : Nat) (hk : k ≤ 7) : Value.int IntKind.u8 (8 * (n : Int) / 2 ^ (8 * (7 - k)) % 256) = bv (UInt8.ofNat (8 * n / 2 ^ (56 - 8 * k))) := by
  unfold bv
  rw [UInt8.toNat_ofNat', show 56 - 8 * k = 8 * (7 - k) by omega]
  congr 1

set_option maxRecDepth 100000 in
set_option maxHeartbeats 4000000 in
theorem refSum_any (A : Option Addr) (c : Nat) (l : List UInt8) (n : Nat) (w : World) (hr : Reads w w.heap.size 1 A n (bvs l)) (hn : n ≤ 1000000000) :
    Calls Tryd.prog 53 #[.slice A n c] w (GivesV (.agg (bvs (sha l)).toArray) w) := by
  obtain ⟨i0, hi0, hz0, hz1, hz2⟩ := info_parts info_u8
  have HL := Lib.hid hr.bytes_len
  go_enter Tryd.func53, Tryd.ntmps53
  go_wp2_with (first
    | (with_reducible refine wpList_alloc_row (o := ⟨some 2, _, _, _, _, _⟩) rfl _ rfl zeros32 zero_b32 ?_
       intro w1 hrow1 hs1 hg1
       have hr1 := hr.kept hg1 (Nat.le_refl _) (by simp)
       have hown1 := (row_alloc w1 5 []).owns_all (base := w1.heap.size) (Nat.le_refl _) 0 rfl (by unfold maxLen; omega))
    | (at_builtin
       refine wpList_append_src _ rfl (.tmp 11) (.tmp 12) _ _ rfl w1.heap.size 5 i0 _ 1 1 Tryd.underlying42 hi0 hz0 hz1 hz2 rfl _ _ _ rfl hown1 n _ (Src.ofReads _ Tryd.underlying42 (hr1.alloc (by omega) _) (bvs_one _)) (by unfold maxLen; omega) (by omega) (by simp) ?_
       intro v2 w2 hown2 hb2
       clear hown1 hr1
       simp only [Nat.zero_add, List.nil_append] at hown2)
    | (at_builtin
       refine wpList_append_src _ rfl (.tmp 13) (.tmp 14) _ _ rfl w1.heap.size 5 i0 _ 1 1 Tryd.underlying42 hi0 hz0 hz1 hz2 rfl _ _ _ rfl (hown2.alloc _) 1 _ (Src.box Tryd.underlying42 _ _ _ rfl _) (by unfold maxLen; omega) (by omega) (by have := hb2.size; simp at this ⊢; omega) ?_
       intro v3 w3 hown3 hb3))
  have hb12 : Below w1.heap.size w1 w3 := ((Below.refl _ _).alloc (Nat.le_refl _) _).trans (hb2.trans (((Below.refl _ _).alloc (by have := hb2.size; simp at this; omega) _).trans hb3))
  have hrow3 := hrow1.on hb12
  have hbel3 : Below w.heap.size w w3 := (grown_below hg1 (Nat.le_refl _) (by simp)).trans (hb12.mono (by omega))
  have hown : w3.ownsRow w1.heap.size 5 1 v3 (n + 1 + 0) (bvs (l ++ [128] ++ List.replicate 0 0)) := by
    simp only [bvs_append, List.replicate_zero, List.append_nil, Nat.add_zero]
    exact hown3
  have hs3 := hb12.size
  clear hown3 hown2 hb2 hb3 hb12 hg1 hrow1
  go_loopg [3] (zerosN n) (fun g s3 wr => ∃ j : Nat, Hid (j + g = zerosN n) ∧ j ≤ zerosN n ∧ wr.ownsRow w1.heap.size 5 1 s3 (n + 1 + j) (bvs (l ++ [128] ++ List.replicate j 0)) ∧ Row wr w.heap.size 106 zeros32 ∧ w1.heap.size ≤ wr.heap.size ∧ Below w.heap.size w wr)
  case atStart => exact ⟨0, by show _ = _; omega, by omega, hown, hrow3, hs3, hbel3⟩
  case round =>
    obtain ⟨j, HJ, hj, hown, hrow, hsz, hbel⟩ := hrel
    have hz := zeros_lt n
    have hzm := zeros_more n j hj
    obtain ⟨A3, c3, rfl, hc3, _, hr3⟩ := own_form hown
    by_cases hlt : j < zerosN n
    · have hq : (((n : Int) + 1 + (j : Int)) % 64 == 56) = false := by simp; omega
      have hq2 : (((n : Int) + 1 + (j : Int)) % 64 != 56) = true := by simp; omega
      clear hzm
      go_wp2_with (at_builtin; refine wpList_append_src _ rfl (.tmp 20) (.tmp 21) _ _ rfl w1.heap.size 5 i0 _ 1 1 Tryd.underlying42 hi0 hz0 hz1 hz2 rfl _ _ _ rfl (hown.alloc _) 1 _ (Src.box Tryd.underlying42 _ _ _ rfl _) (by unfold maxLen; omega) (by omega) (by simp; omega) ?_; intro v4 w4 hown4 hb4)
      have hb14 : Below w1.heap.size wr w4 := ((Below.refl _ _).alloc hsz _).trans hb4
      go_roundg (gk - 1)
      case measure => have := HJ.out; omega
      case rel =>
        refine ⟨j + 1, by have := HJ.out; show _ = _; omega, by omega, ?_, hrow.below hb14 (by omega), Nat.le_trans hsz hb14.size, hbel.trans (hb14.mono (by omega))⟩
        rw [List.replicate_succ', ← List.append_assoc, bvs_append]
        exact hown4
    · have hjz : Hid (j = zerosN n) := by show _ = _; omega
      have hq : (((n : Int) + 1 + (j : Int)) % 64 == 56) = true := by simp; omega
      have hq2 : (((n : Int) + 1 + (j : Int)) % 64 != 56) = false := by simp; omega
      clear hzm
      go_wp2_with fail
      clear hq hq2
      obtain ⟨M0, hM0⟩ : ∃ M0, M0 = l ++ [128] ++ List.replicate (zerosN n) 0 := ⟨_, rfl⟩
      obtain ⟨q, hq⟩ : ∃ q, q = n + 1 + zerosN n := ⟨_, rfl⟩
      have hqb : q ≤ 1000000100 := by omega
      have hown0 : wr.ownsRow w1.heap.size 5 1 (.slice A3 (n + 1 + j) c3) (q + 0) (bvs (M0 ++ beK (8 * n) 0)) := by
        refine own_len (n := n + 1 + j) ?_ (by have := hjz.out; omega)
        rw [show beK (8 * n) 0 = [] from rfl, List.append_nil, hM0, ← hjz.out]
        exact hown
      have HM0 := Lib.hid hM0
      have HQ := Lib.hid hq
      clear hM0 hr3 hjz HJ hown hq
      obtain ⟨wo, rfl⟩ : ∃ wo : World, wo = wr := ⟨_, rfl⟩
      obtain ⟨g0, rfl⟩ : ∃ g0 : Nat, g0 = gk := ⟨_, rfl⟩
      go_loopg [3, 5] 8 (fun g s3 s5 wr => ∃ k : Nat, Hid (k + g = 8) ∧ k ≤ 8 ∧ s5 = .int .i64 (7 - (k : Int)) ∧ wr.ownsRow w1.heap.size 5 1 s3 (q + k) (bvs (M0 ++ beK (8 * n) k)) ∧ Row wr w.heap.size 106 zeros32 ∧ w1.heap.size ≤ wr.heap.size ∧ Below w.heap.size w wr)
      case atStart => exact ⟨0, rfl, by omega, by simp, hown0, hrow, hsz, hbel⟩
      case round =>
        obtain ⟨k, HK, hk, rfl, hown, hrow, hsz, hbel⟩ := hrel
        obtain ⟨A4, c4, rfl, hc4, _, hr4⟩ := own_form hown
        by_cases hlt : k < 8
        · go_wp2_with (at_builtin; refine wpList_append_src _ rfl (.tmp 31) (.tmp 37) _ _ rfl w1.heap.size 5 i0 _ 1 1 Tryd.underlying42 hi0 hz0 hz1 hz2 rfl _ _ _ rfl (hown.alloc _) 1 _ (Src.box Tryd.underlying42 _ _ _ rfl _) (by unfold maxLen; omega) (by omega) (by simp; omega) ?_; intro v4 w4 hown4 hb4)
          have hb14 : Below w1.heap.size wr w4 := ((Below.refl _ _).alloc hsz _).trans hb4
          go_roundg (gk - 1)
          case measure => have := HK.out; omega
          case rel =>
            refine ⟨k + 1, by have := HK.out; show _ = _; omega, by omega, by go_num, ?_, hrow.below hb14 (by omega), Nat.le_trans hsz hb14.size, hbel.trans (hb14.mono (by omega))⟩
            rw [beK_succ, ← List.append_assoc, bvs_append]
            rw [be_val n k (by omega)] at hown4
            exact hown4
        · have hk8 : Hid (k = 8) := by show _ = _; omega
          go_wp2_with fail
          refine (refWords_lit _ 8 first8.list _ (by as_aux_lemma => decide +kernel) (by as_aux_lemma => decide +kernel) (by as_aux_lemma => decide +kernel) (by as_aux_lemma => decide +kernel)).mono ?_
          rintro e w5 ⟨v5, rfl, hown5, hb5⟩
          go_wp2_with fail
          refine (refWords_lit _ 64 roundK _ (by as_aux_lemma => decide +kernel) (by as_aux_lemma => decide +kernel) (by as_aux_lemma => decide +kernel) (by as_aux_lemma => decide +kernel)).mono ?_
          rintro e w6 ⟨v6, rfl, hown6, hb6⟩
          have hown5 := own_len hown5 (show first8.list.length = 8 from rfl)
          have hown6 := own_len hown6 (show roundK.length = 64 from rfl)
          obtain ⟨Ak, ck, rfl, _, _, hrk⟩ := own_form hown6
          have hlen : (l ++ [128] ++ List.replicate (zerosN n) 0).length = q := by rw [HQ.out]; simp [HL.out]; omega
          have HPD : Hid (bvs (M0 ++ beK (8 * n) k) = bvs (padded l)) := by
            show _ = _
            rw [padded_eq, HL.out, HM0.out, hk8.out]
          have HPL : Hid (q + k = (padded l).length) := by
            show _ = _
            rw [padded_len, HL.out, HQ.out, hk8.out]; omega
          have h64 := padded_64 l
          rw [HPD.out] at hr4
          have hc4 := hc4
          rw [← HPL.out] at h64
          have hp9 : 9 ≤ q + k := by have := HQ.out; omega
          have hb56 : Below wr.heap.size wr w6 := hb5.trans (hb6.mono hb5.size)
          have hr6 := hr4.on hb56
          have hrow6 := hrow.below hb56 (by omega)
          have hown56 := own_base (own_below hown5 hb6) hsz
          have hbel6 := hbel.trans (hb56.mono (by omega))
          have hsz6 := Nat.le_trans hsz hb56.size
          clear hown hown5 hown6 hb5 hb6 hb56 hr4 hrow hbel HPD hk8 HK hrow3 hbel3 hlt hlen
          obtain ⟨wp, rfl⟩ : ∃ wp : World, wp = wr := ⟨_, rfl⟩
          obtain ⟨g1, rfl⟩ : ∃ g1 : Nat, g1 = gk := ⟨_, rfl⟩
          go_wp2_with fail
          go_loopg [6, 8] ((q + k) / 64) (fun g s6 s8 wr => ∃ m : Nat, Hid (m + g = (q + k) / 64) ∧ m ≤ (q + k) / 64 ∧ s8 = .int .i64 ((64 * m : Nat) : Int) ∧ wr.ownsRow w1.heap.size 108 1 s6 8 (wvs (blocksN first8 (padded l) m).list) ∧
            Reads wr wr.heap.size 1 A4 (q + k) (bvs (padded l)) ∧ Reads wr wr.heap.size 1 Ak 64 (wvs roundK) ∧ Row wr w.heap.size 106 zeros32 ∧ w1.heap.size ≤ wr.heap.size ∧ Below w.heap.size w wr)
          case atStart => exact ⟨0, by show _ = _; omega, by omega, rfl, by rw [blocksN_zero]; exact hown56, hr6, hrk, hrow6, hsz6, hbel6⟩
          case round =>
            obtain ⟨m, HM, hm, rfl, hown, hr4, hrk, hrow, hsz, hbel⟩ := hrel
            obtain ⟨Av, cv, rfl, _, _, hrv⟩ := own_form hown
            by_cases hlt : 64 * m < q + k
            · have hsub := hr4.sub (u := 64 * m) (m := 64) (c := c4) (by omega) hc4
              rw [Nat.mul_one, if_neg (show ¬ c4 = 64 * m by omega)] at hsub
              obtain ⟨a4, rfl⟩ : ∃ a4, A4 = some a4 := by
                obtain ⟨ad, h, _⟩ := hr4.2 (by omega)
                exact ⟨ad, h⟩
              have hcon := fun cb cv ck => Lib.hid (refCompress_any (blocksN first8 (padded l) m) Av _ Ak cv cb ck _ wr hrv hsub hrk)
              have HB := Lib.hid (blocksN_succ first8 (padded l) m)
              go_wp2_with fail
              refine (hcon _ _ _).out.mono ?_
              rintro e w7 ⟨v7, rfl, hown7, hb7⟩
              have hrow7 := hrow.on hb7
              have hr7 := hr4.on hb7
              have hrk7 := hrk.on hb7
              have hown7 := own_base (own_len hown7 (St.list_len _)) hsz
              rw [← HB.out] at hown7
              go_wp2_with fail
              go_roundg (gk - 1)
              case measure => have := HM.out; omega
              case rel => exact ⟨m + 1, by have := HM.out; show _ = _; omega, by omega, by go_num, hown7, hr7, hrk7, hrow7, Nat.le_trans hsz hb7.size, hbel.trans (hb7.mono hbel.size)⟩
            · have hme : 64 * m = q + k := by omega
              have HME := Lib.hid hme
              clear hme
              go_wp2_with (first
                | (with_reducible refine wpList_alloc_row (o := ⟨some 9, _, _, _, _, _⟩) rfl _ rfl zeros32 zero_b32 ?_; intro w7 hrow7 hs7 hg7)
                | (with_reducible refine wpList_store_all (o := ⟨none, _, _, _, _, _⟩) rfl _ _ _ rfl wr.heap.size rfl _ _ hrow7 zeros32 rfl zeros32_one rfl (by kernel_rfl) ?_; intro w8 hrow8 hg8))
              have hbel8 : Below w.heap.size w w8 := below_kept (below_kept hbel hg7 hbel.size (by simp)) hg8 (by have := hbel.size; omega) (by rintro k hk; cases hk; exact hbel.size)
              have hrv8 := ((hrv.kept hg7 (Nat.le_refl _) (by simp)).kept hg8 (by omega) (by rintro k hk; cases hk; exact Nat.le_refl _))
              have hrow0 := (hrow.kept hg7 (by simp)).kept hg8 (by have := hrow.lt; simp; omega)
              have HSH : Hid (sha l = (blocksN first8 (padded l) m).bytes) := by
                show _ = _
                have := HPL.out
                have := HME.out
                unfold sha
                rw [show (padded l).length / 64 = m by omega]
              have hsw := hrow.lt
              clear hrow7 hg7 hg8 hown hrv hrow hbel hr4 hrk
              generalize blocksN first8 (padded l) m = S at *
              obtain ⟨av, rfl, havb, hcell⟩ := hrv8.2 (by omega)
              have HVC := Lib.hid hcell
              clear hcell
              obtain ⟨wq, rfl⟩ : ∃ wq : World, wq = wr := ⟨_, rfl⟩
              obtain ⟨g2, rfl⟩ : ∃ g2 : Nat, g2 = gk := ⟨_, rfl⟩
              go_loopg [10] 32 (fun g s10 wr => ∃ i : Nat, Hid (i + g = 32) ∧ i ≤ 32 ∧ s10 = .int .i64 (i : Int) ∧ Row wr wq.heap.size 106 (bvs (S.bytes.take i) ++ List.replicate (32 - i) (.int .u8 0)) ∧ Row wr w.heap.size 106 zeros32 ∧ Below wq.heap.size w8 wr)
              case atStart => exact ⟨0, rfl, by omega, rfl, hrow8, hrow0, Below.refl _ _⟩
              case round =>
                obtain ⟨i, HI, hi, rfl, hrow, hrow0, hbel⟩ := hrel
                by_cases hlt : i < 32
                · have hcr : wr.cell? (av.add (i / 4)) = some (wv (S.list.getD (i / 4) 0)) := by
                    have hl : i / 4 < S.list.length := by rw [St.list_len]; omega
                    rw [hbel.cell (by rw [block_of_add]; exact havb)]
                    exact HVC.out _ _ (by unfold wvs; rw [List.getElem?_map, List.getElem?_eq_getElem hl, List.getD, List.getElem?_eq_getElem hl]; rfl)
                  have HT : Hid (S.bytes.take (i + 1) = S.bytes.take i ++ [UInt8.ofNat ((S.list.getD (i / 4) 0).toNat / 2 ^ (24 - 8 * (i % 4)))]) := by
                    show _ = _
                    rw [bytes_range, List.take_add_one, List.getElem?_map, List.getElem?_range hlt]
                    rfl
                  have HLT : Hid ((bvs (S.bytes.take i)).length = i) := by show _ = _; rw [bvs_length, List.length_take, bytes_len]; omega
                  generalize S.list.getD (i / 4) 0 = x at *
                  unfold wv at hcr
                  go_wp2_with (refine wpList_store_elem (o := ⟨none, _, _, _, _, _⟩) rfl _ _ _ rfl wq.heap.size i rfl _ _ hrow (.int .u8 (wi x / 2 ^ (24 - 8 * (i % 4)) % 256)) rfl rfl (by rw [List.length_append, HLT.out, List.length_replicate]; omega) (by kernel_rfl) ?_; intro w9 hrow9 hg9)
                  have hrow0' := hrow0.kept hg9 (by simp; omega)
                  have hb9 := below_kept hbel hg9 (Nat.le_of_lt hrow.lt) (by rintro k hk; cases hk; exact Nat.le_refl _)
                  rw [byte_val] at hrow9
                  have HR : Hid (Row w9 wq.heap.size 106 (bvs (S.bytes.take (i + 1)) ++ List.replicate (32 - (i + 1)) (.int .u8 0))) := by
                    show Row _ _ _ _
                    have e := set_fill (bvs (S.bytes.take i)) (.int .u8 0) (bv (UInt8.ofNat (x.toNat / 2 ^ (24 - 8 * (i % 4))))) (32 - i) (by omega)
                    rw [HLT.out] at e
                    rw [HT.out, bvs_append, show 32 - (i + 1) = 32 - i - 1 by omega]
                    exact e ▸ hrow9
                  clear hrow9 hg9
                  go_roundg (gk - 1)
                  case measure => have := HI.out; omega
                  case rel => exact ⟨i + 1, by have := HI.out; show _ = _; omega, by omega, by go_num, HR.out, hrow0', hb9⟩
                · have HI32 : Hid (i = 32) := by show _ = _; omega
                  have HSL := Lib.hid (bytes_len S)
                  rw [HI32.out, List.take_of_length_le (by rw [HSL.out]; exact Nat.le_refl _), Nat.sub_self, List.replicate_zero, List.append_nil] at hrow
                  have HSH := HSH
                  generalize S.bytes = bs at *
                  have hsz8 : wq.heap.size ≤ wr.heap.size := Nat.le_of_lt hrow.lt
                  go_wp2_with (first
                    | (with_reducible refine wpList_load_all (o := ⟨some 73, _, _, _, _, _⟩) rfl _ _ rfl wq.heap.size rfl _ _ hrow _ Tryd.underlying106 rfl (b32_size bs HSL.out) ?_)
                    | (with_reducible refine wpList_store_all (o := ⟨none, _, _, _, _, _⟩) rfl _ _ _ rfl w.heap.size rfl _ _ hrow0 _ rfl (bvs_one _) (b32_zeros bs HSL.out) (b32_size bs HSL.out) ?_; intro w9 hrow9 hg9))
                  have hload := run_loadVar_at (P := Tryd.prog) w9 106 ⟨w.heap.size, 0, none⟩ (bvs bs) hrow9.cells _ Tryd.underlying106 rfl (b32_size bs HSL.out)
                  exact bodyPost_ret (results_cell1 Tryd.results53 _ _ _ _ rfl hload) rfl ⟨by rw [HSH.out], below_kept (hbel8.trans (hbel.mono (by omega))) hg9 (Nat.le_trans hbel8.size hbel.size) (by rintro k hk; cases hk; exact Nat.le_refl _)⟩
end Go.Proofs.YtfclifolniefpaaDoor
