/-
  What sha.keyBlock and sha.masked return: contracts by walks. Conditions: those of sha.Sum.
-/
import Derived.Test.YtojdondipkbjhaaDoorKey
namespace Go.Proofs.YtojdondipkbjhaaDoor
open Go.RowKit

def zeros64b : List Value := List.replicate 64 (.int .u8 0)
theorem zero_b64 : (Tryd.prog.info? 80).map (fun i => i.zero.map (·.cells)) = some (some zeros64b.toArray) := by kernel_rfl
theorem b64_size (l : List UInt8) (h : l.length = 64) : (Tryd.prog.info? 80).map (·.size) = some (bvs l).length := by rw [bvs_length, h]; kernel_rfl
theorem b64_zeros (l : List UInt8) (h : l.length = 64) : zeros64b.length = (bvs l).length := by rw [bvs_length, h]; rfl
theorem splice_head (key : List UInt8) (_h : key.length ≤ 64) : splice zeros64b 0 (bvs key) = bvs (key ++ List.replicate (64 - key.length) 0) := by
  unfold splice zeros64b
  rw [List.take_zero, List.nil_append, Nat.zero_add, bvs_length, List.drop_replicate, bvs_append]
  congr 1
  unfold bvs
  rw [List.map_replicate]
  rfl

set_option maxRecDepth 100000 in
set_option maxHeartbeats 2000000 in
theorem keyBlock_any (A : Option Addr) (c : Nat) (key : List UInt8) (n : Nat) (w : World) (hk : Consts w) (hr : Reads w w.heap.size 1 A n (bvs key)) (hc : n ≤ c) (hn : n ≤ 1000000000) :
    Calls Tryd.prog 61 #[.slice A n c] w (GivesV (.agg (bvs (key64 key)).toArray) w) := by
  have HL := Lib.hid hr.bytes_len
  by_cases h64 : 64 < n
  · have HS := Lib.hid (sha_len key)
    have HK : Hid (key64 key = sha key ++ List.replicate (64 - (sha key).length) 0) := by show _ = _; unfold key64 keyOf; rw [if_pos (by rw [HL.out]; exact h64)]
    have HK64 := Lib.hid (key64_len key)
    have hsum := fun W (hkW : Consts W) hrW => Lib.hid (sum_any A c key n W hkW hrW hc hn)
    generalize sha key = sk at *
    go_enter Tryd.func61, Tryd.ntmps61
    go_wp2_with (with_reducible refine wpList_alloc_row (o := ⟨some 2, _, _, _, _, _⟩) rfl _ rfl zeros64b zero_b64 ?_; intro w1 hrow1 hs1 hg1)
    have hb1 : Below w.heap.size w w1 := grown_below hg1 (Nat.le_refl _) (by simp)
    refine (hsum w1 (hk.on hb1) ((hr.below hb1).more hb1.size)).out.mono ?_
    rintro e w2 ⟨rfl, hb2⟩
    go_wp2_with (first
      | (with_reducible refine wpList_alloc_row (o := ⟨some 3, _, _, _, _, _⟩) rfl _ rfl zeros32 zero_b32 ?_; intro w3 hrow3 hs3 hg3)
      | (with_reducible refine wpList_at ⟨none, .store 56 _ _, _, _, _, _⟩ ?_; refine wpList_store_all rfl _ _ _ rfl w2.heap.size rfl _ _ hrow3 (bvs sk) rfl (bvs_one _) (b32_zeros _ HS.out) (b32_size _ HS.out) ?_; intro w4 hrow4 hg4)
      | (with_reducible refine wpList_alloc_row (o := ⟨some 4, _, _, _, _, _⟩) rfl _ rfl zeros64b zero_b64 ?_; intro w5 hrow5 hs5 hg5
         have hcell5 := Lib.hid (hrow4.kept hg5 (by simp)).cells
         have hb45 : Below w1.heap.size w1 w5 := below_kept (below_kept (below_kept hb2 hg3 hb2.size (by simp)) hg4 (by have := hb2.size; omega) (by rintro k hk; cases hk; exact hb2.size)) hg5 (by have := hb2.size; have := hg4.size; omega) (by simp)
         have hrow1' := hrow1.on hb45
         have hg5l := hg4.size)
      | (with_reducible refine wpList_at ⟨some 13, _, _, _, _, _⟩ ?_
         refine wpList_copy_splice rfl _ _ _ _ rfl 5 Tryd.underlying41 (by kernel_rfl) _ _ _ _ _ _ rfl rfl w4.heap.size 0 zeros64b 80 hrow5 (bvs sk) (by rw [bvs_length, HS.out]; rfl) (fun _ => ⟨rfl, _, rfl, hcell5.out⟩) (by rw [bvs_length, HS.out]; decide) (bvs_one _) w4.heap.size w5 (Below.refl _ _) (Nat.le_refl _) ?_
         intro w6 hrow6 hb6
         have hrow6' : Row w6 w4.heap.size 80 (bvs (key64 key)) := by rw [HK.out, ← splice_head sk (by rw [HS.out]; decide)]; exact hrow6.out
         have hrow1'' := hrow1'.below hb6 (by have := hb2.size; omega)
         clear hrow6)
      | (with_reducible refine wpList_load_all (o := ⟨some 14, _, _, _, _, _⟩) rfl _ _ rfl w4.heap.size rfl _ _ hrow6' _ Tryd.underlying80 rfl (b64_size _ HK64.out) ?_)
      | (with_reducible refine wpList_at ⟨none, .store 80 _ _, _, _, _, _⟩ ?_; refine wpList_store_all rfl _ _ _ rfl w.heap.size rfl _ _ hrow1'' _ rfl (bvs_one _) (b64_zeros _ HK64.out) (b64_size _ HK64.out) ?_; intro w9 hrow9 hg9))
    have hload := run_loadVar_at (P := Tryd.prog) w9 80 ⟨w.heap.size, 0, none⟩ (bvs (key64 key)) hrow9.cells _ Tryd.underlying80 rfl (b64_size _ HK64.out)
    exact bodyPost_ret (results_cell1 Tryd.results61 _ _ _ _ rfl hload) rfl ⟨rfl, below_kept ((hb1.trans (hb45.mono hb1.size)).trans (hb6.mono (by have := hb2.size; omega))) hg9 (Nat.le_trans (hb1.trans (hb45.mono hb1.size)).size hb6.size) (by rintro k hk; cases hk; exact Nat.le_refl _)⟩
  · have HK : Hid (key64 key = key ++ List.replicate (64 - key.length) 0) := by show _ = _; unfold key64 keyOf; rw [if_neg (by rw [HL.out]; exact h64)]
    have HK64 := Lib.hid (key64_len key)
    have hn64 : n ≤ 64 := by omega
    have hkl : key.length ≤ 64 := by rw [HL.out]; exact hn64
    go_enter Tryd.func61, Tryd.ntmps61
    go_wp2_with (first
      | (with_reducible refine wpList_alloc_row (o := ⟨some 2, _, _, _, _, _⟩) rfl _ rfl zeros64b zero_b64 ?_; intro w1 hrow1 hs1 hg1)
      | (with_reducible refine wpList_alloc_row (o := ⟨some 4, _, _, _, _, _⟩) rfl _ rfl zeros64b zero_b64 ?_; intro w5 hrow5 hs5 hg5
         have hrow1' := hrow1.kept hg5 (by simp)
         have hb5 : Below w.heap.size w w5 := below_kept (grown_below hg1 (Nat.le_refl _) (by simp)) hg5 (by omega) (by simp)
         have hrd5 := (hr.below hb5).more (B' := w5.heap.size) hb5.size)
      | (with_reducible refine wpList_at ⟨some 13, _, _, _, _, _⟩ ?_
         refine wpList_copy_splice rfl _ _ _ _ rfl 5 Tryd.underlying41 (by kernel_rfl) _ _ _ _ _ _ rfl rfl w1.heap.size 0 zeros64b 80 hrow5 (bvs key) (by rw [bvs_length, HL.out]; exact (Nat.min_eq_left hn64).symm) (fun hp => ⟨rfl, by
            obtain ⟨ad, h1, _, h2⟩ := hrd5.2 (by rw [bvs_length, HL.out] at hp; exact hp)
            exact ⟨ad, h1, h2⟩⟩) (by rw [bvs_length, Nat.zero_add]; exact hkl) (bvs_one _) w1.heap.size w5 (Below.refl _ _) (Nat.le_refl _) ?_
         intro w6 hrow6 hb6
         have hrow6' : Row w6 w1.heap.size 80 (bvs (key64 key)) := by rw [HK.out, ← splice_head key hkl]; exact hrow6.out
         have hrow1'' := hrow1'.below hb6 (by omega)
         clear hrow6)
      | (with_reducible refine wpList_load_all (o := ⟨some 14, _, _, _, _, _⟩) rfl _ _ rfl w1.heap.size rfl _ _ hrow6' _ Tryd.underlying80 rfl (b64_size _ HK64.out) ?_)
      | (with_reducible refine wpList_at ⟨none, .store 80 _ _, _, _, _, _⟩ ?_; refine wpList_store_all rfl _ _ _ rfl w.heap.size rfl _ _ hrow1'' _ rfl (bvs_one _) (b64_zeros _ HK64.out) (b64_size _ HK64.out) ?_; intro w9 hrow9 hg9))
    have hload := run_loadVar_at (P := Tryd.prog) w9 80 ⟨w.heap.size, 0, none⟩ (bvs (key64 key)) hrow9.cells _ Tryd.underlying80 rfl (b64_size _ HK64.out)
    exact bodyPost_ret (results_cell1 Tryd.results61 _ _ _ _ rfl hload) rfl ⟨rfl, below_kept (hb5.trans (hb6.mono (by omega))) hg9 (Nat.le_trans hb5.size hb6.size) (by rintro k hk; cases hk; exact Nat.le_refl _)⟩

theorem u8_mask (x m : UInt8) : bits .xor .u8 (x.toNat : Int) (m.toNat : Int) = ((x ^^^ m).toNat : Int) := by
  rw [u8_xor_nat _ _ x.toNat_lt m.toNat_lt, UInt8.toNat_xor]
theorem maskB_len (m : UInt8) (l : List UInt8) : (maskB m l).length = l.length := List.length_map _

set_option maxRecDepth 100000 in
set_option maxHeartbeats 2000000 in
theorem masked_any (k : List UInt8) (hk64 : k.length = 64) (m : UInt8) (mi : Int) (hm : mi = (m.toNat : Int)) (w : World) :
    Calls Tryd.prog 63 #[.agg (bvs k).toArray, .int .u8 mi] w (Gives (maskB m k) w) := by
  have HM := Lib.hid hm
  clear hm
  have HL := Lib.hid hk64
  clear hk64
  go_enter Tryd.func63, Tryd.ntmps63
  go_wp2_with (first
    | (with_reducible refine wpList_box_row (o := ⟨some 2, _, _, _, _, _⟩) rfl _ _ rfl (bvs k) rfl ?_; intro w1 hrow1 hs1 hg1)
    | (with_reducible refine wpList_make_row (o := ⟨some 8, _, _, _, _, _⟩) rfl _ _ _ rfl 5 Tryd.underlying41 (.int .u8 0) rfl 1 info_u8 .i64 .i64 64 64 rfl rfl (by omega) (by omega) (by omega) ?_; intro w2 hrow2 hs2 hg2; have hrow1' := hrow1.kept hg2 (by simp))
    | (with_reducible refine wpList_load_all (o := ⟨some 9, _, _, _, _, _⟩) rfl _ _ rfl w.heap.size rfl _ _ hrow1' _ Tryd.underlying80 rfl (b64_size _ HL.out) ?_))
  have hb2 : Below w.heap.size w w2 := below_kept (grown_below hg1 (Nat.le_refl _) (by simp)) hg2 (by omega) (by simp)
  clear hrow1 hg1 hg2
  go_loopg [6, 7, 10] 64 (fun g s6 s7 s10 wr => ∃ i : Nat, Hid (i + g = 64) ∧ i ≤ 64 ∧ s10 = .int .i64 (i : Int) ∧ Row wr w1.heap.size 5 (bvs ((maskB m k).take i) ++ List.replicate (64 - i) (.int .u8 0)) ∧ Below w.heap.size w wr)
  case atStart => exact ⟨0, rfl, by omega, rfl, hrow2, hb2⟩
  case round =>
    obtain ⟨i, HI, hi, rfl, hrow, hbel⟩ := hrel
    by_cases hlt : i < 64
    · have hlk : i < k.length := by rw [HL.out]; exact hlt
      have HS : Hid ((bvs k)[i]? = some (.int .u8 (k[i].toNat : Int))) := by show _ = _; unfold bvs; rw [List.getElem?_map, List.getElem?_eq_getElem hlk]; rfl
      have HT : Hid ((maskB m k).take (i + 1) = (maskB m k).take i ++ [k[i] ^^^ m]) := by
        show _ = _
        rw [List.take_add_one]
        unfold maskB
        rw [List.getElem?_map, List.getElem?_eq_getElem hlk]
        rfl
      have HLT : Hid ((bvs ((maskB m k).take i)).length = i) := by show _ = _; rw [bvs_length, List.length_take, maskB_len]; omega
      generalize k[i] = x at *
      go_wp2_with (first
        | (with_reducible refine wpList_at ⟨some 13, _, _, _, _, _⟩ ?_; refine wpList_index_agg rfl _ _ _ rfl 5 64 .u8 Tryd.underlying80 Tryd.underlying5 size_u8b (bvs k) rfl .i64 i rfl hlt _ HS.out ?_)
        | (with_reducible refine wpList_at ⟨none, .store 5 _ _, _, _, _, _⟩ ?_; refine wpList_store_elem rfl _ _ _ rfl w1.heap.size i rfl _ _ hrow (.int .u8 (bits .xor .u8 (x.toNat : Int) mi)) rfl rfl (by rw [List.length_append, HLT.out, List.length_replicate]; omega) (by kernel_rfl) ?_; intro w9 hrow9 hg9))
      have HR : Hid (Row w9 w1.heap.size 5 (bvs ((maskB m k).take (i + 1)) ++ List.replicate (64 - (i + 1)) (.int .u8 0))) := by
        show Row _ _ _ _
        have e := set_fill (bvs ((maskB m k).take i)) (.int .u8 0) (.int .u8 (bits .xor .u8 (x.toNat : Int) mi)) (64 - i) (by omega)
        rw [HLT.out] at e
        rw [e, HM.out, u8_mask] at hrow9
        rw [HT.out, bvs_append, show 64 - (i + 1) = 64 - i - 1 by omega]
        exact hrow9
      have hb9 := below_kept hbel hg9 hbel.size (by rintro k hk; cases hk; omega)
      clear hrow9 hg9
      go_roundg (gk - 1)
      case measure => have := HI.out; omega
      case rel => exact ⟨i + 1, by have := HI.out; show _ = _; omega, by omega, by go_num, HR.out, hb9⟩
    · have HI64 : Hid (i = 64) := by show _ = _; omega
      have HLM : Hid ((maskB m k).length = 64) := by show _ = _; rw [maskB_len, HL.out]
      rw [HI64.out, Nat.sub_self, List.replicate_zero, List.append_nil, List.take_of_length_le (by rw [HLM.out]; exact Nat.le_refl _)] at hrow
      go_wp2_with fail
      go_ret
      refine ⟨_, rfl, ?_, hbel⟩
      exact own_len (hrow.owns_all (by omega) 64 (by rw [bvs_length, HLM.out]) (by unfold maxLen; omega)) HLM.out.symm
end Go.Proofs.YtojdondipkbjhaaDoor
