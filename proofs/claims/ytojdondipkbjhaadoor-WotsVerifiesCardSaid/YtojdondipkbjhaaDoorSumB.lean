/-
  What (sha.state).bytes and sha.Sum return: contracts by walks. Conditions: the table of constants as laid; at most 10^9 bytes.
-/
import Derived.Test.YtojdondipkbjhaaDoorSum
namespace Go.Proofs.YtojdondipkbjhaaDoor
open Go.RowKit

theorem size_u32 : ∀ w, (sizeOf 62).run Tryd.prog w = .ok 1 w := fun _ => by kernel_rfl
theorem size_u8b : ∀ w, (sizeOf 5).run Tryd.prog w = .ok 1 w := fun _ => by kernel_rfl
def word4K (s : St) (i : Nat) : List UInt8 := (s.list.take i).flatMap word4
theorem word4K_succ (s : St) (i : Nat) (h : i < 8) : word4K s (i + 1) = word4K s i ++ word4 (s.list.getD i 0) := by
  unfold word4K
  have hl : i < s.list.length := h
  rw [List.take_add_one, List.getElem?_eq_getElem hl, List.flatMap_append, List.getD, List.getElem?_eq_getElem hl]
  simp
theorem word4K_len (s : St) : ∀ i, i ≤ 8 → (word4K s i).length = 4 * i
  | 0, _ => rfl
  | i + 1, h => by rw [word4K_succ s i (by omega), List.length_append, word4K_len s i (by omega)]; simp [word4]; omega
theorem word4K_8 (s : St) : word4K s 8 = s.bytes := by
  unfold word4K St.bytes
  rw [List.take_of_length_le (by rw [St.list_len]; exact Nat.le_refl _)]

theorem set4_fill (l : List Value) (z a b c d : Value) (n : Nat) (hn : 4 ≤ n) :
    ((((l ++ List.replicate n z).set l.length a).set (l.length + 1) b).set (l.length + 2) c).set (l.length + 3) d = l ++ [a, b, c, d] ++ List.replicate (n - 4) z := by
  rw [set_fill l z a n (by omega)]
  have e1 := set_fill (l ++ [a]) z b (n - 1) (by omega)
  rw [List.length_append, List.length_singleton] at e1
  rw [e1]
  have e2 := set_fill (l ++ [a] ++ [b]) z c (n - 1 - 1) (by omega)
  rw [List.length_append, List.length_append, List.length_singleton, List.length_singleton] at e2
  rw [show l.length + 2 = l.length + 1 + 1 from rfl, e2]
  have e3 := set_fill (l ++ [a] ++ [b] ++ [c]) z d (n - 1 - 1 - 1) (by omega)
  rw [List.length_append, List.length_append, List.length_append, List.length_singleton, List.length_singleton, List.length_singleton] at e3
  rw [show l.length + 3 = l.length + 1 + 1 + 1 from rfl, e3, show n - 1 - 1 - 1 - 1 = n - 4 by omega]
  simp
theorem byte_val0 (x : UInt32) (m : Int) (n : Nat) (h : m = (n : Int)) : Value.int IntKind.u8 (wi x / m % 256) = bv (UInt8.ofNat (x.toNat / n)) := by
  subst h
  unfold bv wi
  rw [UInt8.toNat_ofNat']
  congr 1
theorem word4_vals (x : UInt32) : bvs (word4 x) = [.int .u8 (wi x / 16777216 % 256), .int .u8 (wi x / 65536 % 256), .int .u8 (wi x / 256 % 256), .int .u8 (wi x % 256)] := by
  rw [byte_val0 x 16777216 16777216 rfl, byte_val0 x 65536 65536 rfl, byte_val0 x 256 256 rfl]
  have e := byte_val0 x 1 1 rfl
  rw [Int.ediv_one, Nat.div_one] at e
  rw [e]
  rfl

set_option maxRecDepth 100000 in
set_option maxHeartbeats 2000000 in
theorem bytesOf_any (s : St) (w : World) : Calls Tryd.prog 46 #[.agg (wvs s.list).toArray] w (GivesV (.agg (bvs s.bytes).toArray) w) := by
  go_enter Tryd.func46, Tryd.ntmps46
  go_wp2_with (first
    | (with_reducible refine wpList_box_row (o := ⟨some 1, _, _, _, _, _⟩) rfl _ _ rfl (wvs s.list) rfl ?_; intro w1 hrow1 hs1 hg1)
    | (with_reducible refine wpList_alloc_row (o := ⟨some 2, _, _, _, _, _⟩) rfl _ rfl zeros32 zero_b32 ?_; intro w2 hrow2 hs2 hg2)
    | (with_reducible refine wpList_alloc_row (o := ⟨some 3, _, _, _, _, _⟩) rfl _ rfl zeros32 zero_b32 ?_; intro w3 hrow3 hs3 hg3; have hrow1' := (hrow1.kept hg2 (by simp)).kept hg3 (by simp))
    | (with_reducible refine wpList_load_all (o := ⟨some 7, _, _, _, _, _⟩) rfl _ _ rfl w.heap.size rfl _ _ hrow1' _ Tryd.underlying64 rfl (w8_wvs s) ?_))
  have hbel3 : Below w.heap.size w w3 := below_kept (below_kept (grown_below hg1 (Nat.le_refl _) (by simp)) hg2 (by omega) (by simp)) hg3 (by omega) (by simp)
  have hrow2' := hrow2.kept hg3 (by simp)
  have hs33 := hrow3.lt
  clear hrow1 hrow1' hrow2 hg1 hg2 hg3
  go_loopg [4, 5, 6, 8] 8 (fun g s4 s5 s6 s8 wr => ∃ i : Nat, Hid (i + g = 8) ∧ i ≤ 8 ∧ s8 = .int .i64 (i : Int) ∧ Row wr w2.heap.size 56 (bvs (word4K s i) ++ List.replicate (32 - 4 * i) (.int .u8 0)) ∧ Row wr w1.heap.size 56 zeros32 ∧ Below w.heap.size w wr)
  case atStart => exact ⟨0, rfl, by omega, rfl, hrow3, hrow2', hbel3⟩
  case round =>
    obtain ⟨i, HI, hi, rfl, hrow, hrow0, hbel⟩ := hrel
    by_cases hlt : i < 8
    · have hsi : (wvs s.list)[i]? = some (wv (s.list.getD i 0)) := by
        have hl : i < s.list.length := hlt
        unfold wvs; rw [List.getElem?_map, List.getElem?_eq_getElem hl, List.getD, List.getElem?_eq_getElem hl]; rfl
      have HS := Lib.hid hsi
      have HW := Lib.hid (word4K_succ s i hlt)
      have HLT := Lib.hid (word4K_len s i (by omega))
      clear hsi
      generalize s.list.getD i 0 = x at *
      unfold wv at HS
      have hl0 : (bvs (word4K s i) ++ List.replicate (32 - 4 * i) (Value.int .u8 0)).length = 32 := by rw [List.length_append, bvs_length, HLT.out, List.length_replicate]; omega
      have HL0 := Lib.hid hl0
      clear hl0
      go_wp2_with (first
        | (with_reducible refine wpList_at ⟨some 11, _, _, _, _, _⟩ ?_; refine wpList_index_agg rfl _ _ _ rfl 62 8 .u32 Tryd.underlying64 Tryd.underlying62 size_u32 (wvs s.list) rfl .i64 i rfl hlt (.int .u32 (wi x)) HS.out ?_)
        | (with_reducible refine wpList_at ⟨none, .store 5 (.tmp 32) (.tmp 23), _, _, _, _⟩ ?_; refine wpList_store_elem rfl _ _ _ rfl w2.heap.size (4 * i) rfl _ _ hrow (.int .u8 (wi x / 16777216 % 256)) rfl rfl (by rw [HL0.out]; omega) (by kernel_rfl) ?_; intro w4 hrow4 hg4; clear hrow)
        | (with_reducible refine wpList_at ⟨none, .store 5 (.tmp 33) (.tmp 26), _, _, _, _⟩ ?_; refine wpList_store_elem rfl _ _ _ rfl w2.heap.size (4 * i + 1) rfl _ _ hrow4 (.int .u8 (wi x / 65536 % 256)) rfl rfl (by rw [List.length_set, HL0.out]; omega) (by kernel_rfl) ?_; intro w5 hrow5 hg5; clear hrow4)
        | (with_reducible refine wpList_at ⟨none, .store 5 (.tmp 34) (.tmp 29), _, _, _, _⟩ ?_; refine wpList_store_elem rfl _ _ _ rfl w2.heap.size (4 * i + 2) rfl _ _ hrow5 (.int .u8 (wi x / 256 % 256)) rfl rfl (by rw [List.length_set, List.length_set, HL0.out]; omega) (by kernel_rfl) ?_; intro w6 hrow6 hg6; clear hrow5)
        | (with_reducible refine wpList_at ⟨none, .store 5 (.tmp 35) (.tmp 31), _, _, _, _⟩ ?_; refine wpList_store_elem rfl _ _ _ rfl w2.heap.size (4 * i + 3) rfl _ _ hrow6 (.int .u8 (wi x % 256)) rfl rfl (by rw [List.length_set, List.length_set, List.length_set, HL0.out]; omega) (by kernel_rfl) ?_; intro w7 hrow7 hg7; clear hrow6))
      have hrow0' := (((hrow0.kept hg4 (by simp; omega)).kept hg5 (by simp; omega)).kept hg6 (by simp; omega)).kept hg7 (by simp; omega)
      have hz := hbel.size
      have k4 : ∀ k, some w2.heap.size = some k → w.heap.size ≤ k := by rintro k hk; cases hk; omega
      have hb7 := below_kept (below_kept (below_kept (below_kept hbel hg4 hz k4) hg5 (by have := hg4.size; omega) k4) hg6 (by have := hg4.size; have := hg5.size; omega) k4) hg7 (by have := hg4.size; have := hg5.size; have := hg6.size; omega) k4
      have HR : Hid (Row w7 w2.heap.size 56 (bvs (word4K s (i + 1)) ++ List.replicate (32 - 4 * (i + 1)) (.int .u8 0))) := by
        show Row _ _ _ _
        have e := set4_fill (bvs (word4K s i)) (.int .u8 0) (.int .u8 (wi x / 16777216 % 256)) (.int .u8 (wi x / 65536 % 256)) (.int .u8 (wi x / 256 % 256)) (.int .u8 (wi x % 256)) (32 - 4 * i) (by omega)
        rw [bvs_length, HLT.out] at e
        rw [e] at hrow7
        rw [HW.out, bvs_append, show 32 - 4 * (i + 1) = 32 - 4 * i - 4 by omega, word4_vals]
        exact hrow7
      clear hrow7 hg4 hg5 hg6 hg7
      go_roundg (gk - 1)
      case measure => have := HI.out; omega
      case rel => exact ⟨i + 1, by have := HI.out; show _ = _; omega, by omega, by go_num, HR.out, hrow0', hb7⟩
    · have HI8 : Hid (i = 8) := by show _ = _; omega
      have HSL := Lib.hid (bytes_len s)
      rw [HI8.out, word4K_8, Nat.sub_self, List.replicate_zero, List.append_nil] at hrow
      generalize s.bytes = bs at *
      go_wp2_with (first
        | (with_reducible refine wpList_load_all (o := ⟨some 37, _, _, _, _, _⟩) rfl _ _ rfl w2.heap.size rfl _ _ hrow _ Tryd.underlying56 rfl (b32_size bs HSL.out) ?_)
        | (with_reducible refine wpList_store_all (o := ⟨none, _, _, _, _, _⟩) rfl _ _ _ rfl w1.heap.size rfl _ _ hrow0 _ rfl (bvs_one _) (b32_zeros bs HSL.out) (b32_size bs HSL.out) ?_; intro w9 hrow9 hg9))
      have hload := run_loadVar_at (P := Tryd.prog) w9 56 ⟨w1.heap.size, 0, none⟩ (bvs bs) hrow9.cells _ Tryd.underlying56 rfl (b32_size bs HSL.out)
      exact bodyPost_ret (results_cell1 Tryd.results46 _ _ _ _ rfl hload) rfl ⟨rfl, below_kept hbel hg9 hbel.size (by rintro k hk; cases hk; omega)⟩
end Go.Proofs.YtojdondipkbjhaaDoor
