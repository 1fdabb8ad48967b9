/-
  What the reference's All and masked return: contracts by walks. Conditions: those of sha.Sum.
-/
import Derived.Test.YtdgflobdnkopbaaDoorHashM
import Derived.Test.YtdgflobdnkopbaaDoorBase
import Derived.Lib.AppendZeros
namespace Go.Proofs.YtdgflobdnkopbaaDoor
open Go.RowKit

set_option maxRecDepth 100000 in
set_option maxHeartbeats 1000000 in
theorem refAll_any (l : List UInt8) (hl : l.length = 32) (w : World) : Calls Tryd.prog 41 #[.agg (bvs l).toArray] w (Gives l w) := by
  obtain ⟨i0, hi0, hz0, hz1, hz2⟩ := info_parts info_u8
  have HL := Lib.hid hl
  clear hl
  go_enter Tryd.func41, Tryd.ntmps41
  go_wp2_with (with_reducible refine wpList_box_row (o := ⟨some 1, _, _, _, _, _⟩) rfl _ _ rfl (bvs l) rfl ?_; intro w1 hrow1 hs1 hg1)
  have hb1 : Below w.heap.size w w1 := grown_below hg1 (Nat.le_refl _) (by simp)
  clear hg1
  go_loopg [3, 4] 32 (fun g s3 s4 wr => ∃ k : Nat, Hid (k + g = 32) ∧ k ≤ 32 ∧ s4 = .int .i64 (k : Int) ∧ wr.ownsRow w1.heap.size 5 1 s3 k (bvs (l.take k)) ∧ Row wr w.heap.size 48 (bvs l) ∧ w1.heap.size ≤ wr.heap.size ∧ Below w.heap.size w wr)
  case atStart => exact ⟨0, rfl, by omega, rfl, World.ownsRow_nil _ _ _ _, hrow1, Nat.le_refl _, hb1⟩
  case round =>
    obtain ⟨k, HK, hk, rfl, hown, hrow, hsz, hbel⟩ := hrel
    by_cases hlt : k < 32
    · have hlk : k < l.length := by rw [HL.out]; exact hlt
      have hc := hrow.cell (j := k) (u := bv l[k]) (by unfold bvs; rw [List.getElem?_map, List.getElem?_eq_getElem hlk]; rfl)
      have HT : Hid (l.take (k + 1) = l.take k ++ [l[k]]) := by show _ = _; rw [List.take_add_one, List.getElem?_eq_getElem hlk]; rfl
      generalize l[k] = x at *
      unfold bv at hc
      go_wp2_with (at_builtin; refine wpList_append_src _ rfl (.tmp 9) (.tmp 13) _ _ rfl w1.heap.size 5 i0 _ 1 1 Tryd.underlying34 hi0 hz0 hz1 hz2 rfl _ _ _ rfl (hown.alloc _) 1 _ (Src.box Tryd.underlying34 _ _ _ rfl _) (by unfold maxLen; omega) (by omega) (by simp; omega) ?_; intro v3 w3 hown3 hb3)
      have hb13 : Below w1.heap.size wr w3 := ((Below.refl _ _).alloc hsz _).trans hb3
      go_roundg (gk - 1)
      case measure => have := HK.out; omega
      case rel =>
        refine ⟨k + 1, by have := HK.out; show _ = _; omega, by omega, by go_num, ?_, hrow.below hb13 (by omega), Nat.le_trans hsz hb13.size, hbel.trans (hb13.mono (by omega))⟩
        rw [HT.out, bvs_append]
        exact hown3
    · have HK32 : Hid (k = 32) := by show _ = _; omega
      go_wp2_with fail
      go_ret
      refine ⟨_, rfl, ?_, hbel⟩
      rw [HK32.out, List.take_of_length_le (by rw [HL.out]; exact Nat.le_refl _)] at hown
      exact own_base (own_len hown HL.out.symm) (by omega)

end Go.Proofs.YtdgflobdnkopbaaDoor

/-
  What sha.keyBlock and sha.masked return: contracts by walks. Conditions: those of sha.Sum.
-/
namespace Go.Proofs.YtdgflobdnkopbaaDoor
open Go.RowKit

def zeros64b : List Value := List.replicate 64 (.int .u8 0)
theorem zero_b64 : (Tryd.prog.info? 52).map (fun i => i.zero.map (·.cells)) = some (some zeros64b.toArray) := by kernel_rfl
theorem b64_size (l : List UInt8) (h : l.length = 64) : (Tryd.prog.info? 52).map (·.size) = some (bvs l).length := by rw [bvs_length, h]; kernel_rfl
theorem b64_zeros (l : List UInt8) (h : l.length = 64) : zeros64b.length = (bvs l).length := by rw [bvs_length, h]; rfl
theorem splice_head (key : List UInt8) (_h : key.length ≤ 64) : splice zeros64b 0 (bvs key) = bvs (key ++ List.replicate (64 - key.length) 0) := by
  unfold splice zeros64b
  rw [List.take_zero, List.nil_append, Nat.zero_add, bvs_length, List.drop_replicate, bvs_append]
  congr 1
  unfold bvs
  rw [List.map_replicate]
  rfl

set_option maxRecDepth 100000 in
set_option maxHeartbeats 2000000 in
theorem keyBlock_any (A : Option Addr) (c : Nat) (key : List UInt8) (n : Nat) (w : World) (hk : Consts w) (hr : Reads w w.heap.size 1 A n (bvs key)) (hc : n ≤ c) (hn : n ≤ 1000000000) :
    Calls Tryd.prog 33 #[.slice A n c] w (GivesV (.agg (bvs (key64 key)).toArray) w) := by
  have HL := Lib.hid hr.bytes_len
  by_cases h64 : 64 < n
  · have HS := Lib.hid (sha_len key)
    have HK : Hid (key64 key = sha key ++ List.replicate (64 - (sha key).length) 0) := by show _ = _; unfold key64 keyOf; rw [if_pos (by rw [HL.out]; exact h64)]
    have HK64 := Lib.hid (key64_len key)
    have hsum := fun W (hkW : Consts W) hrW => Lib.hid (sum_any A c key n W hkW hrW hc hn)
    generalize sha key = sk at *
    go_enter Tryd.func33, Tryd.ntmps33
    go_wp2_with (with_reducible refine wpList_alloc_row (o := ⟨some 2, _, _, _, _, _⟩) rfl _ rfl zeros64b zero_b64 ?_; intro w1 hrow1 hs1 hg1)
    have hb1 : Below w.heap.size w w1 := grown_below hg1 (Nat.le_refl _) (by simp)
    refine (hsum w1 (hk.on hb1) ((hr.below hb1).more hb1.size)).out.mono ?_
    rintro e w2 ⟨rfl, hb2⟩
    go_wp2_with (first
      | (with_reducible refine wpList_alloc_row (o := ⟨some 3, _, _, _, _, _⟩) rfl _ rfl zeros32 zero_b32 ?_; intro w3 hrow3 hs3 hg3)
      | (with_reducible refine wpList_at ⟨none, .store 48 _ _, _, _, _, _⟩ ?_; refine wpList_store_all rfl _ _ _ rfl w2.heap.size rfl _ _ hrow3 (bvs sk) rfl (bvs_one _) (b32_zeros _ HS.out) (b32_size _ HS.out) ?_; intro w4 hrow4 hg4)
      | (with_reducible refine wpList_alloc_row (o := ⟨some 4, _, _, _, _, _⟩) rfl _ rfl zeros64b zero_b64 ?_; intro w5 hrow5 hs5 hg5
         have hcell5 := Lib.hid (hrow4.kept hg5 (by simp)).cells
         have hb45 : Below w1.heap.size w1 w5 := below_kept (below_kept (below_kept hb2 hg3 hb2.size (by simp)) hg4 (by have := hb2.size; omega) (by rintro k hk; cases hk; exact hb2.size)) hg5 (by have := hb2.size; have := hg4.size; omega) (by simp)
         have hrow1' := hrow1.on hb45
         have hg5l := hg4.size)
      | (with_reducible refine wpList_at ⟨some 13, _, _, _, _, _⟩ ?_
         refine wpList_copy_splice rfl _ _ _ _ rfl 5 Tryd.underlying34 (by kernel_rfl) _ _ _ _ _ _ rfl rfl w4.heap.size 0 zeros64b 52 hrow5 (bvs sk) (by rw [bvs_length, HS.out]; rfl) (fun _ => ⟨rfl, _, rfl, hcell5.out⟩) (by rw [bvs_length, HS.out]; decide) (bvs_one _) w4.heap.size w5 (Below.refl _ _) (Nat.le_refl _) ?_
         intro w6 hrow6 hb6
         have hrow6' : Row w6 w4.heap.size 52 (bvs (key64 key)) := by rw [HK.out, ← splice_head sk (by rw [HS.out]; decide)]; exact hrow6.out
         have hrow1'' := hrow1'.below hb6 (by have := hb2.size; omega)
         clear hrow6)
      | (with_reducible refine wpList_load_all (o := ⟨some 14, _, _, _, _, _⟩) rfl _ _ rfl w4.heap.size rfl _ _ hrow6' _ Tryd.underlying52 rfl (b64_size _ HK64.out) ?_)
      | (with_reducible refine wpList_at ⟨none, .store 52 _ _, _, _, _, _⟩ ?_; refine wpList_store_all rfl _ _ _ rfl w.heap.size rfl _ _ hrow1'' _ rfl (bvs_one _) (b64_zeros _ HK64.out) (b64_size _ HK64.out) ?_; intro w9 hrow9 hg9))
    have hload := run_loadVar_at (P := Tryd.prog) w9 52 ⟨w.heap.size, 0, none⟩ (bvs (key64 key)) hrow9.cells _ Tryd.underlying52 rfl (b64_size _ HK64.out)
    exact bodyPost_ret (results_cell1 Tryd.results33 _ _ _ _ rfl hload) rfl ⟨rfl, below_kept ((hb1.trans (hb45.mono hb1.size)).trans (hb6.mono (by have := hb2.size; omega))) hg9 (Nat.le_trans (hb1.trans (hb45.mono hb1.size)).size hb6.size) (by rintro k hk; cases hk; exact Nat.le_refl _)⟩
  · have HK : Hid (key64 key = key ++ List.replicate (64 - key.length) 0) := by show _ = _; unfold key64 keyOf; rw [if_neg (by rw [HL.out]; exact h64)]
    have HK64 := Lib.hid (key64_len key)
    have hn64 : n ≤ 64 := by omega
    have hkl : key.length ≤ 64 := by rw [HL.out]; exact hn64
    go_enter Tryd.func33, Tryd.ntmps33
    go_wp2_with (first
      | (with_reducible refine wpList_alloc_row (o := ⟨some 2, _, _, _, _, _⟩) rfl _ rfl zeros64b zero_b64 ?_; intro w1 hrow1 hs1 hg1)
      | (with_reducible refine wpList_alloc_row (o := ⟨some 4, _, _, _, _, _⟩) rfl _ rfl zeros64b zero_b64 ?_; intro w5 hrow5 hs5 hg5
         have hrow1' := hrow1.kept hg5 (by simp)
         have hb5 : Below w.heap.size w w5 := below_kept (grown_below hg1 (Nat.le_refl _) (by simp)) hg5 (by omega) (by simp)
         have hrd5 := (hr.below hb5).more (B' := w5.heap.size) hb5.size)
      | (with_reducible refine wpList_at ⟨some 13, _, _, _, _, _⟩ ?_
         refine wpList_copy_splice rfl _ _ _ _ rfl 5 Tryd.underlying34 (by kernel_rfl) _ _ _ _ _ _ rfl rfl w1.heap.size 0 zeros64b 52 hrow5 (bvs key) (by rw [bvs_length, HL.out]; exact (Nat.min_eq_left hn64).symm) (fun hp => ⟨rfl, by
            obtain ⟨ad, h1, _, h2⟩ := hrd5.2 (by rw [bvs_length, HL.out] at hp; exact hp)
            exact ⟨ad, h1, h2⟩⟩) (by rw [bvs_length, Nat.zero_add]; exact hkl) (bvs_one _) w1.heap.size w5 (Below.refl _ _) (Nat.le_refl _) ?_
         intro w6 hrow6 hb6
         have hrow6' : Row w6 w1.heap.size 52 (bvs (key64 key)) := by rw [HK.out, ← splice_head key hkl]; exact hrow6.out
         have hrow1'' := hrow1'.below hb6 (by omega)
         clear hrow6)
      | (with_reducible refine wpList_load_all (o := ⟨some 14, _, _, _, _, _⟩) rfl _ _ rfl w1.heap.size rfl _ _ hrow6' _ Tryd.underlying52 rfl (b64_size _ HK64.out) ?_)
      | (with_reducible refine wpList_at ⟨none, .store 52 _ _, _, _, _, _⟩ ?_; refine wpList_store_all rfl _ _ _ rfl w.heap.size rfl _ _ hrow1'' _ rfl (bvs_one _) (b64_zeros _ HK64.out) (b64_size _ HK64.out) ?_; intro w9 hrow9 hg9))
    have hload := run_loadVar_at (P := Tryd.prog) w9 52 ⟨w.heap.size, 0, none⟩ (bvs (key64 key)) hrow9.cells _ Tryd.underlying52 rfl (b64_size _ HK64.out)
    exact bodyPost_ret (results_cell1 Tryd.results33 _ _ _ _ rfl hload) rfl ⟨rfl, below_kept (hb5.trans (hb6.mono (by omega))) hg9 (Nat.le_trans hb5.size hb6.size) (by rintro k hk; cases hk; exact Nat.le_refl _)⟩

theorem u8_mask (x m : UInt8) : bits .xor .u8 (x.toNat : Int) (m.toNat : Int) = ((x ^^^ m).toNat : Int) := by
  rw [u8_xor_nat _ _ x.toNat_lt m.toNat_lt, UInt8.toNat_xor]
theorem maskB_len (m : UInt8) (l : List UInt8) : (maskB m l).length = l.length := List.length_map _

set_option maxRecDepth 100000 in
set_option maxHeartbeats 2000000 in
theorem masked_any (k : List UInt8) (hk64 : k.length = 64) (m : UInt8) (mi : Int) (hm : mi = (m.toNat : Int)) (w : World) :
    Calls Tryd.prog 35 #[.agg (bvs k).toArray, .int .u8 mi] w (Gives (maskB m k) w) := by
  have HM := Lib.hid hm
  clear hm
  have HL := Lib.hid hk64
  clear hk64
  go_enter Tryd.func35, Tryd.ntmps35
  go_wp2_with (first
    | (with_reducible refine wpList_box_row (o := ⟨some 2, _, _, _, _, _⟩) rfl _ _ rfl (bvs k) rfl ?_; intro w1 hrow1 hs1 hg1)
    | (with_reducible refine wpList_make_row (o := ⟨some 8, _, _, _, _, _⟩) rfl _ _ _ rfl 5 Tryd.underlying34 (.int .u8 0) rfl 1 info_u8 .i64 .i64 64 64 rfl rfl (by omega) (by omega) (by omega) ?_; intro w2 hrow2 hs2 hg2; have hrow1' := hrow1.kept hg2 (by simp))
    | (with_reducible refine wpList_load_all (o := ⟨some 9, _, _, _, _, _⟩) rfl _ _ rfl w.heap.size rfl _ _ hrow1' _ Tryd.underlying52 rfl (b64_size _ HL.out) ?_))
  have hb2 : Below w.heap.size w w2 := below_kept (grown_below hg1 (Nat.le_refl _) (by simp)) hg2 (by omega) (by simp)
  clear hrow1 hg1 hg2
  go_loopg [6, 7, 10] 64 (fun g s6 s7 s10 wr => ∃ i : Nat, Hid (i + g = 64) ∧ i ≤ 64 ∧ s10 = .int .i64 (i : Int) ∧ Row wr w1.heap.size 5 (bvs ((maskB m k).take i) ++ List.replicate (64 - i) (.int .u8 0)) ∧ Below w.heap.size w wr)
  case atStart => exact ⟨0, rfl, by omega, rfl, hrow2, hb2⟩
  case round =>
    obtain ⟨i, HI, hi, rfl, hrow, hbel⟩ := hrel
    by_cases hlt : i < 64
    · have hlk : i < k.length := by rw [HL.out]; exact hlt
      have HS : Hid ((bvs k)[i]? = some (.int .u8 (k[i].toNat : Int))) := by show _ = _; unfold bvs; rw [List.getElem?_map, List.getElem?_eq_getElem hlk]; rfl
      have HT : Hid ((maskB m k).take (i + 1) = (maskB m k).take i ++ [k[i] ^^^ m]) := by
        show _ = _
        rw [List.take_add_one]
        unfold maskB
        rw [List.getElem?_map, List.getElem?_eq_getElem hlk]
        rfl
      have HLT : Hid ((bvs ((maskB m k).take i)).length = i) := by show _ = _; rw [bvs_length, List.length_take, maskB_len]; omega
      generalize k[i] = x at *
      go_wp2_with (first
        | (with_reducible refine wpList_at ⟨some 13, _, _, _, _, _⟩ ?_; refine wpList_index_agg rfl _ _ _ rfl 5 64 .u8 Tryd.underlying52 Tryd.underlying5 size_u8b (bvs k) rfl .i64 i rfl hlt _ HS.out ?_)
        | (with_reducible refine wpList_at ⟨none, .store 5 _ _, _, _, _, _⟩ ?_; refine wpList_store_elem rfl _ _ _ rfl w1.heap.size i rfl _ _ hrow (.int .u8 (bits .xor .u8 (x.toNat : Int) mi)) rfl rfl (by rw [List.length_append, HLT.out, List.length_replicate]; omega) (by kernel_rfl) ?_; intro w9 hrow9 hg9))
      have HR : Hid (Row w9 w1.heap.size 5 (bvs ((maskB m k).take (i + 1)) ++ List.replicate (64 - (i + 1)) (.int .u8 0))) := by
        show Row _ _ _ _
        have e := set_fill (bvs ((maskB m k).take i)) (.int .u8 0) (.int .u8 (bits .xor .u8 (x.toNat : Int) mi)) (64 - i) (by omega)
        rw [HLT.out] at e
        rw [e, HM.out, u8_mask] at hrow9
        rw [HT.out, bvs_append, show 64 - (i + 1) = 64 - i - 1 by omega]
        exact hrow9
      have hb9 := below_kept hbel hg9 hbel.size (by rintro k hk; cases hk; omega)
      clear hrow9 hg9
      go_roundg (gk - 1)
      case measure => have := HI.out; omega
      case rel => exact ⟨i + 1, by have := HI.out; show _ = _; omega, by omega, by go_num, HR.out, hb9⟩
    · have HI64 : Hid (i = 64) := by show _ = _; omega
      have HLM : Hid ((maskB m k).length = 64) := by show _ = _; rw [maskB_len, HL.out]
      rw [HI64.out, Nat.sub_self, List.replicate_zero, List.append_nil, List.take_of_length_le (by rw [HLM.out]; exact Nat.le_refl _)] at hrow
      go_wp2_with fail
      go_ret
      refine ⟨_, rfl, ?_, hbel⟩
      exact own_len (hrow.owns_all (by omega) 64 (by rw [bvs_length, HLM.out]) (by unfold maxLen; omega)) HLM.out.symm
end Go.Proofs.YtdgflobdnkopbaaDoor

/-
  What slices.Grow and slices.Concat at []byte return: contracts by walks. Conditions: bounded lengths.
-/
namespace Go.Proofs.YtdgflobdnkopbaaDoor
open Go.RowKit

set_option maxRecDepth 100000 in
set_option maxHeartbeats 1000000 in
theorem growNil_any (n : Nat) (hn : n ≤ 1000000000) (w : World) :
    Calls Tryd.prog 37 #[.slice none 0 0, .int .i64 (n : Int)] w fun e w' => ∃ v, e = .returned v ∧ w'.ownsRow w.heap.size 5 1 v 0 [] ∧ Below w.heap.size w w' := by
  obtain ⟨i0, hi0, hz0, hz1, hz2⟩ := info_parts info_u8
  by_cases h0 : 0 < n
  · have hrun := Lib.run_append_nil_zeros (P := Tryd.prog) w 34 3 34 5 i0 (.int .u8 0) .i64 .i64 Tryd.underlying34 Tryd.underlying3 hi0 hz0 n h0 (by rw [hz1]; omega) (by omega) (by rw [hz2]; omega)
    have HR := Lib.hid hrun
    clear hrun
    have hgc := grownCap_ge w n 0 5
    have hgm := grownCap_le_maxLen w n 0 5 (by unfold maxLen; omega)
    generalize grownCap w n 0 5 = gc at *
    have hown : (w.drew.alloc (.cells (Builtin.zeroCells (Value.int .u8 0).cells n ++ Builtin.zeroCells (Value.int .u8 0).cells (gc - n)) 5)).ownsRow w.heap.size 5 1 (.slice (some ⟨w.heap.size, 0, none⟩) 0 gc) 0 [] := by
      refine ⟨rfl, .inr ⟨w.heap.size, gc, _, rfl, Nat.le_refl _, Go.heap_alloc_new w.drew _, Nat.zero_le _, hgm, ?_, by simp⟩⟩
      simp [Builtin.zeroCells, Value.cells]
      omega
    have hbel : Below w.heap.size w (w.drew.alloc (.cells (Builtin.zeroCells (Value.int .u8 0).cells n ++ Builtin.zeroCells (Value.int .u8 0).cells (gc - n)) 5)) := ((Below.refl _ _).drew).alloc (Nat.le_refl _) _
    obtain ⟨wz, hwz⟩ : ∃ wz, wz = w.drew.alloc (.cells (Builtin.zeroCells (Value.int .u8 0).cells n ++ Builtin.zeroCells (Value.int .u8 0).cells (gc - n)) 5) := ⟨_, rfl⟩
    rw [← hwz] at hown hbel
    have HWZ := Lib.hid hwz
    clear hwz
    go_enter Tryd.func37, Tryd.ntmps37
    go_wp2_with (at_builtin; refine Lib.wpList_append_run _ rfl (.tmp 20) (.tmp 21) _ _ rfl _ _ rfl rfl _ wz (by rw [HWZ.out]; exact HR.out) ?_)
    go_ret
    exact ⟨_, rfl, hown, hbel⟩
  · obtain rfl : n = 0 := by omega
    go_enter Tryd.func37, Tryd.ntmps37
    go_wp2_with fail
    go_ret
    exact ⟨_, rfl, World.ownsRow_nil _ _ _ _, Below.refl _ _⟩

set_option maxRecDepth 100000 in
set_option maxHeartbeats 2000000 in
theorem concat_any (A : Option Addr) (c : Nat) (ps : List Part) (n : Nat) (w : World) (hr : ReadsP w w.heap.size A n ps) (hn : n ≤ 1000) (hp : ∀ p ∈ ps, p.n ≤ 100000) :
    Calls Tryd.prog 25 #[.slice A n c] w (Gives (allBytes ps) w) := by
  obtain ⟨i0, hi0, hz0, hz1, hz2⟩ := info_parts info_u8
  have HLN := Lib.hid hr.len
  have hbd : ∀ k, k ≤ n → (allBytes (ps.take k)).length ≤ 100000 * k := by
    intro k
    induction k with
    | zero => intro _; simp [allBytes]
    | succ k ih =>
      intro hk
      obtain ⟨ad, p, _, _, hpk, _, hrp, _⟩ := hr.at_ (k := k) (by omega)
      rw [allBytes_succ ps k p hpk, List.length_append]
      have h1 := ih (by omega)
      have h2 := hp p (List.mem_of_getElem? hpk)
      have h3 := hrp.bytes_len
      omega
  have HBD := Lib.hid hbd
  have HPN := Lib.hid hp
  clear hbd hp
  go_enter Tryd.func25, Tryd.ntmps25
  go_wp2_with fail
  go_loopg [3, 5, 11] n (fun g s3 s5 s11 wr => ∃ k : Nat, Hid (k + g = n) ∧ k ≤ n ∧ s11 = .int .i64 (k : Int) ∧ s3 = .int .i64 ((allBytes (ps.take k)).length : Int) ∧ w = wr)
  case atStart => exact ⟨0, by show _ = _; omega, by omega, rfl, rfl, rfl⟩
  case round =>
    obtain ⟨k, HK, hk, rfl, rfl, rfl⟩ := hrel
    have hb := HBD.out k hk
    by_cases hlt : k < n
    · obtain ⟨ad, p, rfl, _, hpk, hc, hrp, _⟩ := hr.at_ hlt
      have HP := Lib.hid (allBytes_succ ps k p hpk)
      have hpn := HPN.out p (List.mem_of_getElem? hpk)
      have HPL := Lib.hid hrp.bytes_len
      clear hpk
      obtain ⟨m, hm⟩ : ∃ m, m = (allBytes (ps.take k)).length := ⟨_, rfl⟩
      rw [← hm] at hb ⊢
      have HM := Lib.hid hm
      clear hm
      go_wp2_with fail
      go_roundg (gk - 1)
      case measure => have := HK.out; omega
      case rel => exact ⟨k + 1, by have := HK.out; show _ = _; omega, by omega, by go_num, by rw [HP.out, List.length_append, HPL.out, ← HM.out]; go_num, rfl⟩
    · have hkn : k = n := by omega
      have HALL : Hid (allBytes (ps.take n) = allBytes ps) := by show _ = _; rw [List.take_of_length_le (by rw [HLN.out]; exact Nat.le_refl _)]
      have hlen0 : (allBytes (ps.take k)).length = (allBytes ps).length := by rw [hkn, HALL.out]
      rw [hlen0] at hb ⊢
      have HKN := Lib.hid hkn
      have htot : (allBytes ps).length ≤ 100000000 := by omega
      clear hkn hlen0 hb HK
      obtain ⟨g0, rfl⟩ : ∃ g0 : Nat, g0 = gk := ⟨_, rfl⟩
      go_wp2_with fail
      refine (growNil_any _ (by omega) _).mono ?_
      rintro e w1 ⟨v1, rfl, hown1, hb1⟩
      have hr1 := hr.below hb1
      go_wp2_with fail
      go_loopg [6, 8, 27] n (fun g s6 s8 s27 wr => ∃ k : Nat, Hid (k + g = n) ∧ k ≤ n ∧ s27 = .int .i64 (k : Int) ∧ wr.ownsRow w.heap.size 5 1 s6 (allBytes (ps.take k)).length (bvs (allBytes (ps.take k))) ∧ Below w.heap.size w wr)
      case atStart => exact ⟨0, by show _ = _; omega, by omega, rfl, hown1, hb1⟩
      case round =>
        obtain ⟨k, HK, hk, rfl, hown, hbel⟩ := hrel
        have hb := HBD.out k hk
        by_cases hlt : k < n
        · obtain ⟨ad, p, rfl, _, hpk, hc, hrp, _⟩ := (hr.below hbel).at_ hlt
          have HP := Lib.hid (allBytes_succ ps k p hpk)
          have hpn := HPN.out p (List.mem_of_getElem? hpk)
          have HPL := Lib.hid hrp.bytes_len
          clear hpk
          go_wp2_with (at_builtin; refine wpList_append_src _ rfl (.tmp 31) (.tmp 32) _ _ rfl w.heap.size 5 i0 _ 1 1 Tryd.underlying34 hi0 hz0 hz1 hz2 rfl _ _ _ rfl hown p.n _ (Src.ofReads _ Tryd.underlying34 hrp (bvs_one _)) (by unfold maxLen; omega) (by omega) hbel.size ?_; intro v3 w3 hown3 hb3)
          go_roundg (gk - 1)
          case measure => have := HK.out; omega
          case rel =>
            refine ⟨k + 1, by have := HK.out; show _ = _; omega, by omega, by go_num, ?_, hbel.trans hb3⟩
            rw [HP.out, bvs_append, List.length_append, HPL.out]
            exact hown3
        · have HKN2 : Hid (k = n) := by show _ = _; omega
          go_wp2_with fail
          go_ret
          refine ⟨_, rfl, ?_, hbel⟩
          rw [HKN2.out, HALL.out] at hown
          exact hown
end Go.Proofs.YtdgflobdnkopbaaDoor

/-
  What sha.HMAC returns: a contract by a walk. Conditions: those of sha.Sum; at most 50,000 bytes.
-/
namespace Go.Proofs.YtdgflobdnkopbaaDoor
open Go.RowKit

set_option maxRecDepth 100000 in
set_option maxHeartbeats 4000000 in
theorem hmac_any (Ak Ab : Option Addr) (ck cb : Nat) (key b : List UInt8) (nk nb : Nat) (w : World) (hK2 : Consts w) (hrk : Reads w w.heap.size 1 Ak nk (bvs key)) (hck : nk ≤ ck) (hnk : nk ≤ 50000) (hrb : Reads w w.heap.size 1 Ab nb (bvs b)) (hcb : nb ≤ cb) (hnb : nb ≤ 50000) :
    Calls Tryd.prog 23 #[.slice Ak nk ck, .slice Ab nb cb] w (GivesV (.agg (bvs (hmac key b)).toArray) w) := by
  have HB := Lib.hid hrb.bytes_len
  have HK64 := Lib.hid (key64_len key)
  have HH : Hid (hmac key b = sha (maskB 92 (key64 key) ++ sha (maskB 54 (key64 key) ++ b))) := rfl
  have HHL := Lib.hid (hmac_len key b)
  have hkb := fun W (hKW : Consts W) hrW => Lib.hid (keyBlock_any Ak ck key nk W hKW hrW hck (by omega))
  generalize hmac key b = hm at *
  generalize key64 key = k64 at *
  go_enter Tryd.func23, Tryd.ntmps23
  go_wp2_with (with_reducible refine wpList_alloc_row (o := ⟨some 4, _, _, _, _, _⟩) rfl _ rfl zeros32 zero_b32 ?_; intro w1 hrow1 hs1 hg1)
  have hb1 : Below w.heap.size w w1 := grown_below hg1 (Nat.le_refl _) (by simp)
  clear hg1
  refine (hkb w1 (hK2.on hb1) (hrk.on hb1)).out.mono ?_
  rintro e w2 ⟨rfl, hb2⟩
  have hb2' := hb1.trans (hb2.mono hb1.size)
  have hrow2 := hrow1.on hb2
  go_wp2_with (first
    | (with_reducible refine wpList_alloc_row (o := ⟨some 5, _, _, _, _, _⟩) rfl _ rfl zeros64b zero_b64 ?_; intro w3 hrow3 hs3 hg3)
    | (with_reducible refine wpList_at ⟨none, .store 52 _ _, _, _, _, _⟩ ?_; refine wpList_store_all rfl _ _ _ rfl w2.heap.size rfl _ _ hrow3 (bvs k64) rfl (bvs_one _) (b64_zeros _ HK64.out) (b64_size _ HK64.out) ?_; intro w4 hrow4 hg4)
    | (with_reducible refine wpList_load_all (o := ⟨some 9, _, _, _, _, _⟩) rfl _ _ rfl w2.heap.size rfl _ _ hrow4 _ Tryd.underlying52 rfl (b64_size _ HK64.out) ?_))
  have hb4 : Below w.heap.size w w4 := below_kept (below_kept hb2' hg3 hb2'.size (by simp)) hg4 (by have := hb2'.size; omega) (by rintro k hk; cases hk; exact hb2'.size)
  have hrow4r := (hrow2.kept hg3 (by simp)).kept hg4 (by have := hrow2.lt; simp; omega)
  have hz24 : w2.heap.size < w4.heap.size := hrow4.lt
  have hrw2 := hrow2.lt
  clear hrow3 hg3 hg4 hrow2 hb2
  refine (masked_any k64 HK64.out 54 _ rfl w4).mono ?_
  rintro e w5 ⟨v5, rfl, hown5, hb5⟩
  have hown5 := own_len hown5 ((maskB_len _ _).trans HK64.out)
  obtain ⟨A5, c5, rfl, hc5, _, hr5⟩ := own_form hown5
  have hb5' := hb4.trans (hb5.mono hb4.size)
  have hrp := readsP_two w5 34 A5 Ab 64 c5 nb cb _ _ hr5 hc5 (hrb.on hb5') hcb
  go_wp2_with fail
  refine (concat_any _ _ _ _ _ hrp (by omega) (parts_two_le _ _ 100000 (show 64 ≤ _ by omega) (show nb ≤ _ by omega))).mono ?_
  rintro e w6 ⟨v6, rfl, hown6, hb6⟩
  have hb56 : Below w5.heap.size w5 w6 := ((Below.refl _ _).alloc (Nat.le_refl _) _).trans (hb6.mono (by simp))
  rw [allBytes_two] at hown6
  have hl6 : (maskB 54 k64 ++ b).length = 64 + nb := by rw [List.length_append, maskB_len, HK64.out, HB.out]
  have hown6 := own_len hown6 hl6
  obtain ⟨A6, c6, rfl, hc6, _, hr6⟩ := own_form hown6
  have hb6' := hb5'.trans (hb56.mono hb5'.size)
  have hrow6 := (hrow4.on hb5).on hb56
  have hrow6r := (hrow4r.on hb5).on hb56
  clear hown5 hown6 hb6 hl6
  go_wp2_with fail
  refine (sum_any A6 c6 _ (64 + nb) w6 (hK2.on hb6') hr6 hc6 (by omega)).mono ?_
  rintro e w7 ⟨rfl, hb7⟩
  have HSI := Lib.hid (sha_len (maskB 54 k64 ++ b))
  have hb7' := hb6'.trans (hb7.mono hb6'.size)
  go_wp2_with (first
    | (with_reducible refine wpList_alloc_row (o := ⟨some 6, _, _, _, _, _⟩) rfl _ rfl zeros32 zero_b32 ?_; intro w8 hrow8 hs8 hg8)
    | (with_reducible refine wpList_at ⟨none, .store 48 _ _, _, _, _, _⟩ ?_; refine wpList_store_all rfl _ _ _ rfl w7.heap.size rfl _ _ hrow8 (bvs (sha (maskB 54 k64 ++ b))) rfl (bvs_one _) (b32_zeros _ HSI.out) (b32_size _ HSI.out) ?_; intro w9 hrow9 hg9))
  have hrow9k := ((hrow6.on hb7).kept hg8 (by simp)).kept hg9 (by have := (hrow6.on hb7).lt; simp; omega)
  have hrow9r := ((hrow6r.on hb7).kept hg8 (by simp)).kept hg9 (by have := (hrow6r.on hb7).lt; simp; omega)
  have hb9 : Below w.heap.size w w9 := below_kept (below_kept hb7' hg8 hb7'.size (by simp)) hg9 (by have := hb7'.size; omega) (by rintro k hk; cases hk; exact hb7'.size)
  have hrd9 := hrow9.reads (size := 1) (n := 32) (by rw [bvs_length, HSI.out])
  have HLK := Lib.hid (maskB_len 92 k64)
  simp only [Act.put, List.setIfInBounds_toArray, List.set_cons_zero, List.set_cons_succ]
  refine wp_region_plan (fun w' => Row w' w2.heap.size 52 (bvs k64)) (.take 0 <| .take 2 <| .one 1 <| .one 3 <| .one 4 <| .one 5 <| .one 6 <| .done) (by kernel_rfl) (by kernel_rfl) (by kernel_rfl) (fun _ _ _ _ _ h => h) hrow9k.drew ?_
  refine plan_take _ rfl (wpQuiet_load_all rfl _ _ rfl w2.heap.size rfl _ _ (fun _ h => h) _ Tryd.underlying52 rfl (b64_size _ HK64.out) (wpQuiet_nil ?_))
  simp only [Act.put, List.setIfInBounds_toArray, List.set_cons_zero, List.set_cons_succ]
  repeat (refine plan_take _ rfl ?_; go_big_quiet_step ((intros; rfl)); refine wpQuiet_nil ?_)
  refine plan_one _ rfl fun K hK => ?_
  go_simp
  refine (masked_any k64 HK64.out 92 _ rfl w9.drew).mono ?_
  rintro e wa ⟨va, rfl, howna, hba⟩
  have howna := own_len howna (HLK.out.trans HK64.out)
  obtain ⟨Aa, ca, rfl, hca, _, hra⟩ := own_form howna
  have hba' := hb9.drew.trans (hba.mono hb9.size)
  have hrda := hrd9.drew.on hba
  have hrpa := readsP_two wa 34 Aa (some ⟨w7.heap.size, 0, none⟩) 64 ca 32 32 _ _ hra hca hrda (Nat.le_refl _)
  refine hK _ _ (hrow9k.drew.on hba) ?_
  clear hK K
  refine plan_one _ rfl fun K hK => ?_
  go_simp
  refine hK _ _ ((hrow9k.drew.on hba).kept (World.grownBy_alloc _ _ none) (by simp)) ?_
  clear hK K
  refine plan_one _ rfl fun K hK => ?_
  go_simp
  refine (concat_any _ _ _ _ _ hrpa (by omega) (parts_two_le _ _ 100000 (show 64 ≤ _ by omega) (show 32 ≤ _ by omega))).mono ?_
  rintro e wb ⟨vb, rfl, hownb, hbb⟩
  have hbab : Below wa.heap.size wa wb := ((Below.refl _ _).alloc (Nat.le_refl _) _).trans (hbb.mono (by simp))
  rw [allBytes_two] at hownb
  have hlb : (maskB 92 k64 ++ sha (maskB 54 k64 ++ b)).length = 96 := by rw [List.length_append, HLK.out, HK64.out, HSI.out]
  have hownb := own_len hownb hlb
  obtain ⟨Ab2, cb2, rfl, hcb2, _, hrb2⟩ := own_form hownb
  have hbb' := hba'.trans (hbab.mono hba'.size)
  refine hK _ _ ((hrow9k.drew.on hba).on hbab) ?_
  clear hK K hownb hbb hlb
  refine plan_one _ rfl fun K hK => ?_
  go_simp
  refine (sum_any Ab2 cb2 _ 96 wb (hK2.on hbb') hrb2 hcb2 (by omega)).mono ?_
  rintro e wd ⟨rfl, hbd⟩
  have hrowd := (((hrow9k.drew.on hba).on hbab).on hbd)
  have hrowrd := (((hrow9r.drew.on hba).on hbab).on hbd)
  have hbd' := hbb'.trans (hbd.mono hbb'.size)
  have e1 : sha (maskB 92 k64 ++ sha (maskB 54 k64 ++ b)) = hm := HH.out.symm
  rw [e1]
  refine hK _ _ hrowd ?_
  clear hK K e1
  refine plan_one _ rfl fun K hK => step_store_all rfl _ _ _ rfl w.heap.size rfl _ zeros32 hrowrd (bvs hm) rfl (bvs_one _) (b32_zeros _ HHL.out) (b32_size _ HHL.out) ?_
  intro wz rz gz
  refine hK _ _ (hrowd.kept gz (by simp; omega)) ?_
  clear hK K
  refine plan_done ?_
  go_wp2_with fail
  have hload := run_loadVar_at (P := Tryd.prog) wz 48 ⟨w.heap.size, 0, none⟩ (bvs hm) rz.cells _ Tryd.underlying48 rfl (b32_size _ HHL.out)
  exact bodyPost_ret (results_cell1 Tryd.results23 _ _ _ _ rfl hload) rfl ⟨rfl, below_kept hbd' gz hbd'.size (by rintro k hk; cases hk; exact Nat.le_refl _)⟩
end Go.Proofs.YtdgflobdnkopbaaDoor

/-
  append onto one of two rows of the call's own: the other row stays. Over any program. No condition.
-/
namespace Go.Proofs.YtdgflobdnkopbaaDoor
open Go.RowKit
section
variable {P : Program} {w : World}
theorem run_append_src_at (base : Nat) (t tx ty e : TypeId) (i : TypeInfo) (z : Value) (size bytes : Nat) (ht : P.underlying t = some (.slice e)) (hi : P.info? e = some i) (hz : i.zero = some z)
    (hsize : i.size = size) (hby : i.bytes = bytes) (hzs : z.cells.size = size)
    (v : Value) (n : Nat) (xs : List Value) (hown : w.ownsRow base e size v n xs) (x : Value) (m : Nat) (news : List Value) (hs : Src P size tx x m news w)
    (h63 : n + m ≤ maxLen) (hbytes : (n + m) * bytes ≤ 140737488355328) (hbase : base ≤ w.heap.size) :
    ∃ v' w', (Builtin.append_ #[t, tx] ty #[v, x]).run P w = .ok v' w' ∧ w'.ownsRow base e size v' (n + m) (xs ++ news) ∧ w.grownBy w' v.ownBlock ∧ (v'.ownBlock = v.ownBlock ∨ v'.ownBlock = some w.heap.size) := by
  subst hsize
  subst hby
  have hlen : (xs ++ news).length = (n + m) * i.size := by rw [List.length_append, hown.1, hs.newsLen, Nat.add_mul]
  have hsmall : ((n + m : Nat) : Int) ≤ 9223372036854775807 := by simp only [maxLen] at h63; omega
  rcases hown.2 with ⟨rfl, rfl⟩ | ⟨g, cap, cur, rfl, hbg, hg, hnc, hcm, hcs, htake⟩
  · have hx : xs = [] := List.eq_nil_of_length_eq_zero (by simpa using hown.1)
    subst hx
    by_cases hm : m = 0
    · subst hm
      have hn : news = [] := List.eq_nil_of_length_eq_zero (by simpa using hs.newsLen)
      subst hn
      refine ⟨.slice none 0 0, w, ?_, World.ownsRow_nil w base e i.size, World.grownBy.refl w _, .inl rfl⟩
      rcases hs.kind with ⟨e', hk⟩ | hk <;> simp [Builtin.append_, run_underlying ht, run_underlying hk, sizeOf, typeInfo, hi, hs.len, hs.cells]
    · have hr := run_append_grow_src (P := P) w t tx ty e i z ht hi hz none 0 0 [] (run_firstCells_none w.drew i.size 0 0 0) x m news hs (by omega) hsmall (growslice_fits (by omega) hbytes)
      refine ⟨_, _, hr, ?_, ⟨rfl, rfl, rfl, by simp, fun k hk _ => Below.heap_alloc w.drew _ k hk⟩, .inr rfl⟩
      have := own_grown w base e i.size 0 m 0 z hzs [] news (by simp) hs.newsLen h63 hbase
      simpa using this
  · by_cases hroom : n + m ≤ cap
    · have hfit : n * i.size + news.length ≤ cur.size := by rw [hs.newsLen, hcs, ← Nat.add_mul]; exact Nat.mul_le_mul_right _ hroom
      have hst := run_storeCells_at P g (n * i.size) e news 0 cur w hg (by simpa using hfit) hs.one
      simp only [Nat.add_zero] at hst
      have hr : (Builtin.append_ #[t, tx] ty #[.slice (some ⟨g, 0, none⟩) n cap, x]).run P w =
          .ok (.slice (some ⟨g, 0, none⟩) (n + m) cap) (w.setRow g (cur.toList.take (n * i.size) ++ news ++ cur.toList.drop (n * i.size + news.length)).toArray) := by
        rcases hs.kind with ⟨e', hk⟩ | hk <;> simp [Builtin.append_, run_underlying ht, run_underlying hk, sizeOf, typeInfo, hi, hs.len, hroom, hs.cells, Addr.add_lit, hst]
      refine ⟨_, _, hr, ⟨hlen, .inr ⟨g, cap, _, rfl, hbg, setRow_heap w g cur _ e _ hg, hroom, hcm, ?_, ?_⟩⟩, ⟨rfl, rfl, rfl, by simp, fun k _ hk => setRow_other w g k _ (fun e => hk (by simp [Value.ownBlock, e]))⟩, .inl rfl⟩
      · simp only [List.size_toArray, List.length_append, List.length_take, List.length_drop, Array.length_toList]
        omega
      · rw [htake, ← hlen]
        exact List.take_left
    · have holds : ∀ j u, xs[j]? = some u → w.cell? ((⟨g, 0, none⟩ : Addr).add j) = some u := hown.cells (g := g) rfl
      have hr := run_append_grow_src (P := P) w t tx ty e i z ht hi hz (some ⟨g, 0, none⟩) n cap xs (run_firstCells_some w.drew i.size n ⟨g, 0, none⟩ n cap xs hown.1 (by simpa using holds)) x m news hs (by omega) hsmall (growslice_fits (by omega) hbytes)
      exact ⟨_, _, hr, own_grown w base e i.size n m cap z hzs xs news hown.1 hs.newsLen h63 hbase, ⟨rfl, rfl, rfl, by simp, fun k hk _ => Below.heap_alloc w.drew _ k hk⟩, .inr rfl⟩

/-- Two values whose rows, if both have one, are two. -/
def Apart (v u : Value) : Prop := v.ownBlock = none ∨ v.ownBlock ≠ u.ownBlock
theorem Apart.symm {v u : Value} (h : Apart v u) : Apart u v := by
  rcases h with h | h
  · cases hu : u.ownBlock with
    | none => exact .inl hu
    | some g => exact .inr (by rw [h, hu]; simp)
  · exact .inr fun e => h e.symm
theorem Apart.more {w : World} {base size n : Nat} {e : TypeId} {v v' u : Value} {xs : List Value} (h : Apart v u) (hu : w.ownsRow base e size u n xs) (hv : v'.ownBlock = v.ownBlock ∨ ∃ g, v'.ownBlock = some g ∧ w.heap.size ≤ g) : Apart v' u := by
  rcases hv with hv | ⟨g, hv, hg⟩
  · unfold Apart; rw [hv]; exact h
  · refine .inr fun e => ?_
    have := (hu.lt g (by rw [← e, hv])).2
    omega

theorem wpList_append_two {ops : Array Oper} {rest : List Oper} {o : Oper} {a : Act} {Q : Exit → Act → World → Prop} (hgd : o.guard = none) (s x : Operand) (t tx : TypeId)
    (ho : o.op = .call { callee := .builtin .append, args := #[s, x], argTypes := #[t, tx] })
    (base : Nat) (e : TypeId) (i : TypeInfo) (z : Value) (size bytes : Nat) (ht : P.underlying t = some (.slice e)) (hi : P.info? e = some i) (hz : i.zero = some z)
    (hsize : i.size = size) (hby : i.bytes = bytes) (hzs : z.cells.size = size)
    (v : Value) (n : Nat) (xs : List Value) (hsv : a.eval s = v) (hown : w.ownsRow base e size v n xs) (m : Nat) (news : List Value) (hs : Src P size tx (a.eval x) m news w)
    (h63 : n + m ≤ maxLen) (hbytes : (n + m) * bytes ≤ 140737488355328) (hbase : base ≤ w.heap.size)
    (u : Value) (k : Nat) (ys : List Value) (hu : w.ownsRow base e size u k ys) (hap : Apart u v)
    (h : ∀ v' w', w'.ownsRow base e size v' (n + m) (xs ++ news) → Below base w w' → w'.ownsRow base e size u k ys → Apart u v' → wpList P ops Q rest (a.put o.dst v') w') : wpList P ops Q (o :: rest) a w := by
  refine wpList_plain hgd fun _ hK => ?_
  obtain ⟨v', w', hrun, h2, h3, h4⟩ := run_append_src_at (P := P) (w := w) base t tx o.type e i z size bytes ht hi hz hsize hby hzs v n xs hown (a.eval x) m news hs h63 hbytes hbase
  unfold Oper.wp execOp
  simp only [ho, resolve, invoke, builtin, Sem.run_bind, Sem.run_pure, Result.andThen_ok, List.map_toArray, List.map_cons, List.map_nil, hsv, hrun]
  exact hK _ _ (h v' w' h2 ((Below.refl base w).grown h3 hbase fun k hk => (hown.lt k hk).1) (hu.kept h3 hap) (hap.symm.more hu (h4.imp id fun h => ⟨_, h, Nat.le_refl _⟩)).symm)
end
end Go.Proofs.YtdgflobdnkopbaaDoor

/-
  What the reference's HMAC returns: a contract by a walk. Condition: bounded lengths.
-/
namespace Go.Proofs.YtdgflobdnkopbaaDoor
open Go.RowKit

theorem maskB_succ (m : UInt8) (l : List UInt8) (k : Nat) (x : UInt8) (h : l[k]? = some x) : maskB m (l.take (k + 1)) = maskB m (l.take k) ++ [x ^^^ m] := by
  rw [List.take_add_one, h]
  unfold maskB
  simp

theorem mask54 (x : UInt8) : [Value.int .u8 (bits .xor .u8 (x.toNat : Int) 54)] = bvs [x ^^^ 54] := by
  rw [show (54 : Int) = ((54 : UInt8).toNat : Int) from rfl, u8_mask]; rfl
theorem mask92 (x : UInt8) : [Value.int .u8 (bits .xor .u8 (x.toNat : Int) 92)] = bvs [x ^^^ 92] := by
  rw [show (92 : Int) = ((92 : UInt8).toNat : Int) from rfl, u8_mask]; rfl

set_option maxRecDepth 100000 in
set_option maxHeartbeats 4000000 in
theorem refHmac_any (Ak Ab : Option Addr) (ck cb : Nat) (key b : List UInt8) (nk nb : Nat) (w : World) (hrk : Reads w w.heap.size 1 Ak nk (bvs key)) (_hck : nk ≤ ck) (hnk : nk ≤ 50000) (hrb : Reads w w.heap.size 1 Ab nb (bvs b)) (_hcb : nb ≤ cb) (hnb : nb ≤ 50000) :
    Calls Tryd.prog 40 #[.slice Ak nk ck, .slice Ab nb cb] w (GivesV (.agg (bvs (hmac key b)).toArray) w) := by
  obtain ⟨i0, hi0, hz0, hz1, hz2⟩ := info_parts info_u8
  have HL := Lib.hid hrk.bytes_len
  have H64 := Lib.hid (key64_len key)
  have HH : Hid (hmac key b = sha (maskB 92 (key64 key) ++ sha (maskB 54 (key64 key) ++ b))) := rfl
  have HHL := Lib.hid (hmac_len key b)
  have HKK : Hid (key64 key = keyOf key ++ List.replicate (64 - (keyOf key).length) 0) := rfl
  generalize hmac key b = hm at *
  generalize key64 key = k64 at *
  by_cases hlong : 64 < nk
  · have hkey : keyOf key = sha key := by unfold keyOf; rw [if_pos (by rw [HL.out]; exact hlong)]
    have HK0 : Hid ((keyOf key).length = 32) := by show _ = _; rw [hkey, sha_len]
    have HKEY := Lib.hid hkey
    clear hkey
    go_enter Tryd.func40, Tryd.ntmps40
    go_wp2_with (with_reducible refine wpList_alloc_row (o := ⟨some 4, _, _, _, _, _⟩) rfl _ rfl zeros32 zero_b32 ?_; intro w1 hrow1 hs1 hg1)
    have hb1 : Below w.heap.size w w1 := grown_below hg1 (Nat.le_refl _) (by simp)
    clear hg1
    refine (refSum_any Ak ck key nk w1 (hrk.on hb1) (by omega)).mono ?_
    rintro e w1b ⟨rfl, hb1b⟩
    go_wp2_with fail
    refine (refAll_any _ (sha_len _) w1b).mono ?_
    rintro e w2 ⟨v2, rfl, hown2, hb2b⟩
    have hown2 := own_len hown2 (sha_len _)
    obtain ⟨A0, c0, rfl, hc0, _, hr2⟩ := own_form hown2
    rw [← HKEY.out] at hr2
    have hb12 := hb1b.trans (hb2b.mono hb1b.size)
    have hrow2 := hrow1.on hb12
    have hb2 := hb1.trans (hb12.mono hb1.size)
    have hrb2 := hrb.on hb2
    clear hown2 hb1b hb2b hb12 hrow1
    go_wp2_with fail
    go_loopg [5, 6, 7, 8] 64 (fun g s5 s6 s7 s8 wr => ∃ k : Nat, Hid (k + g = 64) ∧ k ≤ 64 ∧ s7 = .int .i64 (k : Int) ∧ wr.ownsRow w2.heap.size 5 1 s5 k (bvs (maskB 54 (k64.take k))) ∧ wr.ownsRow w2.heap.size 5 1 s6 k (bvs (maskB 92 (k64.take k))) ∧ Apart s6 s5 ∧ Below w2.heap.size w2 wr)
    case atStart => exact ⟨0, rfl, by omega, rfl, World.ownsRow_nil _ _ _ _, World.ownsRow_nil _ _ _ _, .inl rfl, Below.refl _ _⟩
    case round =>
      obtain ⟨k, HI, hk, rfl, hown5, hown6, hap, hbel⟩ := hrel
      have hbz := hbel.size
      have hrk2 := hr2.on hbel
      have hrb2 := hrb2.on hbel
      by_cases hlt : k < 64
      · obtain ⟨x, hx⟩ : ∃ x, k64[k]? = some x := ⟨_, List.getElem?_eq_getElem (by rw [H64.out]; exact hlt)⟩
        have hT54 := Lib.hid (maskB_succ 54 k64 k x hx)
        have hT92 := Lib.hid (maskB_succ 92 k64 k x hx)
        by_cases hkn : k < 32
        · have hcx : (keyOf key)[k]? = some x := by rw [← hx, HKK.out, List.getElem?_append_left (by rw [HK0.out]; exact hkn)]
          obtain ⟨ad, u, hA0, _, hu, hcell⟩ := hrk2.at_ hkn
          have hux : u = .int .u8 (x.toNat : Int) := by
            unfold bvs at hu
            rw [List.getElem?_map, hcx] at hu
            exact (Option.some.inj hu).symm
          subst hux
          subst hA0
          clear hx hcx hu
          go_wp2_with (first
            | (at_builtin; refine wpList_append_two rfl (.tmp 27) (.tmp 30) _ _ rfl w2.heap.size 5 i0 _ 1 1 Tryd.underlying34 hi0 hz0 hz1 hz2 rfl _ _ _ rfl (hown5.alloc _) 1 _ (Src.box Tryd.underlying34 _ _ _ rfl _) (by unfold maxLen; omega) (by omega) (by simp; omega) _ k _ (hown6.alloc _) hap ?_; intro v5 w5 hown5' hb5 hown6' hap')
            | (at_builtin; refine wpList_append_two rfl (.tmp 32) (.tmp 35) _ _ rfl w2.heap.size 5 i0 _ 1 1 Tryd.underlying34 hi0 hz0 hz1 hz2 rfl _ _ _ rfl (hown6'.alloc _) 1 _ (Src.box Tryd.underlying34 _ _ _ rfl _) (by unfold maxLen; omega) (by omega) (by have := hb5.size; simp at this ⊢; omega) _ (k + 1) _ (hown5'.alloc _) hap'.symm ?_; intro v6 w6 hown6'' hb6 hown5'' hap''))
          have hb26 : Below w2.heap.size w2 w6 := (hbel.alloc hbz _).trans (hb5.trans (((Below.refl _ _).alloc (by have := hb5.size; simp at this ⊢; omega) _).trans hb6))
          go_roundg (gk - 1)
          case measure => have := HI.out; omega
          case rel =>
            refine ⟨k + 1, by have := HI.out; show _ = _; omega, by omega, by go_num, ?_, ?_, hap''.symm, hb26⟩
            · rw [hT54.out, bvs_append, ← mask54]; exact hown5''
            · rw [hT92.out, bvs_append, ← mask92]; exact hown6''
        · have hx0 : x = 0 := by
            rw [HKK.out, List.getElem?_append_right (by rw [HK0.out]; omega), List.getElem?_replicate] at hx
            split at hx
            · exact (Option.some.inj hx).symm
            · cases hx
          subst hx0
          clear hx
          go_wp2_with (first
            | (at_builtin; refine wpList_append_two rfl (.tmp 27) (.tmp 30) _ _ rfl w2.heap.size 5 i0 _ 1 1 Tryd.underlying34 hi0 hz0 hz1 hz2 rfl _ _ _ rfl (hown5.alloc _) 1 _ (Src.box Tryd.underlying34 _ _ _ rfl _) (by unfold maxLen; omega) (by omega) (by simp; omega) _ k _ (hown6.alloc _) hap ?_; intro v5 w5 hown5' hb5 hown6' hap')
            | (at_builtin; refine wpList_append_two rfl (.tmp 32) (.tmp 35) _ _ rfl w2.heap.size 5 i0 _ 1 1 Tryd.underlying34 hi0 hz0 hz1 hz2 rfl _ _ _ rfl (hown6'.alloc _) 1 _ (Src.box Tryd.underlying34 _ _ _ rfl _) (by unfold maxLen; omega) (by omega) (by have := hb5.size; simp at this ⊢; omega) _ (k + 1) _ (hown5'.alloc _) hap'.symm ?_; intro v6 w6 hown6'' hb6 hown5'' hap''))
          have hb26 : Below w2.heap.size w2 w6 := (hbel.alloc hbz _).trans (hb5.trans (((Below.refl _ _).alloc (by have := hb5.size; simp at this ⊢; omega) _).trans hb6))
          go_roundg (gk - 1)
          case measure => have := HI.out; omega
          case rel =>
            refine ⟨k + 1, by have := HI.out; show _ = _; omega, by omega, by go_num, ?_, ?_, hap''.symm, hb26⟩
            · rw [hT54.out, bvs_append]; exact hown5''
            · rw [hT92.out, bvs_append]; exact hown6''
      · have HK64 : Hid (k = 64) := by show _ = _; omega
        rw [HK64.out, List.take_of_length_le (by rw [H64.out]; exact Nat.le_refl _)] at hown5 hown6
        go_wp2_with (at_builtin; refine wpList_append_two rfl (.tmp 37) (.tmp 38) _ _ rfl w2.heap.size 5 i0 _ 1 1 Tryd.underlying34 hi0 hz0 hz1 hz2 rfl _ _ _ rfl hown5 nb _ (Src.ofReads _ Tryd.underlying34 hrb2 (bvs_one _)) (by unfold maxLen; omega) (by omega) hbz _ 64 _ hown6 hap ?_; intro v7 w7 hown7 hb7 hown67 hap7; obtain ⟨A7, c7, hv7, hc7, _, hr7⟩ := own_form hown7; subst hv7; rw [← bvs_append] at hr7)
        have hb27 := hbel.trans hb7
        refine (refSum_any A7 c7 _ (64 + nb) w7 hr7 (by omega)).mono ?_
        rintro e w8 ⟨rfl, hb8⟩
        go_wp2_with fail
        refine (refAll_any _ (sha_len _) w8).mono ?_
        rintro e w9 ⟨v9, rfl, hown9, hb9⟩
        have hown9 := own_len hown9 (sha_len _)
        obtain ⟨A9, c9, rfl, hc9, _, hr9⟩ := own_form hown9
        have hb79 := hb8.trans (hb9.mono hb8.size)
        have hown69 := own_below hown67 hb79
        have hb29 := hb27.trans (hb79.mono hb27.size)
        clear hown67 hown7 hown5 hown6
        go_wp2_with (at_builtin; refine wpList_append_src _ rfl (.tmp 40) (.tmp 43) _ _ rfl w2.heap.size 5 i0 _ 1 1 Tryd.underlying34 hi0 hz0 hz1 hz2 rfl _ _ _ rfl hown69 32 _ (Src.ofReads _ Tryd.underlying34 hr9 (bvs_one _)) (by unfold maxLen; omega) (by omega) hb29.size ?_; intro va wa howna hba; obtain ⟨Aa, ca, hva, hca, _, hra⟩ := own_form howna; subst hva; rw [← bvs_append] at hra)
        refine (refSum_any Aa ca _ (64 + 32) wa hra (by omega)).mono ?_
        rintro e wc ⟨rfl, hbc⟩
        rw [← HH.out]
        have hb2a := hb29.trans hba
        have hb2c := hb2a.trans (hbc.mono hb2a.size)
        have hrowc := hrow2.on hb2c
        go_wp2_with (with_reducible refine wpList_store_all (o := ⟨none, _, _, _, _, _⟩) rfl _ _ _ rfl w.heap.size rfl _ _ hrowc (bvs hm) rfl (bvs_one _) (b32_zeros _ HHL.out) (b32_size _ HHL.out) ?_; intro wz hrowz hgz)
        have hload := run_loadVar_at (P := Tryd.prog) wz 48 ⟨w.heap.size, 0, none⟩ (bvs hm) hrowz.cells _ Tryd.underlying48 rfl (b32_size _ HHL.out)
        have hbwc := hb2.trans (hb2c.mono hb2.size)
        exact bodyPost_ret (results_cell1 Tryd.results40 _ _ _ _ rfl hload) rfl ⟨rfl, below_kept hbwc hgz hbwc.size (by rintro k hk; cases hk; exact Nat.le_refl _)⟩
  · have hkey : keyOf key = key := by unfold keyOf; rw [if_neg (by rw [HL.out]; exact hlong)]
    have HK0 : Hid ((keyOf key).length = nk) := by show _ = _; rw [hkey, HL.out]
    have HKEY := Lib.hid hkey
    clear hkey
    go_enter Tryd.func40, Tryd.ntmps40
    go_wp2_with (with_reducible refine wpList_alloc_row (o := ⟨some 4, _, _, _, _, _⟩) rfl _ rfl zeros32 zero_b32 ?_; intro w2 hrow2 hs2 hg2)
    have hb2 : Below w.heap.size w w2 := grown_below hg2 (Nat.le_refl _) (by simp)
    have hr2 := hrk.on hb2
    rw [← HKEY.out] at hr2
    have hrb2 := hrb.on hb2
    clear hg2
    go_loopg [5, 6, 7, 8] 64 (fun g s5 s6 s7 s8 wr => ∃ k : Nat, Hid (k + g = 64) ∧ k ≤ 64 ∧ s7 = .int .i64 (k : Int) ∧ wr.ownsRow w2.heap.size 5 1 s5 k (bvs (maskB 54 (k64.take k))) ∧ wr.ownsRow w2.heap.size 5 1 s6 k (bvs (maskB 92 (k64.take k))) ∧ Apart s6 s5 ∧ Below w2.heap.size w2 wr)
    case atStart => exact ⟨0, rfl, by omega, rfl, World.ownsRow_nil _ _ _ _, World.ownsRow_nil _ _ _ _, .inl rfl, Below.refl _ _⟩
    case round =>
      obtain ⟨k, HI, hk, rfl, hown5, hown6, hap, hbel⟩ := hrel
      have hbz := hbel.size
      have hrk2 := hr2.on hbel
      have hrb2 := hrb2.on hbel
      by_cases hlt : k < 64
      · obtain ⟨x, hx⟩ : ∃ x, k64[k]? = some x := ⟨_, List.getElem?_eq_getElem (by rw [H64.out]; exact hlt)⟩
        have hT54 := Lib.hid (maskB_succ 54 k64 k x hx)
        have hT92 := Lib.hid (maskB_succ 92 k64 k x hx)
        by_cases hkn : k < nk
        · have hcx : (keyOf key)[k]? = some x := by rw [← hx, HKK.out, List.getElem?_append_left (by rw [HK0.out]; exact hkn)]
          obtain ⟨ad, u, hA0, _, hu, hcell⟩ := hrk2.at_ hkn
          have hux : u = .int .u8 (x.toNat : Int) := by
            unfold bvs at hu
            rw [List.getElem?_map, hcx] at hu
            exact (Option.some.inj hu).symm
          subst hux
          subst hA0
          clear hx hcx hu
          go_wp2_with (first
            | (at_builtin; refine wpList_append_two rfl (.tmp 27) (.tmp 30) _ _ rfl w2.heap.size 5 i0 _ 1 1 Tryd.underlying34 hi0 hz0 hz1 hz2 rfl _ _ _ rfl (hown5.alloc _) 1 _ (Src.box Tryd.underlying34 _ _ _ rfl _) (by unfold maxLen; omega) (by omega) (by simp; omega) _ k _ (hown6.alloc _) hap ?_; intro v5 w5 hown5' hb5 hown6' hap')
            | (at_builtin; refine wpList_append_two rfl (.tmp 32) (.tmp 35) _ _ rfl w2.heap.size 5 i0 _ 1 1 Tryd.underlying34 hi0 hz0 hz1 hz2 rfl _ _ _ rfl (hown6'.alloc _) 1 _ (Src.box Tryd.underlying34 _ _ _ rfl _) (by unfold maxLen; omega) (by omega) (by have := hb5.size; simp at this ⊢; omega) _ (k + 1) _ (hown5'.alloc _) hap'.symm ?_; intro v6 w6 hown6'' hb6 hown5'' hap''))
          have hb26 : Below w2.heap.size w2 w6 := (hbel.alloc hbz _).trans (hb5.trans (((Below.refl _ _).alloc (by have := hb5.size; simp at this ⊢; omega) _).trans hb6))
          go_roundg (gk - 1)
          case measure => have := HI.out; omega
          case rel =>
            refine ⟨k + 1, by have := HI.out; show _ = _; omega, by omega, by go_num, ?_, ?_, hap''.symm, hb26⟩
            · rw [hT54.out, bvs_append, ← mask54]; exact hown5''
            · rw [hT92.out, bvs_append, ← mask92]; exact hown6''
        · have hx0 : x = 0 := by
            rw [HKK.out, List.getElem?_append_right (by rw [HK0.out]; omega), List.getElem?_replicate] at hx
            split at hx
            · exact (Option.some.inj hx).symm
            · cases hx
          subst hx0
          clear hx
          go_wp2_with (first
            | (at_builtin; refine wpList_append_two rfl (.tmp 27) (.tmp 30) _ _ rfl w2.heap.size 5 i0 _ 1 1 Tryd.underlying34 hi0 hz0 hz1 hz2 rfl _ _ _ rfl (hown5.alloc _) 1 _ (Src.box Tryd.underlying34 _ _ _ rfl _) (by unfold maxLen; omega) (by omega) (by simp; omega) _ k _ (hown6.alloc _) hap ?_; intro v5 w5 hown5' hb5 hown6' hap')
            | (at_builtin; refine wpList_append_two rfl (.tmp 32) (.tmp 35) _ _ rfl w2.heap.size 5 i0 _ 1 1 Tryd.underlying34 hi0 hz0 hz1 hz2 rfl _ _ _ rfl (hown6'.alloc _) 1 _ (Src.box Tryd.underlying34 _ _ _ rfl _) (by unfold maxLen; omega) (by omega) (by have := hb5.size; simp at this ⊢; omega) _ (k + 1) _ (hown5'.alloc _) hap'.symm ?_; intro v6 w6 hown6'' hb6 hown5'' hap''))
          have hb26 : Below w2.heap.size w2 w6 := (hbel.alloc hbz _).trans (hb5.trans (((Below.refl _ _).alloc (by have := hb5.size; simp at this ⊢; omega) _).trans hb6))
          go_roundg (gk - 1)
          case measure => have := HI.out; omega
          case rel =>
            refine ⟨k + 1, by have := HI.out; show _ = _; omega, by omega, by go_num, ?_, ?_, hap''.symm, hb26⟩
            · rw [hT54.out, bvs_append]; exact hown5''
            · rw [hT92.out, bvs_append]; exact hown6''
      · have HK64 : Hid (k = 64) := by show _ = _; omega
        rw [HK64.out, List.take_of_length_le (by rw [H64.out]; exact Nat.le_refl _)] at hown5 hown6
        go_wp2_with (at_builtin; refine wpList_append_two rfl (.tmp 37) (.tmp 38) _ _ rfl w2.heap.size 5 i0 _ 1 1 Tryd.underlying34 hi0 hz0 hz1 hz2 rfl _ _ _ rfl hown5 nb _ (Src.ofReads _ Tryd.underlying34 hrb2 (bvs_one _)) (by unfold maxLen; omega) (by omega) hbz _ 64 _ hown6 hap ?_; intro v7 w7 hown7 hb7 hown67 hap7; obtain ⟨A7, c7, hv7, hc7, _, hr7⟩ := own_form hown7; subst hv7; rw [← bvs_append] at hr7)
        have hb27 := hbel.trans hb7
        refine (refSum_any A7 c7 _ (64 + nb) w7 hr7 (by omega)).mono ?_
        rintro e w8 ⟨rfl, hb8⟩
        go_wp2_with fail
        refine (refAll_any _ (sha_len _) w8).mono ?_
        rintro e w9 ⟨v9, rfl, hown9, hb9⟩
        have hown9 := own_len hown9 (sha_len _)
        obtain ⟨A9, c9, rfl, hc9, _, hr9⟩ := own_form hown9
        have hb79 := hb8.trans (hb9.mono hb8.size)
        have hown69 := own_below hown67 hb79
        have hb29 := hb27.trans (hb79.mono hb27.size)
        clear hown67 hown7 hown5 hown6
        go_wp2_with (at_builtin; refine wpList_append_src _ rfl (.tmp 40) (.tmp 43) _ _ rfl w2.heap.size 5 i0 _ 1 1 Tryd.underlying34 hi0 hz0 hz1 hz2 rfl _ _ _ rfl hown69 32 _ (Src.ofReads _ Tryd.underlying34 hr9 (bvs_one _)) (by unfold maxLen; omega) (by omega) hb29.size ?_; intro va wa howna hba; obtain ⟨Aa, ca, hva, hca, _, hra⟩ := own_form howna; subst hva; rw [← bvs_append] at hra)
        refine (refSum_any Aa ca _ (64 + 32) wa hra (by omega)).mono ?_
        rintro e wc ⟨rfl, hbc⟩
        rw [← HH.out]
        have hb2a := hb29.trans hba
        have hb2c := hb2a.trans (hbc.mono hb2a.size)
        have hrowc := hrow2.on hb2c
        go_wp2_with (with_reducible refine wpList_store_all (o := ⟨none, _, _, _, _, _⟩) rfl _ _ _ rfl w.heap.size rfl _ _ hrowc (bvs hm) rfl (bvs_one _) (b32_zeros _ HHL.out) (b32_size _ HHL.out) ?_; intro wz hrowz hgz)
        have hload := run_loadVar_at (P := Tryd.prog) wz 48 ⟨w.heap.size, 0, none⟩ (bvs hm) hrowz.cells _ Tryd.underlying48 rfl (b32_size _ HHL.out)
        have hbwc := hb2.trans (hb2c.mono hb2.size)
        exact bodyPost_ret (results_cell1 Tryd.results40 _ _ _ _ rfl hload) rfl ⟨rfl, below_kept hbwc hgz hbwc.size (by rintro k hk; cases hk; exact Nat.le_refl _)⟩
end Go.Proofs.YtdgflobdnkopbaaDoor

/-
  What sha.MAC and the reference's MAC return: contracts by walks. Conditions: those of HMAC.
-/
namespace Go.Proofs.YtdgflobdnkopbaaDoor
open Go.RowKit

theorem mac_len (key b : List UInt8) : (mac key b).length = 16 := by unfold mac; rw [List.length_take, hmac_len]; rfl

set_option maxRecDepth 100000 in
set_option maxHeartbeats 1000000 in
theorem mac_any (Ak Ab : Option Addr) (ck cb : Nat) (key b : List UInt8) (nk nb : Nat) (w : World) (hK : Consts w) (hrk : Reads w w.heap.size 1 Ak nk (bvs key)) (hck : nk ≤ ck) (hnk : nk ≤ 50000) (hrb : Reads w w.heap.size 1 Ab nb (bvs b)) (hcb : nb ≤ cb) (hnb : nb ≤ 50000) :
    Calls Tryd.prog 14 #[.slice Ak nk ck, .slice Ab nb cb] w (GivesV (.agg (bvs (mac key b)).toArray) w) := by
  have HML := Lib.hid (mac_len key b)
  have HM : Hid (mac key b = (hmac key b).take 16) := rfl
  generalize mac key b = mc at *
  go_enter Tryd.func14, Tryd.ntmps14
  go_wp2_with (with_reducible refine wpList_alloc_row (o := ⟨some 4, _, _, _, _, _⟩) rfl _ rfl zeros16 zero_b16 ?_; intro w1 hrow1 hs1 hg1)
  have hb1 : Below w.heap.size w w1 := grown_below hg1 (Nat.le_refl _) (by simp)
  refine (hmac_any Ak Ab ck cb key b nk nb w1 (hK.on hb1) (hrk.on hb1) hck hnk (hrb.on hb1) hcb hnb).mono ?_
  rintro e w2 ⟨rfl, hb2⟩
  go_wp2_with fail
  refine (shorten_any _ (hmac_len _ _) w2).mono ?_
  rintro e w3 ⟨rfl, hb3⟩
  rw [← HM.out]
  have hb13 := hb2.trans (hb3.mono hb2.size)
  have hrow3 := hrow1.on hb13
  have hb3' := hb1.trans (hb13.mono hb1.size)
  go_wp2_with (with_reducible refine wpList_store_all (o := ⟨none, _, _, _, _, _⟩) rfl _ _ _ rfl w.heap.size rfl _ _ hrow3 (bvs mc) rfl (bvs_one _) (b16_zeros _ HML.out) (b16_size _ HML.out) ?_; intro wz hrowz hgz)
  have hload := run_loadVar_at (P := Tryd.prog) wz 23 ⟨w.heap.size, 0, none⟩ (bvs mc) hrowz.cells _ Tryd.underlying23 rfl (b16_size _ HML.out)
  exact bodyPost_ret (results_cell1 Tryd.results14 _ _ _ _ rfl hload) rfl ⟨rfl, below_kept hb3' hgz hb3'.size (by rintro k hk; cases hk; exact Nat.le_refl _)⟩

set_option maxRecDepth 100000 in
set_option maxHeartbeats 1000000 in
theorem refMac_any (Ak Ab : Option Addr) (ck cb : Nat) (key b : List UInt8) (nk nb : Nat) (w : World) (hrk : Reads w w.heap.size 1 Ak nk (bvs key)) (hck : nk ≤ ck) (hnk : nk ≤ 50000) (hrb : Reads w w.heap.size 1 Ab nb (bvs b)) (hcb : nb ≤ cb) (hnb : nb ≤ 50000) :
    Calls Tryd.prog 31 #[.slice Ak nk ck, .slice Ab nb cb] w (GivesV (.agg (bvs (mac key b)).toArray) w) := by
  have HML := Lib.hid (mac_len key b)
  have HM : Hid (mac key b = (hmac key b).take 16) := rfl
  generalize mac key b = mc at *
  go_enter Tryd.func31, Tryd.ntmps31
  go_wp2_with (with_reducible refine wpList_alloc_row (o := ⟨some 4, _, _, _, _, _⟩) rfl _ rfl zeros16 zero_b16 ?_; intro w1 hrow1 hs1 hg1)
  have hb1 : Below w.heap.size w w1 := grown_below hg1 (Nat.le_refl _) (by simp)
  refine (refHmac_any Ak Ab ck cb key b nk nb w1 (hrk.on hb1) hck hnk (hrb.on hb1) hcb hnb).mono ?_
  rintro e w2 ⟨rfl, hb2⟩
  go_wp2_with fail
  refine (refShort_any _ (hmac_len _ _) w2).mono ?_
  rintro e w3 ⟨rfl, hb3⟩
  rw [← HM.out]
  have hb13 := hb2.trans (hb3.mono hb2.size)
  have hrow3 := hrow1.on hb13
  have hb3' := hb1.trans (hb13.mono hb1.size)
  go_wp2_with (with_reducible refine wpList_store_all (o := ⟨none, _, _, _, _, _⟩) rfl _ _ _ rfl w.heap.size rfl _ _ hrow3 (bvs mc) rfl (bvs_one _) (b16_zeros _ HML.out) (b16_size _ HML.out) ?_; intro wz hrowz hgz)
  have hload := run_loadVar_at (P := Tryd.prog) wz 23 ⟨w.heap.size, 0, none⟩ (bvs mc) hrowz.cells _ Tryd.underlying23 rfl (b16_size _ HML.out)
  exact bodyPost_ret (results_cell1 Tryd.results31 _ _ _ _ rfl hload) rfl ⟨rfl, below_kept hb3' hgz hb3'.size (by rintro k hk; cases hk; exact Nat.le_refl _)⟩
end Go.Proofs.YtdgflobdnkopbaaDoor

/-
  What sha.Derive and the reference's Derive return: contracts by walks. Conditions: the table of constants as laid (Derive); bounded lengths.
-/
namespace Go.Proofs.YtdgflobdnkopbaaDoor
open Go.RowKit

def drv (key s : List UInt8) (ps : List Part) : List UInt8 := mac key (encBytes s ++ epAll ps)
theorem drv_len (key s : List UInt8) (ps : List Part) : (drv key s ps).length = 16 := mac_len _ _

set_option maxRecDepth 100000 in
set_option maxHeartbeats 2000000 in
theorem derive_big (Ak : Option Addr) (ck : Nat) (key : List UInt8) (nk : Nat) (s : ByteArray) (A : Option Addr) (c : Nat) (ps : List Part) (n : Nat) (w : World) (hK : Consts w) (hrk : Reads w w.heap.size 1 Ak nk (bvs key)) (hck : nk ≤ ck) (hnk : nk ≤ 300) (hs : s.size ≤ 300)
    (hr : ReadsP w w.heap.size A n ps) (hn : n ≤ 20) (hp : ∀ p ∈ ps, p.n ≤ 2000) :
    Calls Tryd.prog 13 #[.slice Ak nk ck, .string s, .slice A n c] w (GivesV (.agg (bvs (drv key s.data.toList ps)).toArray) w) := by
  have HDL := Lib.hid (drv_len key s.data.toList ps)
  have HD : Hid (drv key s.data.toList ps = mac key (encBytes s.data.toList ++ epAll ps)) := rfl
  have HEL : Hid ((epAll ps).length ≤ 40200) := by
    show _ ≤ _
    have h1 := epAll_len ps (parts_l hr hp)
    have h2 := hr.len
    omega
  have HSL := Lib.hid (encBytes_le s.data.toList 300 (by simpa using hs) (by omega))
  have hcb := fun W => Lib.hid (bytes_any s W (by omega))
  generalize drv key s.data.toList ps = D at *
  generalize encBytes s.data.toList = E at *
  go_enter Tryd.func13, Tryd.ntmps13
  go_wp2_with (with_reducible refine wpList_alloc_row (o := ⟨some 6, _, _, _, _, _⟩) rfl _ rfl zeros16 zero_b16 ?_; intro w1 hrow1 hs1 hg1)
  have hb1 : Below w.heap.size w w1 := grown_below hg1 (Nat.le_refl _) (by simp)
  clear hg1
  refine (hcb w1).out.mono ?_
  rintro e w2 ⟨v2, rfl, hown2, hb2⟩
  go_wp2_with fail
  refine (appendParts_any w1.heap.size _ E A c ps n w2 hown2 hb2.size (by have := HSL.out; omega) ((hr.on hb1).below hb2) hn hp).mono ?_
  rintro e w3 ⟨v3, rfl, hown3, hb3⟩
  have hown3 := own_len hown3 List.length_append
  obtain ⟨A3, c3, rfl, hc3, _, hr3⟩ := own_form hown3
  have hb13 := hb2.trans hb3
  have hb3' := hb1.trans (hb13.mono hb1.size)
  have hrow3 := hrow1.below hb13 (by omega)
  clear hown2 hown3 hb2 hb3
  go_wp2_with fail
  refine (mac_any Ak A3 ck c3 key _ nk _ w3 (hK.on hb3') (hrk.on hb3') hck (by omega) hr3 hc3 (by have h1 := HEL.out; have h2 := HSL.out; omega)).mono ?_
  rintro e w4 ⟨rfl, hb4⟩
  rw [← HD.out]
  have hrow4 := hrow3.on hb4
  have hb4' := hb3'.trans (hb4.mono hb3'.size)
  go_wp2_with (with_reducible refine wpList_store_all (o := ⟨none, _, _, _, _, _⟩) rfl _ _ _ rfl w.heap.size rfl _ _ hrow4 (bvs D) rfl (bvs_one _) (b16_zeros _ HDL.out) (b16_size _ HDL.out) ?_; intro wz hrowz hgz)
  have hload := run_loadVar_at (P := Tryd.prog) wz 23 ⟨w.heap.size, 0, none⟩ (bvs D) hrowz.cells _ Tryd.underlying23 rfl (b16_size _ HDL.out)
  exact bodyPost_ret (results_cell1 Tryd.results13 _ _ _ _ rfl hload) rfl ⟨rfl, below_kept hb4' hgz hb4'.size (by rintro k hk; cases hk; exact Nat.le_refl _)⟩

set_option maxRecDepth 100000 in
set_option maxHeartbeats 2000000 in
theorem refDerive_big (Ak : Option Addr) (ck : Nat) (key : List UInt8) (nk : Nat) (s : ByteArray) (A : Option Addr) (c : Nat) (ps : List Part) (n : Nat) (w : World) (hrk : Reads w w.heap.size 1 Ak nk (bvs key)) (hck : nk ≤ ck) (hnk : nk ≤ 300) (hs : s.size ≤ 300)
    (hr : ReadsP w w.heap.size A n ps) (hn : n ≤ 20) (hp : ∀ p ∈ ps, p.n ≤ 2000) :
    Calls Tryd.prog 28 #[.slice Ak nk ck, .string s, .slice A n c] w (GivesV (.agg (bvs (drv key s.data.toList ps)).toArray) w) := by
  obtain ⟨i0, hi0, hz0, hz1, hz2⟩ := info_parts info_u8
  have HDL := Lib.hid (drv_len key s.data.toList ps)
  have HD : Hid (drv key s.data.toList ps = mac key (encBytes s.data.toList ++ epAll ps)) := rfl
  have HLN := Lib.hid hr.len
  have HPL := Lib.hid (parts_l hr hp)
  have HLE := Lib.hid (epK_len ps HPL.out)
  have HPN := Lib.hid hp
  clear hp
  have hsl := encBytes_le s.data.toList 300 (by simpa using hs) (by omega)
  have hcb := fun W => Lib.hid (refBytes_any s W (by omega))
  generalize drv key s.data.toList ps = D at *
  generalize encBytes s.data.toList = E at *
  go_enter Tryd.func28, Tryd.ntmps28
  go_wp2_with (with_reducible refine wpList_alloc_row (o := ⟨some 6, _, _, _, _, _⟩) rfl _ rfl zeros16 zero_b16 ?_; intro w1 hrow1 hs1 hg1)
  have hb1 : Below w.heap.size w w1 := grown_below hg1 (Nat.le_refl _) (by simp)
  clear hg1
  have hr1 := hr.on hb1
  have hown := (row_alloc w1 5 []).owns_all (base := w1.heap.size) (Nat.le_refl _) 0 rfl (by unfold maxLen; omega)
  refine (hcb _).out.mono ?_
  rintro e w2 ⟨v2, rfl, hown2, hb2⟩
  obtain ⟨A2, c2, rfl, hc2, _, hr2⟩ := own_form hown2
  have hown12 := own_below hown hb2
  have hb12 : Below w1.heap.size w1 w2 := ((Below.refl _ _).alloc (Nat.le_refl _) _).trans (hb2.mono (by simp))
  clear hown hown2 hb2
  go_wp2_with (at_builtin; refine wpList_append_src _ rfl (.tmp 9) (.tmp 11) _ _ rfl w1.heap.size 5 i0 _ 1 1 Tryd.underlying34 hi0 hz0 hz1 hz2 rfl _ _ _ rfl hown12 E.length _ (Src.ofReads _ Tryd.underlying34 hr2 (bvs_one _)) (by unfold maxLen; omega) (by omega) hb12.size ?_; intro v3 w3 hown3 hb3; rw [Nat.zero_add, List.nil_append] at hown3)
  have hb13 := hb12.trans hb3
  go_loopg [7, 8] n (fun g s5 s6 wr => ∃ k : Nat, Hid (k + g = n) ∧ k ≤ n ∧ s6 = .int .i64 (k : Int) ∧ wr.ownsRow w1.heap.size 5 1 s5 (E ++ epK ps k).length (bvs (E ++ epK ps k)) ∧ Below w1.heap.size w1 wr)
  case atStart => exact ⟨0, by show _ = _; omega, by omega, rfl, by rw [epK_zero, List.append_nil]; exact hown3, hb13⟩
  case round =>
    obtain ⟨k, HK, hk, rfl, hownk, hbel⟩ := hrel
    have hlen : (E ++ epK ps k).length ≤ 45000 := by have := HLE.out k; rw [List.length_append]; omega
    have hsz := hbel.size
    by_cases hlt : k < n
    · obtain ⟨ad, p, rfl, _, hpk, hc, hrp, _⟩ := (hr1.below hbel).at_ hlt
      have hpn := HPN.out p (List.mem_of_getElem? hpk)
      have HS : Hid (E ++ epK ps (k + 1) = (E ++ epK ps k) ++ encBytes p.l) := by show _ = _; rw [epK_succ ps k p hpk, List.append_assoc]
      have HEL := Lib.hid (encBytes_le p.l 2000 (HPL.out p (List.mem_of_getElem? hpk)) (by omega))
      have HPL2 := Lib.hid hrp.bytes_len
      clear hpk
      generalize E ++ epK ps k = L at *
      go_wp2_with (refine wpList_valueW (o := ⟨some 24, _, _, _, _, _⟩) rfl _ (by exact exec_string_of _ _ _ _ _ rfl Tryd.underlying34 Tryd.underlying5 Tryd.underlying9 rfl hrp) ?_)
      refine (refBytes_any ⟨p.l.toArray⟩ wr (by show p.l.toArray.size ≤ _; rw [List.size_toArray, HPL2.out]; omega)).mono ?_
      rintro e w4 ⟨v4, rfl, hown4, hb4⟩
      rw [show (ByteArray.mk p.l.toArray).data.toList = p.l from rfl] at hown4
      obtain ⟨A4, c4, rfl, hc4, _, hr4⟩ := own_form hown4
      have hownk4 := own_below hownk hb4
      have hb4' := hbel.trans (hb4.mono hsz)
      have hel := HEL.out
      generalize encBytes p.l = E4 at *
      clear hown4 hownk
      go_wp2_with (at_builtin; refine wpList_append_src _ rfl (.tmp 19) (.tmp 25) _ _ rfl w1.heap.size 5 i0 _ 1 1 Tryd.underlying34 hi0 hz0 hz1 hz2 rfl _ _ _ rfl hownk4 E4.length _ (Src.ofReads _ Tryd.underlying34 hr4 (bvs_one _)) (by unfold maxLen; omega) (by omega) hb4'.size ?_; intro v5 w5 hown5 hb5)
      go_roundg (gk - 1)
      case measure => have := HK.out; omega
      case rel =>
        refine ⟨k + 1, by have := HK.out; show _ = _; omega, by omega, by go_num, ?_, hb4'.trans hb5⟩
        rw [HS.out, bvs_append, List.length_append]
        exact hown5
    · have HKN : Hid (k = n) := by show _ = _; omega
      rw [HKN.out, epK_all ps n HLN.out] at hownk hlen
      have hownk := own_len hownk List.length_append
      rw [List.length_append] at hlen
      obtain ⟨A5, c5, rfl, hc5, _, hr5⟩ := own_form hownk
      have hrow5 := hrow1.below hbel (by omega)
      have hb5 := hb1.trans (hbel.mono hb1.size)
      go_wp2_with fail
      refine (refMac_any Ak A5 ck c5 key _ nk _ wr (hrk.on hb5) hck (by omega) hr5 hc5 (by omega)).mono ?_
      rintro e w6 ⟨rfl, hb6⟩
      rw [← HD.out]
      have hrow6 := hrow5.on hb6
      have hb6' := hb5.trans (hb6.mono hb5.size)
      go_wp2_with (with_reducible refine wpList_store_all (o := ⟨none, _, _, _, _, _⟩) rfl _ _ _ rfl w.heap.size rfl _ _ hrow6 (bvs D) rfl (bvs_one _) (b16_zeros _ HDL.out) (b16_size _ HDL.out) ?_; intro wz hrowz hgz)
      have hload := run_loadVar_at (P := Tryd.prog) wz 23 ⟨w.heap.size, 0, none⟩ (bvs D) hrowz.cells _ Tryd.underlying23 rfl (b16_size _ HDL.out)
      exact bodyPost_ret (results_cell1 Tryd.results28 _ _ _ _ rfl hload) rfl ⟨rfl, below_kept hb6' hgz hb6'.size (by rintro k hk; cases hk; exact Nat.le_refl _)⟩
theorem derive_any (Ak : Option Addr) (ck : Nat) (key : List UInt8) (nk : Nat) (s : ByteArray) (A : Option Addr) (c : Nat) (ps : List Part) (n : Nat) (w : World) (hK : Consts w) (hrk : Reads w w.heap.size 1 Ak nk (bvs key)) (hck : nk ≤ ck) (hnk : nk ≤ 300) (hs : s.size ≤ 300)
    (hr : ReadsP w w.heap.size A n ps) (hn : n ≤ 20) (hp : ∀ p ∈ ps, p.n ≤ 300) :
    Calls Tryd.prog 13 #[.slice Ak nk ck, .string s, .slice A n c] w (GivesV (.agg (bvs (drv key s.data.toList ps)).toArray) w) :=
  derive_big Ak ck key nk s A c ps n w hK hrk hck hnk hs hr hn fun p h => Nat.le_trans (hp p h) (by omega)
theorem refDerive_any (Ak : Option Addr) (ck : Nat) (key : List UInt8) (nk : Nat) (s : ByteArray) (A : Option Addr) (c : Nat) (ps : List Part) (n : Nat) (w : World) (hrk : Reads w w.heap.size 1 Ak nk (bvs key)) (hck : nk ≤ ck) (hnk : nk ≤ 300) (hs : s.size ≤ 300)
    (hr : ReadsP w w.heap.size A n ps) (hn : n ≤ 20) (hp : ∀ p ∈ ps, p.n ≤ 300) :
    Calls Tryd.prog 28 #[.slice Ak nk ck, .string s, .slice A n c] w (GivesV (.agg (bvs (drv key s.data.toList ps)).toArray) w) :=
  refDerive_big Ak ck key nk s A c ps n w hrk hck hnk hs hr hn fun p h => Nat.le_trans (hp p h) (by omega)
end Go.Proofs.YtdgflobdnkopbaaDoor
