/-
  The law file's own examples hold: its function sanity returns true. A contract by a walk. Condition: the table of constants as laid.
-/
import Derived.Test.YtoghjdcfbbhjnaaDoorStream
import Derived.Lib.SlBytesConst
namespace Go.Proofs.YtoghjdcfbbhjnaaDoor
open Go.RowKit

theorem row4 {W : World} {g : Nat} {e : TypeId} {l : List UInt8} {a b c d : UInt8} (h : Row W g e (bvs l)) (hl : l.take 4 = [a, b, c, d]) :
    W.cell? ⟨g, 0, none⟩ = some (bv a) ∧ W.cell? ⟨g, 1, none⟩ = some (bv b) ∧ W.cell? ⟨g, 2, none⟩ = some (bv c) ∧ W.cell? ⟨g, 3, none⟩ = some (bv d) := by
  have e : l = a :: b :: c :: d :: l.drop 4 := by rw [← List.take_append_drop 4 l, hl]; rfl
  rw [e] at h
  exact ⟨h.cell rfl, h.cell rfl, h.cell rfl, h.cell rfl⟩
theorem reads_none (W : World) (B : Nat) : Reads W B 1 none 0 (bvs []) := ⟨rfl, fun h => absurd h (by omega)⟩
/-- A literal of bytes, just made. -/
theorem reads_litS (W : World) (cs : Array Value) (t : TypeId) (fr : Nat × Nat) (l : List UInt8) (h : cs.toList = bvs l) (g : Nat) (hg : g = W.heap.size) : Reads (W.alloc (.cells cs t fr)) (W.alloc (.cells cs t fr)).heap.size 1 (some ⟨g, 0, none⟩) l.length (bvs l) := by
  subst hg
  refine ⟨by rw [bvs_length, Nat.mul_one], fun _ => ⟨_, rfl, by simp, ?_⟩⟩
  rw [← h]
  exact World.news_of_block (Go.heap_alloc_new W _)

set_option maxRecDepth 100000 in
set_option maxHeartbeats 4000000 in
theorem sanity_any (w : World) (hK : Consts w) : Calls Tryd.prog 9 #[] w fun e w' => e = .returned (.bool true) ∧ Below w.heap.size w w' := by
  have HE := Lib.hid sha_empty4
  have HA := Lib.hid sha_abc4
  have HEL := Lib.hid (sha_len [])
  have HAL := Lib.hid (sha_len [97, 98, 99])
  have hcE := fun W hk => Lib.hid (sum_any none 0 [] 0 W hk (reads_none W _) (Nat.le_refl _) (by omega))
  have hcA := fun A c W hk hr hc => Lib.hid (sum_any A c [97, 98, 99] 3 W hk hr hc (by omega))
  generalize sha [] = hE at *
  generalize sha [97, 98, 99] = hA at *
  go_enter Tryd.func9, Tryd.ntmps9
  go_wp2_with fail
  refine (hcE w hK).out.mono ?_
  rintro e w1 ⟨rfl, hb1⟩
  have kc := fun (w : World) (C : Array Value) (n c : Nat) => Lib.run_convert_bytes_const (P := Tryd.prog) w 22 5 C n c Tryd.underlying22 Tryd.underlying5
  go_wp2_with (first
    | (with_reducible refine wpList_alloc_row (o := ⟨some 1, _, _, _, _, _⟩) rfl _ rfl zeros32 zero_b32 ?_; intro w2 hrow2 hs2 hg2)
    | (with_reducible refine wpList_at ⟨none, .store 24 _ _, _, _, _, _⟩ ?_; refine wpList_store_all rfl _ _ _ rfl w1.heap.size rfl _ _ hrow2 (bvs hE) rfl (bvs_one _) (b32_zeros _ HEL.out) (b32_size _ HEL.out) ?_; intro w3 hrow3 hg3))
  have hb3 : Below w.heap.size w w3 := below_kept (below_kept hb1 hg2 hb1.size (by simp)) hg3 (by have := hb1.size; omega) (by rintro k hk; cases hk; exact hb1.size)
  clear hrow2 hg2 hg3
  have hrl := reads_litS w3 #[.int .u8 97, .int .u8 98, .int .u8 99] 5 (3, 4) [97, 98, 99] rfl _ rfl
  have hb4 : Below w.heap.size w (w3.alloc (.cells #[.int .u8 97, .int .u8 98, .int .u8 99] 5 (3, 4))) := hb3.alloc hb3.size _
  refine (hcA _ _ _ (hK.on hb4) hrl (Nat.le_refl _)).out.mono ?_
  rintro e w5 ⟨rfl, hb5⟩
  have hb35 : Below w3.heap.size w3 w5 := ((Below.refl _ _).alloc (Nat.le_refl _) _).trans (hb5.mono (by simp))
  have hrowE := hrow3.on hb35
  have hb5' := hb3.trans (hb35.mono hb3.size)
  clear hb5 hrow3
  go_wp2_with (first
    | (with_reducible refine wpList_alloc_row (o := ⟨some 2, _, _, _, _, _⟩) rfl _ rfl zeros32 zero_b32 ?_; intro w6 hrow6 hs6 hg6)
    | ((with_reducible refine wpList_at ⟨none, .store 24 _ _, _, _, _, _⟩ ?_); refine wpList_store_all rfl _ _ _ rfl w5.heap.size rfl _ _ hrow6 (bvs hA) rfl (bvs_one _) (b32_zeros _ HAL.out) (b32_size _ HAL.out) ?_; intro w7 hrow7 hg7; have hw15 := hrowE.lt; have hrE7 := (hrowE.kept hg6 (by simp)).kept hg7 (by simp; omega); have e0 : w7.cell? ⟨w1.heap.size, 0, none⟩ = some (.int .u8 227) := (row4 hrE7 HE.out).1; have e1 : w7.cell? ⟨w1.heap.size, 1, none⟩ = some (.int .u8 176) := (row4 hrE7 HE.out).2.1; have e2 : w7.cell? ⟨w1.heap.size, 2, none⟩ = some (.int .u8 196) := (row4 hrE7 HE.out).2.2.1; have e3 : w7.cell? ⟨w1.heap.size, 3, none⟩ = some (.int .u8 66) := (row4 hrE7 HE.out).2.2.2; have d0 : w7.cell? ⟨w5.heap.size, 0, none⟩ = some (.int .u8 186) := (row4 hrow7 HA.out).1; have d1 : w7.cell? ⟨w5.heap.size, 1, none⟩ = some (.int .u8 120) := (row4 hrow7 HA.out).2.1; have d2 : w7.cell? ⟨w5.heap.size, 2, none⟩ = some (.int .u8 22) := (row4 hrow7 HA.out).2.2.1; have d3 : w7.cell? ⟨w5.heap.size, 3, none⟩ = some (.int .u8 191) := (row4 hrow7 HA.out).2.2.2))
  have hw15 := hrowE.lt
  have hb7 : Below w.heap.size w w7 := below_kept (below_kept hb5' hg6 hb5'.size (by simp)) hg7 (by have := hb5'.size; omega) (by rintro k hk; cases hk; exact hb5'.size)
  refine (stream_any none 0 [] 0 40 w7 (hK.on hb7) (reads_none w7 _) (Nat.le_refl _) (by omega) (by omega) (by omega)).mono ?_
  rintro e w8 ⟨v8, rfl, hown8, hb8⟩
  have hown8 := own_len hown8 (stream_len [] _)
  obtain ⟨A8, c8, rfl, hc8, _, _⟩ := own_form hown8
  go_wp2_with fail
  go_ret
  exact ⟨rfl, hb7.trans (hb8.mono hb7.size)⟩
end Go.Proofs.YtoghjdcfbbhjnaaDoor
