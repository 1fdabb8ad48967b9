/-
  The law file's own examples hold: its function sanity returns true. A contract by a walk. No condition.
-/
import Derived.Test.YtooiedomcdmefaaRefDigs
namespace Go.Proofs.Ytooiedomcdmefaa
open Go.RowKit

/-- A literal of bytes, just made. -/
theorem reads_lit (W : World) (cs : Array Value) (t : TypeId) (l : List UInt8) (h : cs.toList = bvs l) (g : Nat) (hg : g = W.heap.size) : Reads (W.alloc (.cells cs t)) (W.alloc (.cells cs t)).heap.size 1 (some ⟨g, 0, none⟩) l.length (bvs l) := by
  subst hg
  refine ⟨by rw [bvs_length, Nat.mul_one], fun _ => ⟨_, rfl, by simp, ?_⟩⟩
  rw [← h]
  exact World.news_of_block (Go.heap_alloc_new W _)
theorem reads_litI (W : World) (cs : Array Value) (t : TypeId) (l : List Int) (h : cs.toList = ivs l) (g : Nat) (hg : g = W.heap.size) : Reads (W.alloc (.cells cs t)) (W.alloc (.cells cs t)).heap.size 1 (some ⟨g, 0, none⟩) l.length (ivs l) := by
  subst hg
  refine ⟨by rw [ivs_length, Nat.mul_one], fun _ => ⟨_, rfl, by simp, ?_⟩⟩
  rw [← h]
  exact World.news_of_block (Go.heap_alloc_new W _)

theorem lit1 : getInt [128, 1, 9] = (64, 2, 0) := by decide +kernel
theorem lit2 : getInt [128] = (0, 0, 6) := by decide +kernel
theorem lit3 : getInt [128, 0] = (0, 0, 7) := by decide +kernel
theorem lit4 : getBytes [4, 97, 98, 7] = ([97, 98], 3, 0) := by decide +kernel
theorem lit5 : getInts [4, 2, 1] = ([1, -1], 3, 0) := by decide +kernel

def D16 : List UInt8 := [1, 2, 0, 0, 0, 0, 0, 0, 0, 0, 0, 0, 0, 0, 0, 0]
theorem len16 : Len16 [D16] := by intro d hd; simp at hd; rw [hd]; rfl
theorem lit6 : encDigs [D16] = 2 :: D16 := by
  unfold encDigs encInt
  rw [show zz (([D16] : List (List UInt8)).length : Int) = 2 from rfl, leb_small (by omega)]
  rfl
theorem lit7 : getDigs (2 :: D16) = ([D16], 17, 0) := by decide +kernel
theorem lit8 : encInt (-64) = [127] := by
  unfold encInt
  rw [show zz (-64) = 127 from rfl, leb_small (by omega)]
  rfl
theorem lit9 : encBytes [97, 98] = [4, 97, 98] := by
  unfold encBytes encInt
  rw [show zz (([97, 98] : List UInt8).length : Int) = 4 from rfl, leb_small (by omega)]
  rfl
theorem lit10 : encInts [1, -1] = [4, 2, 1] := by
  unfold encInts encAll
  simp only [List.flatMap_cons, List.flatMap_nil]
  unfold encInt
  rw [show zz (([1, -1] : List Int).length : Int) = 4 from rfl, show zz 1 = 2 from rfl, show zz (-1) = 1 from rfl, leb_small (by omega), leb_small (by omega), leb_small (by omega)]
  rfl
theorem reads_litD (W : World) (cs : Array Value) (t : TypeId) (h : cs.toList = bvs D16) (g : Nat) (hg : g = W.heap.size) : Reads (W.alloc (.cells cs t)) (W.alloc (.cells cs t)).heap.size 16 (some ⟨g, 0, none⟩) 1 (bvs ([D16] : List (List UInt8)).flatten) := by
  subst hg
  refine ⟨rfl, fun _ => ⟨_, rfl, by simp, ?_⟩⟩
  rw [show ([D16] : List (List UInt8)).flatten = D16 from rfl, ← h]
  exact World.news_of_block (Go.heap_alloc_new W _)

set_option maxRecDepth 100000 in
set_option maxHeartbeats 8000000 in
theorem sanity_any (w : World) : Calls Try.prog 11 #[] w fun e w' => e = .returned (.bool true) ∧ Below w.heap.size w w' := by
  go_enter Try.func11, Try.ntmps11
  go_wp2_with fail
  refine (getInt_any _ _ [128, 1, 9] _ _ _ (reads_lit _ _ _ _ rfl _ (by simp)) (by decide)).mono ?_
  rw [lit1]
  rintro e w1 ⟨rfl, rfl⟩
  go_wp2_with fail
  refine (getInt_any _ _ [128] _ _ _ (reads_lit _ _ _ _ rfl _ (by simp)) (by decide)).mono ?_
  rw [lit2]
  rintro e w1 ⟨rfl, rfl⟩
  go_wp2_with fail
  refine (getInt_any _ _ [128, 0] _ _ _ (reads_lit _ _ _ _ rfl _ (by simp)) (by decide)).mono ?_
  rw [lit3]
  rintro e w1 ⟨rfl, rfl⟩
  go_wp2_with fail
  refine (getBytes_any _ _ [4, 97, 98, 7] _ _ _ (reads_lit _ _ _ _ rfl _ (by simp)) (by decide) (by decide)).mono ?_
  rw [lit4]
  rintro e w1 ⟨rfl, rfl⟩
  go_wp2_with fail
  refine (getInts_any _ _ [4, 2, 1] _ _ (reads_lit _ _ _ _ rfl _ (by simp)) (by decide) (by decide)).mono ?_
  rw [lit5]
  rintro e w5 ⟨v5, rfl, hown5, hbel5⟩
  obtain ⟨A5, c5, rfl, _, _, hr5⟩ := own_form hown5
  have hb5 : Below w.heap.size w w5 := Below.trans (by go_grown) (hbel5.mono (by simp; omega))
  clear hown5 hbel5
  have h05 : w.heap.size ≤ w5.heap.size := hb5.size
  go_wp2_with fail
  obtain ⟨W5, hW5⟩ : ∃ W5, W5 = w5.alloc (.cells #[.int .u8 1, .int .u8 2, .int .u8 0, .int .u8 0, .int .u8 0, .int .u8 0, .int .u8 0, .int .u8 0, .int .u8 0, .int .u8 0, .int .u8 0, .int .u8 0, .int .u8 0, .int .u8 0, .int .u8 0, .int .u8 0] 51) := ⟨_, rfl⟩
  have hz5 : W5.heap.size = w5.heap.size + 1 := by rw [hW5]; simp
  have hR5 : Reads W5 W5.heap.size 1 A5 2 (ivs [1, -1]) := by rw [hW5]; exact (hr5.alloc (Nat.le_refl _) _).more (by simp)
  have hD5 : W5.heap[w5.heap.size]? = some (.cells (bvs D16).toArray 51 (0, 0)) := by rw [hW5]; exact Go.heap_alloc_new _ _
  have hbW5 : Below w.heap.size w W5 := by rw [hW5]; exact hb5.alloc h05 _
  rw [← hW5]
  have HD5 := Lib.hid hD5
  clear hr5 hW5 hD5
  refine (digests_any _ _ [D16] _ rfl _ len16 (reads_litD _ _ _ rfl _ (by omega)) (by decide)).mono ?_
  rw [lit6]
  rintro e w6 ⟨v6, rfl, hown6, hbel6⟩
  obtain ⟨A6, c6, rfl, hc6, _, hr6⟩ := own_form hown6
  have hb6 : Below W5.heap.size W5 w6 := Below.trans (by go_grown) (hbel6.mono (by simp))
  clear hown6 hbel6
  go_wp2_with fail
  refine (getDigests_any _ _ (2 :: D16) _ _ hr6 (by decide) hc6).mono ?_
  rw [lit7]
  rintro e w7 ⟨v7, rfl, hown7, hbel7⟩
  obtain ⟨A7, c7, rfl, _, _, hr7⟩ := own_form hown7
  have hb7 : Below W5.heap.size W5 w7 := hb6.trans (hbel7.mono hb6.size)
  clear hown7 hbel7 hr6 hb6
  go_wp2_with fail
  refine (int_any (-64) _ (by decide) (by decide)).mono ?_
  rw [lit8]
  rintro e w8 ⟨v8, rfl, hown8, hbel8⟩
  obtain ⟨A8, c8, rfl, _, _, hr8⟩ := own_form hown8
  have hb8 : Below w7.heap.size w7 w8 := hbel8
  clear hown8 hbel8
  go_wp2_with fail
  refine (same_any _ _ _ _ [127] [127] _ _ _ _ _ (hr8.alloc (Nat.le_refl _) _) (reads_lit w8 _ _ [127] rfl _ rfl) (by decide) (by decide)).mono ?_
  rw [show (([127] : List UInt8) == [127]) = true from by decide]
  rintro e w9 ⟨rfl, q9, hw9⟩
  have hb9 : Below w7.heap.size w7 w9 := by rw [hw9]; exact below_drewN _ (hb8.alloc hb8.size _)
  clear hw9 hr8 hb8
  have hc9 := hb7.trans (hb9.mono hb7.size)
  go_wp2_with fail
  refine (sameInts_any _ _ _ _ [1, -1] [1, -1] _ _ _ W5.heap.size _ ((hR5.below hc9).alloc hc9.size _) (reads_litI w9 _ _ [1, -1] rfl _ rfl) (by decide) (by decide)).mono ?_
  rw [show (([1, -1] : List Int) == [1, -1]) = true from by decide]
  rintro e w10 ⟨rfl, q10, hw10⟩
  have hb10 : Below w7.heap.size w7 w10 := by rw [hw10]; exact below_drewN _ (hb9.alloc hb9.size _)
  clear hw10 hb9 hc9 hR5
  go_wp2_with fail
  refine (bytes_any ⟨#[97, 98]⟩ _ (by decide)).mono ?_
  rw [show encBytes (⟨#[97, 98]⟩ : ByteArray).data.toList = [4, 97, 98] from lit9]
  rintro e w11 ⟨v11, rfl, hown11, hbel11⟩
  obtain ⟨A11, c11, rfl, _, _, hr11⟩ := own_form hown11
  have hb11 : Below w7.heap.size w7 w11 := hb10.trans (hbel11.mono hb10.size)
  clear hown11 hbel11 hb10
  go_wp2_with fail
  refine (same_any _ _ _ _ [4, 97, 98] [4, 97, 98] _ _ _ _ _ (hr11.alloc (Nat.le_refl _) _) (reads_lit w11 _ _ [4, 97, 98] rfl _ rfl) (by decide) (by decide)).mono ?_
  rw [show (([4, 97, 98] : List UInt8) == [4, 97, 98]) = true from by decide]
  rintro e w12 ⟨rfl, q12, hw12⟩
  have hb12 : Below w7.heap.size w7 w12 := by rw [hw12]; exact below_drewN _ (hb11.alloc hb11.size _)
  clear hw12 hr11 hb11
  go_wp2_with fail
  refine (ints_any _ _ [1, -1] _ rfl _ (by intro x hx; simp at hx; rcases hx with rfl | rfl <;> exact ⟨by decide, by decide⟩) (reads_litI w12 _ _ [1, -1] rfl _ rfl) (by decide)).mono ?_
  rw [lit10]
  rintro e w13 ⟨v13, rfl, hown13, hbel13⟩
  obtain ⟨A13, c13, rfl, _, _, hr13⟩ := own_form hown13
  have hb13 : Below w7.heap.size w7 w13 := (hb12.alloc hb12.size _).trans (hbel13.mono (by have := hb12.size; simp; omega))
  clear hown13 hbel13 hb12
  go_wp2_with fail
  refine (same_any _ _ _ _ [4, 2, 1] [4, 2, 1] _ _ _ _ _ (hr13.alloc (Nat.le_refl _) _) (reads_lit w13 _ _ [4, 2, 1] rfl _ rfl) (by decide) (by decide)).mono ?_
  rw [show (([4, 2, 1] : List UInt8) == [4, 2, 1]) = true from by decide]
  rintro e w14 ⟨rfl, q14, hw14⟩
  have hb14 : Below w7.heap.size w7 w14 := by rw [hw14]; exact below_drewN _ (hb13.alloc hb13.size _)
  clear hw14 hr13 hb13
  have hc14 := hb7.trans (hb14.mono hb7.size)
  have hcells : ∀ j u, (bvs D16)[j]? = some u → w14.cell? ((⟨w5.heap.size, 0, none⟩ : Addr).add j) = some u := fun j u hu =>
    World.news_of_block (show w14.heap[w5.heap.size]? = some (.cells (bvs D16).toArray 51 (0, 0)) from (hc14.block _ (by omega)).trans HD5.out) j u (by simpa using hu)
  have HCL := Lib.hid hcells
  clear hcells
  have hr7' := hr7.below hb14
  have hs14 := hb14.size
  have e0 : w14.cell? ⟨w5.heap.size, 0, none⟩ = some (.int .u8 1) := HCL.out 0 _ rfl
  have e1 : w14.cell? ⟨w5.heap.size, 1, none⟩ = some (.int .u8 2) := HCL.out 1 _ rfl
  have e2 : w14.cell? ⟨w5.heap.size, 2, none⟩ = some (.int .u8 0) := HCL.out 2 _ rfl
  have e3 : w14.cell? ⟨w5.heap.size, 3, none⟩ = some (.int .u8 0) := HCL.out 3 _ rfl
  have e4 : w14.cell? ⟨w5.heap.size, 4, none⟩ = some (.int .u8 0) := HCL.out 4 _ rfl
  have e5 : w14.cell? ⟨w5.heap.size, 5, none⟩ = some (.int .u8 0) := HCL.out 5 _ rfl
  have e6 : w14.cell? ⟨w5.heap.size, 6, none⟩ = some (.int .u8 0) := HCL.out 6 _ rfl
  have e7 : w14.cell? ⟨w5.heap.size, 7, none⟩ = some (.int .u8 0) := HCL.out 7 _ rfl
  have e8 : w14.cell? ⟨w5.heap.size, 8, none⟩ = some (.int .u8 0) := HCL.out 8 _ rfl
  have e9 : w14.cell? ⟨w5.heap.size, 9, none⟩ = some (.int .u8 0) := HCL.out 9 _ rfl
  have e10 : w14.cell? ⟨w5.heap.size, 10, none⟩ = some (.int .u8 0) := HCL.out 10 _ rfl
  have e11 : w14.cell? ⟨w5.heap.size, 11, none⟩ = some (.int .u8 0) := HCL.out 11 _ rfl
  have e12 : w14.cell? ⟨w5.heap.size, 12, none⟩ = some (.int .u8 0) := HCL.out 12 _ rfl
  have e13 : w14.cell? ⟨w5.heap.size, 13, none⟩ = some (.int .u8 0) := HCL.out 13 _ rfl
  have e14 : w14.cell? ⟨w5.heap.size, 14, none⟩ = some (.int .u8 0) := HCL.out 14 _ rfl
  have e15 : w14.cell? ⟨w5.heap.size, 15, none⟩ = some (.int .u8 0) := HCL.out 15 _ rfl
  go_wp2_with fail
  clear e0 e1 e2 e3 e4 e5 e6 e7 e8 e9 e10 e11 e12 e13 e14 e15
  refine (sameDigests_any _ _ _ _ [D16] [D16] _ _ _ w7.heap.size _ (hr7'.alloc hs14 _) (reads_litD w14 _ _ rfl _ rfl) len16 len16 (by decide) (by decide)).mono ?_
  rw [show (([D16] : List (List UInt8)) == [D16]) = true from by decide]
  rintro e w15 ⟨rfl, q15, hw15⟩
  have hb15 : Below w7.heap.size w7 w15 := by rw [hw15]; exact below_drewN _ (hb14.alloc hb14.size _)
  have hfin : Below w.heap.size w w15 := hbW5.trans ((hb7.trans (hb15.mono hb7.size)).mono hbW5.size)
  clear hw15
  go_wp2_with fail
  go_ret
  exact ⟨rfl, hfin⟩
end Go.Proofs.Ytooiedomcdmefaa
