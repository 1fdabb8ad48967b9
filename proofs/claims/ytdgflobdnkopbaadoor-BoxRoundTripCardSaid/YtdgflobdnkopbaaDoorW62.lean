/-
  BoxRoundTrip's walk. Condition: the table of constants as laid.
-/
import Derived.Test.YtdgflobdnkopbaaDoorBxE
namespace Go.Proofs.YtdgflobdnkopbaaDoor
open Go.RowKit

set_option maxRecDepth 100000 in
set_option maxHeartbeats 4000000 in
theorem walk62 (key : List UInt8) (hkey : key.length = 16) (n : Int) (hn1 : -9223372036854775808 ≤ n) (hn2 : n ≤ 9223372036854775807) (s : ByteArray) (hb : s.size ≤ 140737488351232) (w : World) (hCo : Consts w) :
    Calls Tryd.prog 4 #[.agg (bvs key).toArray, .int .i64 n, .string s] w (TellsB true w) := by
  have HK := Lib.hid hkey
  have HSA := fun W hW => Lib.hid (sanity6_any W hW)
  by_cases hs : s.size ≤ 300
  · obtain ⟨C, T, hC, hT, hCs, hTl, HSE⟩ := seal_as key hkey n hn1 hn2 s (by omega)
    have HOP := fun W hW => Lib.hid (open_own key hkey n hn1 hn2 s C (by omega) hC W hW)
    rw [← hT] at HOP
    have HT := Lib.hid hTl
    have HZ := Lib.hid (zbox_len n C T hTl)
    have HB := Lib.hid (box_size n C T hTl)
    clear hC hT hTl hkey
    go_enter Tryd.func4, Tryd.ntmps4
    go_wp2_with (with_reducible refine wpList_box_row (o := ⟨some 3, _, _, _, _, _⟩) rfl _ _ rfl (bvs key) rfl ?_; intro w1 ky_1 s1 g1; have k1 : Below w.heap.size w w1 := grown_below g1 (Nat.le_refl _) (by simp); have B1 : Below w.heap.size w w1 := k1; have K_1 := hCo.on k1)
    refine ((HSA _ K_1).out).mono ?_
    rintro e w2 ⟨rfl, h2⟩
    have B2 := B1.trans (h2.mono B1.size)
    have K_2 := K_1.on h2
    have ky_2 := ky_1.on h2
    clear K_1 ky_1
    go_wp2_with (refine wpList_valueG (o := ⟨some 16, _, _, _, _, _⟩) rfl _ (by exact exec_load16 _ _ rfl _ rfl key HK.out ky_2.cells) ?_)
    refine ((HSE _ K_2).out).mono ?_
    rintro e w3 ⟨rfl, h3⟩
    have B3 := B2.trans (h3.mono B2.size)
    have K_3 := K_2.on h3
    have ky_3 := ky_2.on h3
    clear K_2 ky_2
    go_wp2_with (first
      | (with_reducible refine wpList_alloc_row (o := ⟨some 8, _, _, _, _, _⟩) rfl _ rfl zbox zero_box ?_; intro w4 r4 s4 g4)
      | (with_reducible refine wpList_at ⟨none, .store _ (.tmp 8) _, _, _, _, _⟩ ?_; refine wpList_store_all rfl _ _ _ rfl w3.heap.size rfl _ _ r4 (boxCs n C T) rfl (box_one _ _ _) HZ.out HB.out ?_; intro w5 bx_5 g5; have z5ky := ky_3.lt; have zz5 := B3.size; have k5 : Below w3.heap.size w3 w5 := below_kept (grown_below g4 (Nat.le_refl _) (by simp)) g5 (Nat.le_of_lt s4) (by rintro q hq; cases hq; exact Nat.le_refl _); have B5 := B3.trans (k5.mono B3.size); have K_5 := K_3.on k5; have ky_5 := ky_3.on k5; clear K_3 ky_3; clear r4 g4 g5)
      | (refine wpList_valueG (o := ⟨some 21, _, _, _, _, _⟩) rfl _ (by exact exec_load16 _ _ rfl _ rfl key HK.out ky_5.cells) ?_)
      | (refine wpList_valueG (o := ⟨some 22, _, _, _, _, _⟩) rfl _ (by exact exec_load_box _ _ rfl _ rfl n C T HT.out bx_5.cells) ?_))
    refine ((HOP _ K_5).out).mono ?_
    rintro e w6 ⟨rfl, h6⟩
    have B6 := B5.trans (h6.mono B5.size)
    have K_6 := K_5.on h6
    have ky_6 := ky_5.on h6
    have bx_6 := bx_5.on h6
    clear K_5 ky_5 bx_5
    go_wp2_with (first
      | (refine wpList_valueG (o := ⟨some 38, _, _, _, _, _⟩) rfl _ (by exact exec_load1 _ 3 _ rfl ⟨w3.heap.size, 0, none⟩ rfl _ (bx_6.cell (j := 0) rfl) _ Tryd.underlying3 rfl) ?_)
      | (refine wpList_valueG (o := ⟨some 44, _, _, _, _, _⟩) rfl _ (by exact exec_load1 _ 9 _ rfl ⟨w3.heap.size, 1, none⟩ rfl _ (bx_6.cell (j := 1) rfl) _ Tryd.underlying9 rfl) ?_))
    go_ret
    exact ⟨rfl, B6⟩
  · clear hkey
    go_enter Tryd.func4, Tryd.ntmps4
    go_wp2_with (with_reducible refine wpList_box_row (o := ⟨some 3, _, _, _, _, _⟩) rfl _ _ rfl (bvs key) rfl ?_; intro w1 ky_1 s1 g1; have k1 : Below w.heap.size w w1 := grown_below g1 (Nat.le_refl _) (by simp); have B1 : Below w.heap.size w w1 := k1; have K_1 := hCo.on k1)
    refine ((HSA _ K_1).out).mono ?_
    rintro e w2 ⟨rfl, h2⟩
    have B2 := B1.trans (h2.mono B1.size)
    have K_2 := K_1.on h2
    have ky_2 := ky_1.on h2
    clear K_1 ky_1
    go_wp2_with fail
    go_ret
    exact ⟨rfl, B2⟩
end Go.Proofs.YtdgflobdnkopbaaDoor
