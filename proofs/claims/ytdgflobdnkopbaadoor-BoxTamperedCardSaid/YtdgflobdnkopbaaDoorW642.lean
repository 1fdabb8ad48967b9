/-
  BoxTampered's walk: a changed cipher text. Condition: the table of constants as laid.
-/
import Derived.Test.YtdgflobdnkopbaaDoorW641
namespace Go.Proofs.YtdgflobdnkopbaaDoor
open Go.RowKit

set_option maxRecDepth 100000 in
set_option maxHeartbeats 4000000 in
theorem walk64_empty (key : List UInt8) (hkey : key.length = 16) (n : Int) (hn1 : -9223372036854775808 ≤ n) (hn2 : n ≤ 9223372036854775807) (s : ByteArray) (a : Nat) (_ha : a ≤ 65535) (b : UInt8) (z : Nat) (hz : z ≤ 255) (_hs : s.size ≤ 300) (hb : b ≠ 0) (hzr : (z : Int) % 3 = 0) (hs0 : s.size = 0) (w : World) (hCo : Consts w) :
    Calls Tryd.prog 6 #[.agg (bvs key).toArray, .int .i64 n, .string s, .int .u16 (a : Int), .int .u8 (b.toNat : Int), .int .u8 (z : Int)] w (TellsB true w) := by
  have HK := Lib.hid hkey
  have HSA := fun W hW => Lib.hid (sanity6_any W hW)
  have h3 : decide (300 < (s.size : Int)) = false := decide_eq_false (by omega)
  have hb8 : b.toNat < 256 := b.toNat_lt
  have hbn : b.toNat ≠ 0 := fun h => hb (UInt8.toNat_inj.1 h)
  have h4 : ((b.toNat : Int) == 0) = false := by simpa using hbn
  obtain ⟨C, T, hC, hT, hCs, hTl, HSE⟩ := seal_as key hkey n hn1 hn2 s (by omega)
  have HT := Lib.hid hTl
  have HZ := Lib.hid (zbox_len n C T hTl)
  have HB := Lib.hid (box_size n C T hTl)
  have h5 : ((s.size : Int) == 0) = true := by rw [hs0]; rfl
  clear hkey hC hT hTl hb hbn hCs hs0
  go_enter Tryd.func6, Tryd.ntmps6
  go_wp2_with (with_reducible refine wpList_box_row (o := ⟨some 6, _, _, _, _, _⟩) rfl _ _ rfl (bvs key) rfl ?_; intro w1 ky_1 s1 g1; have k1 : Below w.heap.size w w1 := grown_below g1 (Nat.le_refl _) (by simp); have B1 : Below w.heap.size w w1 := k1; have K_1 := hCo.on k1)
  refine ((HSA _ K_1).out).mono ?_
  rintro e w2 ⟨rfl, h2⟩
  have B2 := B1.trans (h2.mono B1.size)
  have K_2 := K_1.on h2
  have ky_2 := ky_1.on h2
  clear K_1 ky_1
  go_wp2_with (refine wpList_valueG (o := ⟨some 32, _, _, _, _, _⟩) rfl _ (by exact exec_load16 _ _ rfl _ rfl key HK.out ky_2.cells) ?_)
  refine ((HSE _ K_2).out).mono ?_
  rintro e w3 ⟨rfl, h3⟩
  have B3 := B2.trans (h3.mono B2.size)
  have K_3 := K_2.on h3
  have ky_3 := ky_2.on h3
  clear K_2 ky_2
  go_wp2_with (first
    | (with_reducible refine wpList_alloc_row (o := ⟨some 14, _, _, _, _, _⟩) rfl _ rfl zbox zero_box ?_; intro w4 r4 s4 g4)
    | (with_reducible refine wpList_at ⟨none, .store _ (.tmp 14) _, _, _, _, _⟩ ?_; refine wpList_store_all rfl _ _ _ rfl w3.heap.size rfl _ _ r4 (boxCs n C T) rfl (box_one _ _ _) HZ.out HB.out ?_; intro w5 bx_5 g5; have z5ky := ky_3.lt; have zz5 := B3.size; have k5 : Below w3.heap.size w3 w5 := below_kept (grown_below g4 (Nat.le_refl _) (by simp)) g5 (Nat.le_of_lt s4) (by rintro q hq; cases hq; exact Nat.le_refl _); have B5 := B3.trans (k5.mono B3.size); have K_5 := K_3.on k5; have ky_5 := ky_3.on k5; clear K_3 ky_3; clear r4 g4 g5)
    | (refine wpList_valueG (o := ⟨some 36, _, _, _, _, _⟩) rfl _ (by exact exec_load_box _ _ rfl _ rfl n C T HT.out bx_5.cells) ?_)
    | (with_reducible refine wpList_alloc_row (o := ⟨some 15, _, _, _, _, _⟩) rfl _ rfl zbox zero_box ?_; intro w6 r6 s6 g6)
    | (with_reducible refine wpList_at ⟨none, .store _ (.tmp 15) _, _, _, _, _⟩ ?_; refine wpList_store_all rfl _ _ _ rfl w5.heap.size rfl _ _ r6 (boxCs n C T) rfl (box_one _ _ _) HZ.out HB.out ?_; intro w7 x_7 g7; have z7ky := ky_5.lt; have z7bx := bx_5.lt; have zz7 := B5.size; have k7 : Below w5.heap.size w5 w7 := below_kept (grown_below g6 (Nat.le_refl _) (by simp)) g7 (Nat.le_of_lt s6) (by rintro q hq; cases hq; exact Nat.le_refl _); have B7 := B5.trans (k7.mono B5.size); have K_7 := K_5.on k7; have ky_7 := ky_5.on k7; have bx_7 := bx_5.on k7; clear K_5 ky_5 bx_5; clear r6 g6 g7))
  go_ret
  exact ⟨rfl, B7⟩

set_option maxRecDepth 100000 in
set_option maxHeartbeats 4000000 in
theorem walk64_byte (key : List UInt8) (hkey : key.length = 16) (n : Int) (hn1 : -9223372036854775808 ≤ n) (hn2 : n ≤ 9223372036854775807) (s : ByteArray) (a : Nat) (ha : a ≤ 65535) (b : UInt8) (z : Nat) (hz : z ≤ 255) (hs : s.size ≤ 300) (hb : b ≠ 0) (hzr : (z : Int) % 3 = 0) (hs0 : 0 < s.size) (w : World) (hCo : Consts w) :
    Calls Tryd.prog 6 #[.agg (bvs key).toArray, .int .i64 n, .string s, .int .u16 (a : Int), .int .u8 (b.toNat : Int), .int .u8 (z : Int)] w (TellsB true w) := by
  have HK := Lib.hid hkey
  have HSA := fun W hW => Lib.hid (sanity6_any W hW)
  obtain ⟨i0, hi0, hz0, hz1, hz2⟩ := info_parts info_u8
  have h3 : decide (300 < (s.size : Int)) = false := decide_eq_false (by omega)
  have hb8 : b.toNat < 256 := b.toNat_lt
  have hbn : b.toNat ≠ 0 := fun h => hb (UInt8.toNat_inj.1 h)
  have h4 : ((b.toNat : Int) == 0) = false := by simpa using hbn
  obtain ⟨C, T, hC, hT, hCs, hTl, HSE⟩ := seal_as key hkey n hn1 hn2 s (by omega)
  have HT := Lib.hid hTl
  have HZ := Lib.hid (zbox_len n C T hTl)
  have HB := Lib.hid (box_size n C T hTl)
  have h5 : ((s.size : Int) == 0) = false := by simpa using (show ¬ s.size = 0 by omega)
  obtain ⟨r, hr⟩ : ∃ r : Nat, (a : Int) % (s.size : Int) = (r : Int) := ⟨a % s.size, by rw [Int.natCast_emod]⟩
  have hrl : r < s.size := by have := Int.emod_lt_of_pos (a : Int) (show (0 : Int) < (s.size : Int) by omega); omega
  have hrt : (a : Int).tmod (s.size : Int) = (r : Int) := by rw [Int.tmod_eq_emod_of_nonneg (by omega)]; exact hr
  have hCl : C.data.toList.length = s.size := by rw [← hCs]; simp
  obtain ⟨x0, hx0⟩ : ∃ x0, C.data.toList[r]? = some x0 := ⟨_, List.getElem?_eq_getElem (by omega)⟩
  obtain ⟨C2, hC2⟩ : ∃ C2 : ByteArray, C2 = ⟨(C.data.toList.set r (x0 ^^^ b)).toArray⟩ := ⟨_, rfl⟩
  have hC2l : C2.data.toList = C.data.toList.set r (x0 ^^^ b) := by rw [hC2]
  have hC2s : C2.size = s.size := by rw [hC2]; show (C.data.toList.set r (x0 ^^^ b)).toArray.size = _; rw [List.size_toArray, List.length_set, hCl]
  have HX0 := Lib.hid hx0
  have HRL := Lib.hid (show r < C.data.toList.length by omega)
  have HC2L := Lib.hid hC2l
  have HC2 := Lib.hid hC2
  have HCLN := Lib.hid hCl
  have HSET : Hid ((boxCs n C T).set 1 (.string C2) = boxCs n C2 T) := rfl
  have HJL : Hid (1 < (boxCs n C T).length) := by show _ < _; rw [box_len n C T hTl]; omega
  have hxor := u8_mask x0 b
  have HO1 := fun W hW => Lib.hid (open_any key hkey n hn1 hn2 C2 (show C2.size ≤ 30000 by omega) T hTl W hW)
  have HI := fun W => Lib.hid (int_any n W hn1 hn2)
  have hil := encInt_le n hn1 hn2
  have HBY := fun W => Lib.hid (bytes_any C2 W (Nat.le_trans (show C2.size ≤ 30000 by omega) (by omega)))
  have hbl := encBytes_lt C2 (show C2.size ≤ 30000 by omega)
  have HDE := Lib.hid (drv_auth key)
  have HAL := Lib.hid (authK_len key)
  have HTE := Lib.hid (btag_eq key n C2.data.toList)
  have HAG := Lib.hid (btag_len key n C2.data.toList)
  have HO : Hid ((btag key n C2.data.toList == T) = opens key n C2.data.toList T) := by
    show _ = _
    unfold opens
    rw [Bool.eq_iff_iff, beq_iff_eq, beq_iff_eq, eq_comm]
  have HE : Hid (openE key n C2.data.toList T = if opens key n C2.data.toList T then 0 else 8) := rfl
  generalize openS key n C2.data.toList T = os at *
  generalize openE key n C2.data.toList T = oe at *
  generalize opens key n C2.data.toList T = ob at *
  generalize btag key n C2.data.toList = AG at *
  generalize authK key = AK at *
  generalize encBytes C2.data.toList = EB at *
  generalize encInt n = E at *
  generalize x0 ^^^ b = xb at *
  clear hkey hC hT hTl hb hbn hx0 hC2 hC2l hC2s hCl
  go_enter Tryd.func6, Tryd.ntmps6
  go_wp2_with (with_reducible refine wpList_box_row (o := ⟨some 6, _, _, _, _, _⟩) rfl _ _ rfl (bvs key) rfl ?_; intro w1 ky_1 s1 g1; have k1 : Below w.heap.size w w1 := grown_below g1 (Nat.le_refl _) (by simp); have B1 : Below w.heap.size w w1 := k1; have K_1 := hCo.on k1)
  refine ((HSA _ K_1).out).mono ?_
  rintro e w2 ⟨rfl, h2⟩
  have B2 := B1.trans (h2.mono B1.size)
  have K_2 := K_1.on h2
  have ky_2 := ky_1.on h2
  clear K_1 ky_1
  go_wp2_with (refine wpList_valueG (o := ⟨some 32, _, _, _, _, _⟩) rfl _ (by exact exec_load16 _ _ rfl _ rfl key HK.out ky_2.cells) ?_)
  refine ((HSE _ K_2).out).mono ?_
  rintro e w3 ⟨rfl, h3⟩
  have B3 := B2.trans (h3.mono B2.size)
  have K_3 := K_2.on h3
  have ky_3 := ky_2.on h3
  clear K_2 ky_2
  go_wp2_with (first
    | (with_reducible refine wpList_alloc_row (o := ⟨some 14, _, _, _, _, _⟩) rfl _ rfl zbox zero_box ?_; intro w4 r4 s4 g4)
    | (with_reducible refine wpList_at ⟨none, .store _ (.tmp 14) _, _, _, _, _⟩ ?_; refine wpList_store_all rfl _ _ _ rfl w3.heap.size rfl _ _ r4 (boxCs n C T) rfl (box_one _ _ _) HZ.out HB.out ?_; intro w5 bx_5 g5; have z5ky := ky_3.lt; have zz5 := B3.size; have k5 : Below w3.heap.size w3 w5 := below_kept (grown_below g4 (Nat.le_refl _) (by simp)) g5 (Nat.le_of_lt s4) (by rintro q hq; cases hq; exact Nat.le_refl _); have B5 := B3.trans (k5.mono B3.size); have K_5 := K_3.on k5; have ky_5 := ky_3.on k5; clear K_3 ky_3; clear r4 g4 g5)
    | (refine wpList_valueG (o := ⟨some 36, _, _, _, _, _⟩) rfl _ (by exact exec_load_box _ _ rfl _ rfl n C T HT.out bx_5.cells) ?_)
    | (with_reducible refine wpList_alloc_row (o := ⟨some 15, _, _, _, _, _⟩) rfl _ rfl zbox zero_box ?_; intro w6 r6 s6 g6)
    | (with_reducible refine wpList_at ⟨none, .store _ (.tmp 15) _, _, _, _, _⟩ ?_; refine wpList_store_all rfl _ _ _ rfl w5.heap.size rfl _ _ r6 (boxCs n C T) rfl (box_one _ _ _) HZ.out HB.out ?_; intro w7 x_7 g7; have z7ky := ky_5.lt; have z7bx := bx_5.lt; have zz7 := B5.size; have k7 : Below w5.heap.size w5 w7 := below_kept (grown_below g6 (Nat.le_refl _) (by simp)) g7 (Nat.le_of_lt s6) (by rintro q hq; cases hq; exact Nat.le_refl _); have B7 := B5.trans (k7.mono B5.size); have K_7 := K_5.on k7; have ky_7 := ky_5.on k7; have bx_7 := bx_5.on k7; clear K_5 ky_5 bx_5; clear r6 g6 g7)
    | (refine wpList_valueG (o := ⟨some 46, _, _, _, _, _⟩) rfl _ (by exact exec_load1 _ 9 _ rfl ⟨w3.heap.size, 1, none⟩ rfl _ (bx_7.cell (j := 1) rfl) _ Tryd.underlying9 rfl) ?_)
    | (with_reducible refine wpList_at ⟨some 47, _, _, _, _, _⟩ ?_; refine wpList_bytes_own rfl _ _ _ _ rfl Tryd.underlying9 Tryd.underlying5 Tryd.underlying34 rfl ?_; intro c8 w8 hc8 hh8 h8; have z8ky := ky_7.lt; have z8bx := bx_7.lt; have z8x := x_7.lt; have B8 := B7.trans (h8.mono B7.size); have K_8 := K_7.on h8; have ky_8 := ky_7.on h8; have bx_8 := bx_7.on h8; have x_8 := x_7.on h8; clear K_7 ky_7 bx_7 x_7))
  obtain ⟨hcx, hfx⟩ := hh8.at_ HX0.out
  have H3 := Lib.hid h3
  have H5 := Lib.hid h5
  have H4 := Lib.hid h4
  clear h3 h4 h5
  go_region
  have hh9 : Holds8 (w8.setCell ⟨w7.heap.size, r, none⟩ (.int .u8 (xb.toNat : Int))).drew w7.heap.size w7.heap.size (C.data.toList.set r xb) := hh8.set HRL.out xb
  have hb9 : Below w7.heap.size w8 (w8.setCell ⟨w7.heap.size, r, none⟩ (.int .u8 (xb.toNat : Int))).drew := ((Below.refl w7.heap.size w8).setCell (Nat.le_refl _) _).drew
  generalize (w8.setCell ⟨w7.heap.size, r, none⟩ (.int .u8 (xb.toNat : Int))).drew = wn at *
  have hrd := hh9.reads
  rw [List.length_set, HCLN.out] at hrd
  have ky_n := ky_8.below hb9 z8ky
  have bx_n := bx_8.below hb9 z8bx
  have x_n := x_8.below hb9 z8x
  have Bn := B8.trans (hb9.mono B7.size)
  have K_n := hCo.on Bn
  clear hh9 hcx hfx hh8
  go_wp2_with (first
    | (refine wpList_valueW (o := ⟨some 71, _, _, _, _, _⟩) rfl (.string C2) (by rw [HC2.out]; exact exec_string_of _ _ _ _ _ rfl Tryd.underlying34 Tryd.underlying5 Tryd.underlying9 rfl hrd) ?_)
    | (with_reducible refine wpList_at ⟨none, .store _ (.tmp 72) _, _, _, _, _⟩ ?_; refine wpList_store_elem rfl _ _ _ rfl w5.heap.size 1 rfl _ _ x_n (.string C2) rfl rfl HJL.out (by kernel_rfl) ?_; intro w9 x_9 g9; rw [HSET.out] at x_9; have B9 := below_kept Bn g9 Bn.size (by rintro q hq; cases hq; first | exact Nat.le_refl _ | omega); have K_9 := hCo.on B9; have ky_9 := ky_n.kept g9 (by have := ky_n.lt; simp; omega); have bx_9 := bx_n.kept g9 (by have := bx_n.lt; simp; omega)))
  refine (derive_any (some ⟨w.heap.size, 0, none⟩) 16 key 16 ⟨#[97, 117, 116, 104, 101, 110, 116, 105, 99, 97, 116, 101]⟩ none 0 [] 0 _ K_9 (ky_9.reads16 HK.out) (Nat.le_refl _) (by omega) (by decide) (readsP_none _ _) (by omega) (by simp)).mono ?_
  rintro e w10 ⟨rfl, h10⟩
  have B10 := B9.trans (h10.mono B9.size)
  have K_10 := K_9.on h10
  have ky_10 := ky_9.on h10
  have bx_10 := bx_9.on h10
  have x_10 := x_9.on h10
  clear K_9 ky_9 bx_9 x_9
  rw [show drv key (⟨#[97, 117, 116, 104, 101, 110, 116, 105, 99, 97, 116, 101]⟩ : ByteArray).data.toList [] = AK from HDE.out]
  go_wp2_with (first
    | (with_reducible refine wpList_alloc_row (o := ⟨some 19, _, _, _, _, _⟩) rfl _ rfl zeros16 zero_b16 ?_; intro w11 r11 s11 g11)
    | (with_reducible refine wpList_at ⟨none, .store _ (.tmp 19) _, _, _, _, _⟩ ?_; refine wpList_store_all rfl _ _ _ rfl w10.heap.size rfl _ _ r11 (bvs AK) rfl (bvs_one _) (b16_zeros _ HAL.out) (b16_size _ HAL.out) ?_; intro w12 ak_12 g12; have k12 : Below w10.heap.size w10 w12 := below_kept (grown_below g11 (Nat.le_refl _) (by simp)) g12 (Nat.le_of_lt s11) (by rintro q hq; cases hq; exact Nat.le_refl _); have B12 := B10.trans (k12.mono B10.size); have K_12 := K_10.on k12; have ky_12 := ky_10.on k12; have bx_12 := bx_10.on k12; have x_12 := x_10.on k12; clear K_10 ky_10 bx_10 x_10; clear r11 g11 g12))
  skip
  have zlky := ky_12.lt
  have zlbp := x_12.lt
  have zlbx := bx_12.lt
  have zlak := ak_12.lt
  simp only [Act.put, List.setIfInBounds_toArray, List.set_cons_zero, List.set_cons_succ]
  go_cut [20] (fun s20 wc => ∃ g, s20 = .pointer (some ⟨g, 0, none⟩) ∧ Row wc g 23 (bvs AG) ∧ Row wc w.heap.size 23 (bvs key) ∧ Row wc w5.heap.size 25 (boxCs n C2 T) ∧ Row wc w3.heap.size 25 (boxCs n C T) ∧ Below w.heap.size w wc)
  case first =>
    refine wp_region_plan (fun w' => Row w' w5.heap.size 25 (boxCs n C2 T)) (.take 0 <| .take 2 <| .take 3 <| .take 6 <| .take 7 <| .three 1 (.two 4 (.two 5 (.two 8 (.two 9 (.two 10 (.one 11 <| .one 12 <| .done) 11 (.one 10 <| .one 12 <| .done)) 11 (.one 9 <| .one 10 <| .one 12 <| .done)) 11 (.one 8 <| .one 9 <| .one 10 <| .one 12 <| .done)) 11 (.one 5 <| .one 8 <| .one 9 <| .one 10 <| .one 12 <| .done)) 11 (.one 4 <| .one 5 <| .one 8 <| .one 9 <| .one 10 <| .one 12 <| .done)) 4 (.two 1 (.two 5 (.two 8 (.two 9 (.two 10 (.one 11 <| .one 12 <| .done) 11 (.one 10 <| .one 12 <| .done)) 11 (.one 9 <| .one 10 <| .one 12 <| .done)) 11 (.one 8 <| .one 9 <| .one 10 <| .one 12 <| .done)) 11 (.one 5 <| .one 8 <| .one 9 <| .one 10 <| .one 12 <| .done)) 11 (.one 1 <| .one 5 <| .one 8 <| .one 9 <| .one 10 <| .one 12 <| .done)) 11 (.two 1 (.one 4 <| .one 5 <| .one 8 <| .one 9 <| .one 10 <| .one 12 <| .done) 4 (.one 1 <| .one 5 <| .one 8 <| .one 9 <| .one 10 <| .one 12 <| .done))) (by kernel_rfl) (by kernel_rfl) (by kernel_rfl) (fun _ _ _ _ _ h => h) x_12.drew ?_
    repeat (refine plan_take _ rfl ?_; (first | (refine wpQuiet_valueG (o := ⟨some 112, _, _, _, _, _⟩) rfl _ (by intro _ h; exact exec_load1 _ 3 _ rfl ⟨w5.heap.size, 0, none⟩ rfl _ (h.cell (j := 0) rfl) _ Tryd.underlying3 rfl) (wpQuiet_nil ?_); simp only [Act.put, List.setIfInBounds_toArray, List.set_cons_zero, List.set_cons_succ]) | (refine wpQuiet_valueG (o := ⟨some 116, _, _, _, _, _⟩) rfl _ (by intro _ h; exact exec_load1 _ 9 _ rfl ⟨w5.heap.size, 1, none⟩ rfl _ (h.cell (j := 1) rfl) _ Tryd.underlying9 rfl) (wpQuiet_nil ?_); simp only [Act.put, List.setIfInBounds_toArray, List.set_cons_zero, List.set_cons_succ]) | (go_big_quiet_step ((intros; rfl)); refine wpQuiet_nil ?_)))
    refine plan_three ?_ ?_ ?_
    · refine step_at _ rfl fun K hK => ?_
      go_simp
      have ox129 := own_empty w12.drew 5 1 w12.heap.size (Nat.le_refl _)
      have hx129 : Below w12.drew.heap.size w12.drew (w12.drew.alloc (.cells #[] 5)) := (Below.refl _ _).alloc (Nat.le_refl _) _
      have Bx130 := B12.drew.trans (hx129.mono B12.drew.size)
      have kyx130 := ky_12.drew.on hx129
      have bpx130 := x_12.drew.on hx129
      have bxx130 := bx_12.drew.on hx129
      have akx130 := ak_12.drew.on hx129
      have lez130 := Nat.le_trans (Nat.le_refl _) hx129.size
      refine hK _ _ bpx130 ?_
      clear hK K
      refine plan_two ?_ ?_
      · refine step_at _ rfl fun K hK => ?_
        go_simp
        refine ((HI _).out).mono ?_
        rintro e wx131 ⟨vx131, rfl, ox131, hx131⟩
        obtain ⟨Ax131, cx131, rfl, cix131, _, rix1310⟩ := own_form ox131
        clear ox131
        have Bx132 := Bx130.trans (hx131.mono Bx130.size)
        have kyx132 := kyx130.on hx131
        have bpx132 := bpx130.on hx131
        have bxx132 := bxx130.on hx131
        have akx132 := akx130.on hx131
        have ox132 := own_below ox129 hx131
        have lez132 := Nat.le_trans lez130 hx131.size
        refine hK _ _ bpx132 ?_
        clear hK K
        refine plan_two ?_ ?_
        · refine step_at _ rfl fun K hK => ?_
          refine step_append_src rfl (.tmp 110) (.tmp 113) _ _ rfl w12.heap.size 5 i0 _ 1 1 Tryd.underlying34 hi0 hz0 hz1 hz2 rfl _ _ _ rfl ox132 E.length _ (Src.ofReads _ Tryd.underlying34 rix1310 (bvs_one _)) (by unfold maxLen; omega) (by omega) lez132 ?_
          intro vx133 wx133 ox133 kx133 hx133
          have Bx133 := Bx132.trans (hx133.mono B12.size)
          have lex133 := Nat.le_trans lez132 hx133.size
          have kyx133 := kyx132.kept kx133 (kyx132.not_row (by decide) ox132)
          have bpx133 := bpx132.kept kx133 (bpx132.not_row (by decide) ox132)
          have bxx133 := bxx132.kept kx133 (bxx132.not_row (by decide) ox132)
          have akx133 := akx132.kept kx133 (akx132.not_row (by decide) ox132)
          rw [Nat.zero_add, List.nil_append] at ox133
          refine hK _ _ bpx133 ?_
          clear hK K
          simp only [Act.put, List.setIfInBounds_toArray, List.set_cons_zero, List.set_cons_succ]
          refine plan_two ?_ ?_
          · refine step_at _ rfl fun K hK => ?_
            go_simp
            refine ((HBY _).out).mono ?_
            rintro e wx134 ⟨vx134, rfl, ox134, hx134⟩
            obtain ⟨Ax134, cx134, rfl, cbx134, _, rbx1340⟩ := own_form ox134
            clear ox134
            have Bx135 := Bx133.trans (hx134.mono Bx133.size)
            have ox135 := own_below ox133 hx134
            have kyx135 := kyx133.on hx134
            have bpx135 := bpx133.on hx134
            have bxx135 := bxx133.on hx134
            have akx135 := akx133.on hx134
            have lez135 := Nat.le_trans lex133 hx134.size
            refine hK _ _ bpx135 ?_
            clear hK K
            refine plan_two ?_ ?_
            · refine step_at _ rfl fun K hK => ?_
              refine step_append_src rfl (.tmp 114) (.tmp 117) _ _ rfl w12.heap.size 5 i0 _ 1 1 Tryd.underlying34 hi0 hz0 hz1 hz2 rfl _ _ _ rfl ox135 EB.length _ (Src.ofReads _ Tryd.underlying34 rbx1340 (bvs_one _)) (by unfold maxLen; omega) (by omega) lez135 ?_
              intro vx136 wx136 ox136 kx136 hx136
              have Bx136 := Bx135.trans (hx136.mono B12.size)
              have lex136 := Nat.le_trans lez135 hx136.size
              have kyx136 := kyx135.kept kx136 (kyx135.not_row (by decide) ox135)
              have bpx136 := bpx135.kept kx136 (bpx135.not_row (by decide) ox135)
              have bxx136 := bxx135.kept kx136 (bxx135.not_row (by decide) ox135)
              have akx136 := akx135.kept kx136 (akx135.not_row (by decide) ox135)
              rw [← bvs_append] at ox136
              obtain ⟨Ax136, cx136, rfl, cmx136, _, rmx136⟩ := own_form ox136
              refine hK _ _ bpx136 ?_
              clear hK K
              simp only [Act.put, List.setIfInBounds_toArray, List.set_cons_zero, List.set_cons_succ]
              refine plan_two ?_ ?_
              · refine step_at _ rfl fun K hK => ?_
                go_simp
                refine (mac_any _ Ax136 16 cx136 AK (E ++ EB) 16 (E.length + EB.length) _ (hCo.on Bx136) (akx136.reads16 HAL.out) (Nat.le_refl _) (by omega) rmx136 cmx136 (by omega)).mono ?_
                rintro e wx137 ⟨rfl, hx137⟩
                rw [← HTE.out]
                have Bx138 := Bx136.trans (hx137.mono Bx136.size)
                have kyx138 := kyx136.on hx137
                have bpx138 := bpx136.on hx137
                have bxx138 := bxx136.on hx137
                have akx138 := akx136.on hx137
                have mbx138 := rmx136.on hx137
                have lez138 := Nat.le_trans lex136 hx137.size
                refine hK _ _ bpx138 ?_
                clear hK K
                refine plan_one _ rfl fun K hK => ?_
                refine step_alloc rfl _ rfl zeros16 zero_b16 ?_
                intro wx139 rx139 sx139 kx139
                have hx139 : Below wx137.heap.size wx137 wx139 := grown_below kx139 (Nat.le_refl _) (by simp)
                have zzx139 := Bx138.size
                have zkyx139 := kyx138.lt
                have zbpx139 := bpx138.lt
                have zbxx139 := bxx138.lt
                have zakx139 := akx138.lt
                have Bx140 := Bx138.trans (hx139.mono Bx138.size)
                have kyx140 := kyx138.on hx139
                have bpx140 := bpx138.on hx139
                have bxx140 := bxx138.on hx139
                have akx140 := akx138.on hx139
                have lez140 := Nat.le_trans lez138 hx139.size
                refine hK _ _ bpx140 ?_
                clear hK K
                simp only [Act.put, List.setIfInBounds_toArray, List.set_cons_zero, List.set_cons_succ]
                refine plan_one _ rfl fun K hK => ?_
                refine step_store_all rfl _ _ _ rfl wx137.heap.size rfl _ _ rx139 (bvs AG) rfl (bvs_one _) (b16_zeros _ HAG.out) (b16_size _ HAG.out) ?_
                intro wx141 rx141 kx141
                have Bx141 := below_kept Bx140 kx141 Bx140.size (by rintro k hk; cases hk; exact zzx139)
                have kyx141 := kyx140.kept kx141 (by simp; omega)
                have bpx141 := bpx140.kept kx141 (by simp; omega)
                have bxx141 := bxx140.kept kx141 (by simp; omega)
                have akx141 := akx140.kept kx141 (by simp; omega)
                refine hK _ _ bpx141 ?_
                clear hK K
                simp only [Act.put]
                refine plan_done ?_
                go_wp2_with fail
                go_meet
                exact ⟨_, rfl, rx141, kyx141, bpx141, bxx141, Bx141⟩
              · refine step_at _ rfl fun K hK => ?_
                refine step_alloc rfl _ rfl zeros16 zero_b16 ?_
                intro wx142 rx142 sx142 kx142
                have hx142 : Below wx136.heap.size wx136 wx142 := grown_below kx142 (Nat.le_refl _) (by simp)
                have zzx142 := Bx136.size
                have zkyx142 := kyx136.lt
                have zbpx142 := bpx136.lt
                have zbxx142 := bxx136.lt
                have zakx142 := akx136.lt
                have Bx143 := Bx136.trans (hx142.mono Bx136.size)
                have kyx143 := kyx136.on hx142
                have bpx143 := bpx136.on hx142
                have bxx143 := bxx136.on hx142
                have akx143 := akx136.on hx142
                have mbx143 := rmx136.on hx142
                have lez143 := Nat.le_trans lex136 hx142.size
                refine hK _ _ bpx143 ?_
                clear hK K
                simp only [Act.put, List.setIfInBounds_toArray, List.set_cons_zero, List.set_cons_succ]
                refine plan_one _ rfl fun K hK => ?_
                go_simp
                refine (mac_any _ Ax136 16 cx136 AK (E ++ EB) 16 (E.length + EB.length) _ (hCo.on Bx143) (akx143.reads16 HAL.out) (Nat.le_refl _) (by omega) mbx143 cmx136 (by omega)).mono ?_
                rintro e wx144 ⟨rfl, hx144⟩
                rw [← HTE.out]
                have Bx145 := Bx143.trans (hx144.mono Bx143.size)
                have kyx145 := kyx143.on hx144
                have bpx145 := bpx143.on hx144
                have bxx145 := bxx143.on hx144
                have akx145 := akx143.on hx144
                have mbx145 := mbx143.on hx144
                have t7x145 := rx142.on hx144
                have lez145 := Nat.le_trans lez143 hx144.size
                refine hK _ _ bpx145 ?_
                clear hK K
                refine plan_one _ rfl fun K hK => ?_
                refine step_store_all rfl _ _ _ rfl wx136.heap.size rfl _ _ t7x145 (bvs AG) rfl (bvs_one _) (b16_zeros _ HAG.out) (b16_size _ HAG.out) ?_
                intro wx146 rx146 kx146
                have Bx146 := below_kept Bx145 kx146 Bx145.size (by rintro k hk; cases hk; exact zzx142)
                have kyx146 := kyx145.kept kx146 (by simp; omega)
                have bpx146 := bpx145.kept kx146 (by simp; omega)
                have bxx146 := bxx145.kept kx146 (by simp; omega)
                have akx146 := akx145.kept kx146 (by simp; omega)
                refine hK _ _ bpx146 ?_
                clear hK K
                simp only [Act.put]
                refine plan_done ?_
                go_wp2_with fail
                go_meet
                exact ⟨_, rfl, rx146, kyx146, bpx146, bxx146, Bx146⟩
            · refine step_at _ rfl fun K hK => ?_
              refine step_alloc rfl _ rfl zeros16 zero_b16 ?_
              intro wx147 rx147 sx147 kx147
              have hx147 : Below wx134.heap.size wx134 wx147 := grown_below kx147 (Nat.le_refl _) (by simp)
              have zzx147 := Bx135.size
              have zkyx147 := kyx135.lt
              have zbpx147 := bpx135.lt
              have zbxx147 := bxx135.lt
              have zakx147 := akx135.lt
              have Bx148 := Bx135.trans (hx147.mono Bx135.size)
              have ox148 := own_below ox135 hx147
              have kyx148 := kyx135.on hx147
              have bpx148 := bpx135.on hx147
              have bxx148 := bxx135.on hx147
              have akx148 := akx135.on hx147
              have bx148 := rbx1340.on hx147
              have lez148 := Nat.le_trans lez135 hx147.size
              refine hK _ _ bpx148 ?_
              clear hK K
              simp only [Act.put, List.setIfInBounds_toArray, List.set_cons_zero, List.set_cons_succ]
              refine plan_one _ rfl fun K hK => ?_
              refine step_append_src rfl (.tmp 114) (.tmp 117) _ _ rfl w12.heap.size 5 i0 _ 1 1 Tryd.underlying34 hi0 hz0 hz1 hz2 rfl _ _ _ rfl ox148 EB.length _ (Src.ofReads _ Tryd.underlying34 bx148 (bvs_one _)) (by unfold maxLen; omega) (by omega) lez148 ?_
              intro vx149 wx149 ox149 kx149 hx149
              have Bx149 := Bx148.trans (hx149.mono B12.size)
              have lex149 := Nat.le_trans lez148 hx149.size
              have kyx149 := kyx148.kept kx149 (kyx148.not_row (by decide) ox148)
              have bpx149 := bpx148.kept kx149 (bpx148.not_row (by decide) ox148)
              have bxx149 := bxx148.kept kx149 (bxx148.not_row (by decide) ox148)
              have akx149 := akx148.kept kx149 (akx148.not_row (by decide) ox148)
              have t7x149 := rx147.kept kx149 (rx147.not_row (by decide) ox148)
              rw [← bvs_append] at ox149
              obtain ⟨Ax149, cx149, rfl, cmx149, _, rmx149⟩ := own_form ox149
              refine hK _ _ bpx149 ?_
              clear hK K
              simp only [Act.put, List.setIfInBounds_toArray, List.set_cons_zero, List.set_cons_succ]
              refine plan_one _ rfl fun K hK => ?_
              go_simp
              refine (mac_any _ Ax149 16 cx149 AK (E ++ EB) 16 (E.length + EB.length) _ (hCo.on Bx149) (akx149.reads16 HAL.out) (Nat.le_refl _) (by omega) rmx149 cmx149 (by omega)).mono ?_
              rintro e wx150 ⟨rfl, hx150⟩
              rw [← HTE.out]
              have Bx151 := Bx149.trans (hx150.mono Bx149.size)
              have kyx151 := kyx149.on hx150
              have bpx151 := bpx149.on hx150
              have bxx151 := bxx149.on hx150
              have akx151 := akx149.on hx150
              have t7x151 := t7x149.on hx150
              have mbx151 := rmx149.on hx150
              have lez151 := Nat.le_trans lex149 hx150.size
              refine hK _ _ bpx151 ?_
              clear hK K
              refine plan_one _ rfl fun K hK => ?_
              refine step_store_all rfl _ _ _ rfl wx134.heap.size rfl _ _ t7x151 (bvs AG) rfl (bvs_one _) (b16_zeros _ HAG.out) (b16_size _ HAG.out) ?_
              intro wx152 rx152 kx152
              have Bx152 := below_kept Bx151 kx152 Bx151.size (by rintro k hk; cases hk; exact zzx147)
              have kyx152 := kyx151.kept kx152 (by simp; omega)
              have bpx152 := bpx151.kept kx152 (by simp; omega)
              have bxx152 := bxx151.kept kx152 (by simp; omega)
              have akx152 := akx151.kept kx152 (by simp; omega)
              refine hK _ _ bpx152 ?_
              clear hK K
              simp only [Act.put]
              refine plan_done ?_
              go_wp2_with fail
              go_meet
              exact ⟨_, rfl, rx152, kyx152, bpx152, bxx152, Bx152⟩
          · refine step_at _ rfl fun K hK => ?_
            refine step_alloc rfl _ rfl zeros16 zero_b16 ?_
            intro wx153 rx153 sx153 kx153
            have hx153 : Below wx133.heap.size wx133 wx153 := grown_below kx153 (Nat.le_refl _) (by simp)
            have zzx153 := Bx133.size
            have zkyx153 := kyx133.lt
            have zbpx153 := bpx133.lt
            have zbxx153 := bxx133.lt
            have zakx153 := akx133.lt
            have Bx154 := Bx133.trans (hx153.mono Bx133.size)
            have ox154 := own_below ox133 hx153
            have kyx154 := kyx133.on hx153
            have bpx154 := bpx133.on hx153
            have bxx154 := bxx133.on hx153
            have akx154 := akx133.on hx153
            have lez154 := Nat.le_trans lex133 hx153.size
            refine hK _ _ bpx154 ?_
            clear hK K
            simp only [Act.put, List.setIfInBounds_toArray, List.set_cons_zero, List.set_cons_succ]
            refine plan_one _ rfl fun K hK => ?_
            go_simp
            refine ((HBY _).out).mono ?_
            rintro e wx155 ⟨vx155, rfl, ox155, hx155⟩
            obtain ⟨Ax155, cx155, rfl, cbx155, _, rbx1550⟩ := own_form ox155
            clear ox155
            have Bx156 := Bx154.trans (hx155.mono Bx154.size)
            have ox156 := own_below ox154 hx155
            have kyx156 := kyx154.on hx155
            have bpx156 := bpx154.on hx155
            have bxx156 := bxx154.on hx155
            have akx156 := akx154.on hx155
            have t7x156 := rx153.on hx155
            have lez156 := Nat.le_trans lez154 hx155.size
            refine hK _ _ bpx156 ?_
            clear hK K
            refine plan_one _ rfl fun K hK => ?_
            refine step_append_src rfl (.tmp 114) (.tmp 117) _ _ rfl w12.heap.size 5 i0 _ 1 1 Tryd.underlying34 hi0 hz0 hz1 hz2 rfl _ _ _ rfl ox156 EB.length _ (Src.ofReads _ Tryd.underlying34 rbx1550 (bvs_one _)) (by unfold maxLen; omega) (by omega) lez156 ?_
            intro vx157 wx157 ox157 kx157 hx157
            have Bx157 := Bx156.trans (hx157.mono B12.size)
            have lex157 := Nat.le_trans lez156 hx157.size
            have kyx157 := kyx156.kept kx157 (kyx156.not_row (by decide) ox156)
            have bpx157 := bpx156.kept kx157 (bpx156.not_row (by decide) ox156)
            have bxx157 := bxx156.kept kx157 (bxx156.not_row (by decide) ox156)
            have akx157 := akx156.kept kx157 (akx156.not_row (by decide) ox156)
            have t7x157 := t7x156.kept kx157 (t7x156.not_row (by decide) ox156)
            rw [← bvs_append] at ox157
            obtain ⟨Ax157, cx157, rfl, cmx157, _, rmx157⟩ := own_form ox157
            refine hK _ _ bpx157 ?_
            clear hK K
            simp only [Act.put, List.setIfInBounds_toArray, List.set_cons_zero, List.set_cons_succ]
            refine plan_one _ rfl fun K hK => ?_
            go_simp
            refine (mac_any _ Ax157 16 cx157 AK (E ++ EB) 16 (E.length + EB.length) _ (hCo.on Bx157) (akx157.reads16 HAL.out) (Nat.le_refl _) (by omega) rmx157 cmx157 (by omega)).mono ?_
            rintro e wx158 ⟨rfl, hx158⟩
            rw [← HTE.out]
            have Bx159 := Bx157.trans (hx158.mono Bx157.size)
            have kyx159 := kyx157.on hx158
            have bpx159 := bpx157.on hx158
            have bxx159 := bxx157.on hx158
            have akx159 := akx157.on hx158
            have t7x159 := t7x157.on hx158
            have mbx159 := rmx157.on hx158
            have lez159 := Nat.le_trans lex157 hx158.size
            refine hK _ _ bpx159 ?_
            clear hK K
            refine plan_one _ rfl fun K hK => ?_
            refine step_store_all rfl _ _ _ rfl wx133.heap.size rfl _ _ t7x159 (bvs AG) rfl (bvs_one _) (b16_zeros _ HAG.out) (b16_size _ HAG.out) ?_
            intro wx160 rx160 kx160
            have Bx160 := below_kept Bx159 kx160 Bx159.size (by rintro k hk; cases hk; exact zzx153)
            have kyx160 := kyx159.kept kx160 (by simp; omega)
            have bpx160 := bpx159.kept kx160 (by simp; omega)
            have bxx160 := bxx159.kept kx160 (by simp; omega)
            have akx160 := akx159.kept kx160 (by simp; omega)
            refine hK _ _ bpx160 ?_
            clear hK K
            simp only [Act.put]
            refine plan_done ?_
            go_wp2_with fail
            go_meet
            exact ⟨_, rfl, rx160, kyx160, bpx160, bxx160, Bx160⟩
        · refine step_at _ rfl fun K hK => ?_
          refine step_alloc rfl _ rfl zeros16 zero_b16 ?_
          intro wx161 rx161 sx161 kx161
          have hx161 : Below wx131.heap.size wx131 wx161 := grown_below kx161 (Nat.le_refl _) (by simp)
          have zzx161 := Bx132.size
          have zkyx161 := kyx132.lt
          have zbpx161 := bpx132.lt
          have zbxx161 := bxx132.lt
          have zakx161 := akx132.lt
          have Bx162 := Bx132.trans (hx161.mono Bx132.size)
          have kyx162 := kyx132.on hx161
          have bpx162 := bpx132.on hx161
          have bxx162 := bxx132.on hx161
          have akx162 := akx132.on hx161
          have ox162 := own_below ox132 hx161
          have ix162 := rix1310.on hx161
          have lez162 := Nat.le_trans lez132 hx161.size
          refine hK _ _ bpx162 ?_
          clear hK K
          simp only [Act.put, List.setIfInBounds_toArray, List.set_cons_zero, List.set_cons_succ]
          refine plan_one _ rfl fun K hK => ?_
          refine step_append_src rfl (.tmp 110) (.tmp 113) _ _ rfl w12.heap.size 5 i0 _ 1 1 Tryd.underlying34 hi0 hz0 hz1 hz2 rfl _ _ _ rfl ox162 E.length _ (Src.ofReads _ Tryd.underlying34 ix162 (bvs_one _)) (by unfold maxLen; omega) (by omega) lez162 ?_
          intro vx163 wx163 ox163 kx163 hx163
          have Bx163 := Bx162.trans (hx163.mono B12.size)
          have lex163 := Nat.le_trans lez162 hx163.size
          have kyx163 := kyx162.kept kx163 (kyx162.not_row (by decide) ox162)
          have bpx163 := bpx162.kept kx163 (bpx162.not_row (by decide) ox162)
          have bxx163 := bxx162.kept kx163 (bxx162.not_row (by decide) ox162)
          have akx163 := akx162.kept kx163 (akx162.not_row (by decide) ox162)
          have t7x163 := rx161.kept kx163 (rx161.not_row (by decide) ox162)
          rw [Nat.zero_add, List.nil_append] at ox163
          refine hK _ _ bpx163 ?_
          clear hK K
          simp only [Act.put, List.setIfInBounds_toArray, List.set_cons_zero, List.set_cons_succ]
          refine plan_one _ rfl fun K hK => ?_
          go_simp
          refine ((HBY _).out).mono ?_
          rintro e wx164 ⟨vx164, rfl, ox164, hx164⟩
          obtain ⟨Ax164, cx164, rfl, cbx164, _, rbx1640⟩ := own_form ox164
          clear ox164
          have Bx165 := Bx163.trans (hx164.mono Bx163.size)
          have ox165 := own_below ox163 hx164
          have kyx165 := kyx163.on hx164
          have bpx165 := bpx163.on hx164
          have bxx165 := bxx163.on hx164
          have akx165 := akx163.on hx164
          have t7x165 := t7x163.on hx164
          have lez165 := Nat.le_trans lex163 hx164.size
          refine hK _ _ bpx165 ?_
          clear hK K
          refine plan_one _ rfl fun K hK => ?_
          refine step_append_src rfl (.tmp 114) (.tmp 117) _ _ rfl w12.heap.size 5 i0 _ 1 1 Tryd.underlying34 hi0 hz0 hz1 hz2 rfl _ _ _ rfl ox165 EB.length _ (Src.ofReads _ Tryd.underlying34 rbx1640 (bvs_one _)) (by unfold maxLen; omega) (by omega) lez165 ?_
          intro vx166 wx166 ox166 kx166 hx166
          have Bx166 := Bx165.trans (hx166.mono B12.size)
          have lex166 := Nat.le_trans lez165 hx166.size
          have kyx166 := kyx165.kept kx166 (kyx165.not_row (by decide) ox165)
          have bpx166 := bpx165.kept kx166 (bpx165.not_row (by decide) ox165)
          have bxx166 := bxx165.kept kx166 (bxx165.not_row (by decide) ox165)
          have akx166 := akx165.kept kx166 (akx165.not_row (by decide) ox165)
          have t7x166 := t7x165.kept kx166 (t7x165.not_row (by decide) ox165)
          rw [← bvs_append] at ox166
          obtain ⟨Ax166, cx166, rfl, cmx166, _, rmx166⟩ := own_form ox166
          refine hK _ _ bpx166 ?_
          clear hK K
          simp only [Act.put, List.setIfInBounds_toArray, List.set_cons_zero, List.set_cons_succ]
          refine plan_one _ rfl fun K hK => ?_
          go_simp
          refine (mac_any _ Ax166 16 cx166 AK (E ++ EB) 16 (E.length + EB.length) _ (hCo.on Bx166) (akx166.reads16 HAL.out) (Nat.le_refl _) (by omega) rmx166 cmx166 (by omega)).mono ?_
          rintro e wx167 ⟨rfl, hx167⟩
          rw [← HTE.out]
          have Bx168 := Bx166.trans (hx167.mono Bx166.size)
          have kyx168 := kyx166.on hx167
          have bpx168 := bpx166.on hx167
          have bxx168 := bxx166.on hx167
          have akx168 := akx166.on hx167
          have t7x168 := t7x166.on hx167
          have mbx168 := rmx166.on hx167
          have lez168 := Nat.le_trans lex166 hx167.size
          refine hK _ _ bpx168 ?_
          clear hK K
          refine plan_one _ rfl fun K hK => ?_
          refine step_store_all rfl _ _ _ rfl wx131.heap.size rfl _ _ t7x168 (bvs AG) rfl (bvs_one _) (b16_zeros _ HAG.out) (b16_size _ HAG.out) ?_
          intro wx169 rx169 kx169
          have Bx169 := below_kept Bx168 kx169 Bx168.size (by rintro k hk; cases hk; exact zzx161)
          have kyx169 := kyx168.kept kx169 (by simp; omega)
          have bpx169 := bpx168.kept kx169 (by simp; omega)
          have bxx169 := bxx168.kept kx169 (by simp; omega)
          have akx169 := akx168.kept kx169 (by simp; omega)
          refine hK _ _ bpx169 ?_
          clear hK K
          simp only [Act.put]
          refine plan_done ?_
          go_wp2_with fail
          go_meet
          exact ⟨_, rfl, rx169, kyx169, bpx169, bxx169, Bx169⟩
      · refine step_at _ rfl fun K hK => ?_
        refine step_alloc rfl _ rfl zeros16 zero_b16 ?_
        intro wx170 rx170 sx170 kx170
        have hx170 : Below (w12.drew.alloc (.cells #[] 5)).heap.size (w12.drew.alloc (.cells #[] 5)) wx170 := grown_below kx170 (Nat.le_refl _) (by simp)
        have zzx170 := Bx130.size
        have zkyx170 := kyx130.lt
        have zbpx170 := bpx130.lt
        have zbxx170 := bxx130.lt
        have zakx170 := akx130.lt
        have Bx171 := Bx130.trans (hx170.mono Bx130.size)
        have kyx171 := kyx130.on hx170
        have bpx171 := bpx130.on hx170
        have bxx171 := bxx130.on hx170
        have akx171 := akx130.on hx170
        have ox171 := own_below ox129 hx170
        have lez171 := Nat.le_trans lez130 hx170.size
        have erx170 : (w12.drew.alloc (.cells #[] 5)).heap.size = w12.drew.heap.size + 1 := by simp
        have frx170 : (w12.alloc (.cells #[] 5)).drew.heap.size = w12.heap.size + 1 := by simp
        first | rw [erx170] at rx170 | rw [frx170] at rx170
        rw [erx170] at zzx170
        refine hK _ _ bpx171 ?_
        clear hK K
        simp only [Act.put, List.setIfInBounds_toArray, List.set_cons_zero, List.set_cons_succ]
        refine plan_one _ rfl fun K hK => ?_
        go_simp
        refine ((HI _).out).mono ?_
        rintro e wx172 ⟨vx172, rfl, ox172, hx172⟩
        obtain ⟨Ax172, cx172, rfl, cix172, _, rix1720⟩ := own_form ox172
        clear ox172
        have Bx173 := Bx171.trans (hx172.mono Bx171.size)
        have kyx173 := kyx171.on hx172
        have bpx173 := bpx171.on hx172
        have bxx173 := bxx171.on hx172
        have akx173 := akx171.on hx172
        have ox173 := own_below ox171 hx172
        have t7x173 := rx170.on hx172
        have lez173 := Nat.le_trans lez171 hx172.size
        refine hK _ _ bpx173 ?_
        clear hK K
        refine plan_one _ rfl fun K hK => ?_
        refine step_append_src rfl (.tmp 110) (.tmp 113) _ _ rfl w12.heap.size 5 i0 _ 1 1 Tryd.underlying34 hi0 hz0 hz1 hz2 rfl _ _ _ rfl ox173 E.length _ (Src.ofReads _ Tryd.underlying34 rix1720 (bvs_one _)) (by unfold maxLen; omega) (by omega) lez173 ?_
        intro vx174 wx174 ox174 kx174 hx174
        have Bx174 := Bx173.trans (hx174.mono B12.size)
        have lex174 := Nat.le_trans lez173 hx174.size
        have kyx174 := kyx173.kept kx174 (kyx173.not_row (by decide) ox173)
        have bpx174 := bpx173.kept kx174 (bpx173.not_row (by decide) ox173)
        have bxx174 := bxx173.kept kx174 (bxx173.not_row (by decide) ox173)
        have akx174 := akx173.kept kx174 (akx173.not_row (by decide) ox173)
        have t7x174 := t7x173.kept kx174 (t7x173.not_row (by decide) ox173)
        rw [Nat.zero_add, List.nil_append] at ox174
        refine hK _ _ bpx174 ?_
        clear hK K
        simp only [Act.put, List.setIfInBounds_toArray, List.set_cons_zero, List.set_cons_succ]
        refine plan_one _ rfl fun K hK => ?_
        go_simp
        refine ((HBY _).out).mono ?_
        rintro e wx175 ⟨vx175, rfl, ox175, hx175⟩
        obtain ⟨Ax175, cx175, rfl, cbx175, _, rbx1750⟩ := own_form ox175
        clear ox175
        have Bx176 := Bx174.trans (hx175.mono Bx174.size)
        have ox176 := own_below ox174 hx175
        have kyx176 := kyx174.on hx175
        have bpx176 := bpx174.on hx175
        have bxx176 := bxx174.on hx175
        have akx176 := akx174.on hx175
        have t7x176 := t7x174.on hx175
        have lez176 := Nat.le_trans lex174 hx175.size
        refine hK _ _ bpx176 ?_
        clear hK K
        refine plan_one _ rfl fun K hK => ?_
        refine step_append_src rfl (.tmp 114) (.tmp 117) _ _ rfl w12.heap.size 5 i0 _ 1 1 Tryd.underlying34 hi0 hz0 hz1 hz2 rfl _ _ _ rfl ox176 EB.length _ (Src.ofReads _ Tryd.underlying34 rbx1750 (bvs_one _)) (by unfold maxLen; omega) (by omega) lez176 ?_
        intro vx177 wx177 ox177 kx177 hx177
        have Bx177 := Bx176.trans (hx177.mono B12.size)
        have lex177 := Nat.le_trans lez176 hx177.size
        have kyx177 := kyx176.kept kx177 (kyx176.not_row (by decide) ox176)
        have bpx177 := bpx176.kept kx177 (bpx176.not_row (by decide) ox176)
        have bxx177 := bxx176.kept kx177 (bxx176.not_row (by decide) ox176)
        have akx177 := akx176.kept kx177 (akx176.not_row (by decide) ox176)
        have t7x177 := t7x176.kept kx177 (t7x176.not_row (by decide) ox176)
        rw [← bvs_append] at ox177
        obtain ⟨Ax177, cx177, rfl, cmx177, _, rmx177⟩ := own_form ox177
        refine hK _ _ bpx177 ?_
        clear hK K
        simp only [Act.put, List.setIfInBounds_toArray, List.set_cons_zero, List.set_cons_succ]
        refine plan_one _ rfl fun K hK => ?_
        go_simp
        refine (mac_any _ Ax177 16 cx177 AK (E ++ EB) 16 (E.length + EB.length) _ (hCo.on Bx177) (akx177.reads16 HAL.out) (Nat.le_refl _) (by omega) rmx177 cmx177 (by omega)).mono ?_
        rintro e wx178 ⟨rfl, hx178⟩
        rw [← HTE.out]
        have Bx179 := Bx177.trans (hx178.mono Bx177.size)
        have kyx179 := kyx177.on hx178
        have bpx179 := bpx177.on hx178
        have bxx179 := bxx177.on hx178
        have akx179 := akx177.on hx178
        have t7x179 := t7x177.on hx178
        have mbx179 := rmx177.on hx178
        have lez179 := Nat.le_trans lex177 hx178.size
        refine hK _ _ bpx179 ?_
        clear hK K
        refine plan_one _ rfl fun K hK => ?_
        refine step_store_all rfl _ _ _ rfl (w12.drew.heap.size + 1) rfl _ _ t7x179 (bvs AG) rfl (bvs_one _) (b16_zeros _ HAG.out) (b16_size _ HAG.out) ?_
        intro wx180 rx180 kx180
        have Bx180 := below_kept Bx179 kx180 Bx179.size (by rintro k hk; cases hk; exact zzx170)
        have kyx180 := kyx179.kept kx180 (by simp; omega)
        have bpx180 := bpx179.kept kx180 (by simp; omega)
        have bxx180 := bxx179.kept kx180 (by simp; omega)
        have akx180 := akx179.kept kx180 (by simp; omega)
        refine hK _ _ bpx180 ?_
        clear hK K
        simp only [Act.put]
        refine plan_done ?_
        go_wp2_with fail
        go_meet
        exact ⟨_, rfl, rx180, kyx180, bpx180, bxx180, Bx180⟩
    · refine step_at _ rfl fun K hK => ?_
      go_simp
      refine ((HI _).out).mono ?_
      rintro e wx181 ⟨vx181, rfl, ox181, hx181⟩
      obtain ⟨Ax181, cx181, rfl, cix181, _, rix1810⟩ := own_form ox181
      clear ox181
      have Bx182 := B12.drew.trans (hx181.mono B12.drew.size)
      have kyx182 := ky_12.drew.on hx181
      have bpx182 := x_12.drew.on hx181
      have bxx182 := bx_12.drew.on hx181
      have akx182 := ak_12.drew.on hx181
      have lez182 := Nat.le_trans (Nat.le_refl _) hx181.size
      refine hK _ _ bpx182 ?_
      clear hK K
      refine plan_two ?_ ?_
      · refine step_at _ rfl fun K hK => ?_
        go_simp
        have ox183 := own_empty wx181 5 1 w12.heap.size lez182
        have hx183 : Below wx181.heap.size wx181 (wx181.alloc (.cells #[] 5)) := (Below.refl _ _).alloc (Nat.le_refl _) _
        have Bx184 := Bx182.trans (hx183.mono Bx182.size)
        have kyx184 := kyx182.on hx183
        have bpx184 := bpx182.on hx183
        have bxx184 := bxx182.on hx183
        have akx184 := akx182.on hx183
        have ix184 := rix1810.on hx183
        have lez184 := Nat.le_trans lez182 hx183.size
        refine hK _ _ bpx184 ?_
        clear hK K
        refine plan_two ?_ ?_
        · refine step_at _ rfl fun K hK => ?_
          refine step_append_src rfl (.tmp 110) (.tmp 113) _ _ rfl w12.heap.size 5 i0 _ 1 1 Tryd.underlying34 hi0 hz0 hz1 hz2 rfl _ _ _ rfl ox183 E.length _ (Src.ofReads _ Tryd.underlying34 ix184 (bvs_one _)) (by unfold maxLen; omega) (by omega) lez184 ?_
          intro vx185 wx185 ox185 kx185 hx185
          have Bx185 := Bx184.trans (hx185.mono B12.size)
          have lex185 := Nat.le_trans lez184 hx185.size
          have kyx185 := kyx184.kept kx185 (kyx184.not_row (by decide) ox183)
          have bpx185 := bpx184.kept kx185 (bpx184.not_row (by decide) ox183)
          have bxx185 := bxx184.kept kx185 (bxx184.not_row (by decide) ox183)
          have akx185 := akx184.kept kx185 (akx184.not_row (by decide) ox183)
          rw [Nat.zero_add, List.nil_append] at ox185
          refine hK _ _ bpx185 ?_
          clear hK K
          simp only [Act.put, List.setIfInBounds_toArray, List.set_cons_zero, List.set_cons_succ]
          refine plan_two ?_ ?_
          · refine step_at _ rfl fun K hK => ?_
            go_simp
            refine ((HBY _).out).mono ?_
            rintro e wx186 ⟨vx186, rfl, ox186, hx186⟩
            obtain ⟨Ax186, cx186, rfl, cbx186, _, rbx1860⟩ := own_form ox186
            clear ox186
            have Bx187 := Bx185.trans (hx186.mono Bx185.size)
            have ox187 := own_below ox185 hx186
            have kyx187 := kyx185.on hx186
            have bpx187 := bpx185.on hx186
            have bxx187 := bxx185.on hx186
            have akx187 := akx185.on hx186
            have lez187 := Nat.le_trans lex185 hx186.size
            refine hK _ _ bpx187 ?_
            clear hK K
            refine plan_two ?_ ?_
            · refine step_at _ rfl fun K hK => ?_
              refine step_append_src rfl (.tmp 114) (.tmp 117) _ _ rfl w12.heap.size 5 i0 _ 1 1 Tryd.underlying34 hi0 hz0 hz1 hz2 rfl _ _ _ rfl ox187 EB.length _ (Src.ofReads _ Tryd.underlying34 rbx1860 (bvs_one _)) (by unfold maxLen; omega) (by omega) lez187 ?_
              intro vx188 wx188 ox188 kx188 hx188
              have Bx188 := Bx187.trans (hx188.mono B12.size)
              have lex188 := Nat.le_trans lez187 hx188.size
              have kyx188 := kyx187.kept kx188 (kyx187.not_row (by decide) ox187)
              have bpx188 := bpx187.kept kx188 (bpx187.not_row (by decide) ox187)
              have bxx188 := bxx187.kept kx188 (bxx187.not_row (by decide) ox187)
              have akx188 := akx187.kept kx188 (akx187.not_row (by decide) ox187)
              rw [← bvs_append] at ox188
              obtain ⟨Ax188, cx188, rfl, cmx188, _, rmx188⟩ := own_form ox188
              refine hK _ _ bpx188 ?_
              clear hK K
              simp only [Act.put, List.setIfInBounds_toArray, List.set_cons_zero, List.set_cons_succ]
              refine plan_two ?_ ?_
              · refine step_at _ rfl fun K hK => ?_
                go_simp
                refine (mac_any _ Ax188 16 cx188 AK (E ++ EB) 16 (E.length + EB.length) _ (hCo.on Bx188) (akx188.reads16 HAL.out) (Nat.le_refl _) (by omega) rmx188 cmx188 (by omega)).mono ?_
                rintro e wx189 ⟨rfl, hx189⟩
                rw [← HTE.out]
                have Bx190 := Bx188.trans (hx189.mono Bx188.size)
                have kyx190 := kyx188.on hx189
                have bpx190 := bpx188.on hx189
                have bxx190 := bxx188.on hx189
                have akx190 := akx188.on hx189
                have mbx190 := rmx188.on hx189
                have lez190 := Nat.le_trans lex188 hx189.size
                refine hK _ _ bpx190 ?_
                clear hK K
                refine plan_one _ rfl fun K hK => ?_
                refine step_alloc rfl _ rfl zeros16 zero_b16 ?_
                intro wx191 rx191 sx191 kx191
                have hx191 : Below wx189.heap.size wx189 wx191 := grown_below kx191 (Nat.le_refl _) (by simp)
                have zzx191 := Bx190.size
                have zkyx191 := kyx190.lt
                have zbpx191 := bpx190.lt
                have zbxx191 := bxx190.lt
                have zakx191 := akx190.lt
                have Bx192 := Bx190.trans (hx191.mono Bx190.size)
                have kyx192 := kyx190.on hx191
                have bpx192 := bpx190.on hx191
                have bxx192 := bxx190.on hx191
                have akx192 := akx190.on hx191
                have lez192 := Nat.le_trans lez190 hx191.size
                refine hK _ _ bpx192 ?_
                clear hK K
                simp only [Act.put, List.setIfInBounds_toArray, List.set_cons_zero, List.set_cons_succ]
                refine plan_one _ rfl fun K hK => ?_
                refine step_store_all rfl _ _ _ rfl wx189.heap.size rfl _ _ rx191 (bvs AG) rfl (bvs_one _) (b16_zeros _ HAG.out) (b16_size _ HAG.out) ?_
                intro wx193 rx193 kx193
                have Bx193 := below_kept Bx192 kx193 Bx192.size (by rintro k hk; cases hk; exact zzx191)
                have kyx193 := kyx192.kept kx193 (by simp; omega)
                have bpx193 := bpx192.kept kx193 (by simp; omega)
                have bxx193 := bxx192.kept kx193 (by simp; omega)
                have akx193 := akx192.kept kx193 (by simp; omega)
                refine hK _ _ bpx193 ?_
                clear hK K
                simp only [Act.put]
                refine plan_done ?_
                go_wp2_with fail
                go_meet
                exact ⟨_, rfl, rx193, kyx193, bpx193, bxx193, Bx193⟩
              · refine step_at _ rfl fun K hK => ?_
                refine step_alloc rfl _ rfl zeros16 zero_b16 ?_
                intro wx194 rx194 sx194 kx194
                have hx194 : Below wx188.heap.size wx188 wx194 := grown_below kx194 (Nat.le_refl _) (by simp)
                have zzx194 := Bx188.size
                have zkyx194 := kyx188.lt
                have zbpx194 := bpx188.lt
                have zbxx194 := bxx188.lt
                have zakx194 := akx188.lt
                have Bx195 := Bx188.trans (hx194.mono Bx188.size)
                have kyx195 := kyx188.on hx194
                have bpx195 := bpx188.on hx194
                have bxx195 := bxx188.on hx194
                have akx195 := akx188.on hx194
                have mbx195 := rmx188.on hx194
                have lez195 := Nat.le_trans lex188 hx194.size
                refine hK _ _ bpx195 ?_
                clear hK K
                simp only [Act.put, List.setIfInBounds_toArray, List.set_cons_zero, List.set_cons_succ]
                refine plan_one _ rfl fun K hK => ?_
                go_simp
                refine (mac_any _ Ax188 16 cx188 AK (E ++ EB) 16 (E.length + EB.length) _ (hCo.on Bx195) (akx195.reads16 HAL.out) (Nat.le_refl _) (by omega) mbx195 cmx188 (by omega)).mono ?_
                rintro e wx196 ⟨rfl, hx196⟩
                rw [← HTE.out]
                have Bx197 := Bx195.trans (hx196.mono Bx195.size)
                have kyx197 := kyx195.on hx196
                have bpx197 := bpx195.on hx196
                have bxx197 := bxx195.on hx196
                have akx197 := akx195.on hx196
                have mbx197 := mbx195.on hx196
                have t7x197 := rx194.on hx196
                have lez197 := Nat.le_trans lez195 hx196.size
                refine hK _ _ bpx197 ?_
                clear hK K
                refine plan_one _ rfl fun K hK => ?_
                refine step_store_all rfl _ _ _ rfl wx188.heap.size rfl _ _ t7x197 (bvs AG) rfl (bvs_one _) (b16_zeros _ HAG.out) (b16_size _ HAG.out) ?_
                intro wx198 rx198 kx198
                have Bx198 := below_kept Bx197 kx198 Bx197.size (by rintro k hk; cases hk; exact zzx194)
                have kyx198 := kyx197.kept kx198 (by simp; omega)
                have bpx198 := bpx197.kept kx198 (by simp; omega)
                have bxx198 := bxx197.kept kx198 (by simp; omega)
                have akx198 := akx197.kept kx198 (by simp; omega)
                refine hK _ _ bpx198 ?_
                clear hK K
                simp only [Act.put]
                refine plan_done ?_
                go_wp2_with fail
                go_meet
                exact ⟨_, rfl, rx198, kyx198, bpx198, bxx198, Bx198⟩
            · refine step_at _ rfl fun K hK => ?_
              refine step_alloc rfl _ rfl zeros16 zero_b16 ?_
              intro wx199 rx199 sx199 kx199
              have hx199 : Below wx186.heap.size wx186 wx199 := grown_below kx199 (Nat.le_refl _) (by simp)
              have zzx199 := Bx187.size
              have zkyx199 := kyx187.lt
              have zbpx199 := bpx187.lt
              have zbxx199 := bxx187.lt
              have zakx199 := akx187.lt
              have Bx200 := Bx187.trans (hx199.mono Bx187.size)
              have ox200 := own_below ox187 hx199
              have kyx200 := kyx187.on hx199
              have bpx200 := bpx187.on hx199
              have bxx200 := bxx187.on hx199
              have akx200 := akx187.on hx199
              have bx200 := rbx1860.on hx199
              have lez200 := Nat.le_trans lez187 hx199.size
              refine hK _ _ bpx200 ?_
              clear hK K
              simp only [Act.put, List.setIfInBounds_toArray, List.set_cons_zero, List.set_cons_succ]
              refine plan_one _ rfl fun K hK => ?_
              refine step_append_src rfl (.tmp 114) (.tmp 117) _ _ rfl w12.heap.size 5 i0 _ 1 1 Tryd.underlying34 hi0 hz0 hz1 hz2 rfl _ _ _ rfl ox200 EB.length _ (Src.ofReads _ Tryd.underlying34 bx200 (bvs_one _)) (by unfold maxLen; omega) (by omega) lez200 ?_
              intro vx201 wx201 ox201 kx201 hx201
              have Bx201 := Bx200.trans (hx201.mono B12.size)
              have lex201 := Nat.le_trans lez200 hx201.size
              have kyx201 := kyx200.kept kx201 (kyx200.not_row (by decide) ox200)
              have bpx201 := bpx200.kept kx201 (bpx200.not_row (by decide) ox200)
              have bxx201 := bxx200.kept kx201 (bxx200.not_row (by decide) ox200)
              have akx201 := akx200.kept kx201 (akx200.not_row (by decide) ox200)
              have t7x201 := rx199.kept kx201 (rx199.not_row (by decide) ox200)
              rw [← bvs_append] at ox201
              obtain ⟨Ax201, cx201, rfl, cmx201, _, rmx201⟩ := own_form ox201
              refine hK _ _ bpx201 ?_
              clear hK K
              simp only [Act.put, List.setIfInBounds_toArray, List.set_cons_zero, List.set_cons_succ]
              refine plan_one _ rfl fun K hK => ?_
              go_simp
              refine (mac_any _ Ax201 16 cx201 AK (E ++ EB) 16 (E.length + EB.length) _ (hCo.on Bx201) (akx201.reads16 HAL.out) (Nat.le_refl _) (by omega) rmx201 cmx201 (by omega)).mono ?_
              rintro e wx202 ⟨rfl, hx202⟩
              rw [← HTE.out]
              have Bx203 := Bx201.trans (hx202.mono Bx201.size)
              have kyx203 := kyx201.on hx202
              have bpx203 := bpx201.on hx202
              have bxx203 := bxx201.on hx202
              have akx203 := akx201.on hx202
              have t7x203 := t7x201.on hx202
              have mbx203 := rmx201.on hx202
              have lez203 := Nat.le_trans lex201 hx202.size
              refine hK _ _ bpx203 ?_
              clear hK K
              refine plan_one _ rfl fun K hK => ?_
              refine step_store_all rfl _ _ _ rfl wx186.heap.size rfl _ _ t7x203 (bvs AG) rfl (bvs_one _) (b16_zeros _ HAG.out) (b16_size _ HAG.out) ?_
              intro wx204 rx204 kx204
              have Bx204 := below_kept Bx203 kx204 Bx203.size (by rintro k hk; cases hk; exact zzx199)
              have kyx204 := kyx203.kept kx204 (by simp; omega)
              have bpx204 := bpx203.kept kx204 (by simp; omega)
              have bxx204 := bxx203.kept kx204 (by simp; omega)
              have akx204 := akx203.kept kx204 (by simp; omega)
              refine hK _ _ bpx204 ?_
              clear hK K
              simp only [Act.put]
              refine plan_done ?_
              go_wp2_with fail
              go_meet
              exact ⟨_, rfl, rx204, kyx204, bpx204, bxx204, Bx204⟩
          · refine step_at _ rfl fun K hK => ?_
            refine step_alloc rfl _ rfl zeros16 zero_b16 ?_
            intro wx205 rx205 sx205 kx205
            have hx205 : Below wx185.heap.size wx185 wx205 := grown_below kx205 (Nat.le_refl _) (by simp)
            have zzx205 := Bx185.size
            have zkyx205 := kyx185.lt
            have zbpx205 := bpx185.lt
            have zbxx205 := bxx185.lt
            have zakx205 := akx185.lt
            have Bx206 := Bx185.trans (hx205.mono Bx185.size)
            have ox206 := own_below ox185 hx205
            have kyx206 := kyx185.on hx205
            have bpx206 := bpx185.on hx205
            have bxx206 := bxx185.on hx205
            have akx206 := akx185.on hx205
            have lez206 := Nat.le_trans lex185 hx205.size
            refine hK _ _ bpx206 ?_
            clear hK K
            simp only [Act.put, List.setIfInBounds_toArray, List.set_cons_zero, List.set_cons_succ]
            refine plan_one _ rfl fun K hK => ?_
            go_simp
            refine ((HBY _).out).mono ?_
            rintro e wx207 ⟨vx207, rfl, ox207, hx207⟩
            obtain ⟨Ax207, cx207, rfl, cbx207, _, rbx2070⟩ := own_form ox207
            clear ox207
            have Bx208 := Bx206.trans (hx207.mono Bx206.size)
            have ox208 := own_below ox206 hx207
            have kyx208 := kyx206.on hx207
            have bpx208 := bpx206.on hx207
            have bxx208 := bxx206.on hx207
            have akx208 := akx206.on hx207
            have t7x208 := rx205.on hx207
            have lez208 := Nat.le_trans lez206 hx207.size
            refine hK _ _ bpx208 ?_
            clear hK K
            refine plan_one _ rfl fun K hK => ?_
            refine step_append_src rfl (.tmp 114) (.tmp 117) _ _ rfl w12.heap.size 5 i0 _ 1 1 Tryd.underlying34 hi0 hz0 hz1 hz2 rfl _ _ _ rfl ox208 EB.length _ (Src.ofReads _ Tryd.underlying34 rbx2070 (bvs_one _)) (by unfold maxLen; omega) (by omega) lez208 ?_
            intro vx209 wx209 ox209 kx209 hx209
            have Bx209 := Bx208.trans (hx209.mono B12.size)
            have lex209 := Nat.le_trans lez208 hx209.size
            have kyx209 := kyx208.kept kx209 (kyx208.not_row (by decide) ox208)
            have bpx209 := bpx208.kept kx209 (bpx208.not_row (by decide) ox208)
            have bxx209 := bxx208.kept kx209 (bxx208.not_row (by decide) ox208)
            have akx209 := akx208.kept kx209 (akx208.not_row (by decide) ox208)
            have t7x209 := t7x208.kept kx209 (t7x208.not_row (by decide) ox208)
            rw [← bvs_append] at ox209
            obtain ⟨Ax209, cx209, rfl, cmx209, _, rmx209⟩ := own_form ox209
            refine hK _ _ bpx209 ?_
            clear hK K
            simp only [Act.put, List.setIfInBounds_toArray, List.set_cons_zero, List.set_cons_succ]
            refine plan_one _ rfl fun K hK => ?_
            go_simp
            refine (mac_any _ Ax209 16 cx209 AK (E ++ EB) 16 (E.length + EB.length) _ (hCo.on Bx209) (akx209.reads16 HAL.out) (Nat.le_refl _) (by omega) rmx209 cmx209 (by omega)).mono ?_
            rintro e wx210 ⟨rfl, hx210⟩
            rw [← HTE.out]
            have Bx211 := Bx209.trans (hx210.mono Bx209.size)
            have kyx211 := kyx209.on hx210
            have bpx211 := bpx209.on hx210
            have bxx211 := bxx209.on hx210
            have akx211 := akx209.on hx210
            have t7x211 := t7x209.on hx210
            have mbx211 := rmx209.on hx210
            have lez211 := Nat.le_trans lex209 hx210.size
            refine hK _ _ bpx211 ?_
            clear hK K
            refine plan_one _ rfl fun K hK => ?_
            refine step_store_all rfl _ _ _ rfl wx185.heap.size rfl _ _ t7x211 (bvs AG) rfl (bvs_one _) (b16_zeros _ HAG.out) (b16_size _ HAG.out) ?_
            intro wx212 rx212 kx212
            have Bx212 := below_kept Bx211 kx212 Bx211.size (by rintro k hk; cases hk; exact zzx205)
            have kyx212 := kyx211.kept kx212 (by simp; omega)
            have bpx212 := bpx211.kept kx212 (by simp; omega)
            have bxx212 := bxx211.kept kx212 (by simp; omega)
            have akx212 := akx211.kept kx212 (by simp; omega)
            refine hK _ _ bpx212 ?_
            clear hK K
            simp only [Act.put]
            refine plan_done ?_
            go_wp2_with fail
            go_meet
            exact ⟨_, rfl, rx212, kyx212, bpx212, bxx212, Bx212⟩
        · refine step_at _ rfl fun K hK => ?_
          refine step_alloc rfl _ rfl zeros16 zero_b16 ?_
          intro wx213 rx213 sx213 kx213
          have hx213 : Below (wx181.alloc (.cells #[] 5)).heap.size (wx181.alloc (.cells #[] 5)) wx213 := grown_below kx213 (Nat.le_refl _) (by simp)
          have zzx213 := Bx184.size
          have zkyx213 := kyx184.lt
          have zbpx213 := bpx184.lt
          have zbxx213 := bxx184.lt
          have zakx213 := akx184.lt
          have Bx214 := Bx184.trans (hx213.mono Bx184.size)
          have kyx214 := kyx184.on hx213
          have bpx214 := bpx184.on hx213
          have bxx214 := bxx184.on hx213
          have akx214 := akx184.on hx213
          have ix214 := ix184.on hx213
          have ox214 := own_below ox183 hx213
          have lez214 := Nat.le_trans lez184 hx213.size
          have erx213 : (wx181.alloc (.cells #[] 5)).heap.size = wx181.heap.size + 1 := by simp
          have frx213 : (wx181.alloc (.cells #[] 5)).drew.heap.size = wx181.heap.size + 1 := by simp
          first | rw [erx213] at rx213 | rw [frx213] at rx213
          rw [erx213] at zzx213
          refine hK _ _ bpx214 ?_
          clear hK K
          simp only [Act.put, List.setIfInBounds_toArray, List.set_cons_zero, List.set_cons_succ]
          refine plan_one _ rfl fun K hK => ?_
          refine step_append_src rfl (.tmp 110) (.tmp 113) _ _ rfl w12.heap.size 5 i0 _ 1 1 Tryd.underlying34 hi0 hz0 hz1 hz2 rfl _ _ _ rfl ox214 E.length _ (Src.ofReads _ Tryd.underlying34 ix214 (bvs_one _)) (by unfold maxLen; omega) (by omega) lez214 ?_
          intro vx215 wx215 ox215 kx215 hx215
          have Bx215 := Bx214.trans (hx215.mono B12.size)
          have lex215 := Nat.le_trans lez214 hx215.size
          have kyx215 := kyx214.kept kx215 (kyx214.not_row (by decide) ox214)
          have bpx215 := bpx214.kept kx215 (bpx214.not_row (by decide) ox214)
          have bxx215 := bxx214.kept kx215 (bxx214.not_row (by decide) ox214)
          have akx215 := akx214.kept kx215 (akx214.not_row (by decide) ox214)
          have t7x215 := rx213.kept kx215 (rx213.not_row (by decide) ox214)
          rw [Nat.zero_add, List.nil_append] at ox215
          refine hK _ _ bpx215 ?_
          clear hK K
          simp only [Act.put, List.setIfInBounds_toArray, List.set_cons_zero, List.set_cons_succ]
          refine plan_one _ rfl fun K hK => ?_
          go_simp
          refine ((HBY _).out).mono ?_
          rintro e wx216 ⟨vx216, rfl, ox216, hx216⟩
          obtain ⟨Ax216, cx216, rfl, cbx216, _, rbx2160⟩ := own_form ox216
          clear ox216
          have Bx217 := Bx215.trans (hx216.mono Bx215.size)
          have ox217 := own_below ox215 hx216
          have kyx217 := kyx215.on hx216
          have bpx217 := bpx215.on hx216
          have bxx217 := bxx215.on hx216
          have akx217 := akx215.on hx216
          have t7x217 := t7x215.on hx216
          have lez217 := Nat.le_trans lex215 hx216.size
          refine hK _ _ bpx217 ?_
          clear hK K
          refine plan_one _ rfl fun K hK => ?_
          refine step_append_src rfl (.tmp 114) (.tmp 117) _ _ rfl w12.heap.size 5 i0 _ 1 1 Tryd.underlying34 hi0 hz0 hz1 hz2 rfl _ _ _ rfl ox217 EB.length _ (Src.ofReads _ Tryd.underlying34 rbx2160 (bvs_one _)) (by unfold maxLen; omega) (by omega) lez217 ?_
          intro vx218 wx218 ox218 kx218 hx218
          have Bx218 := Bx217.trans (hx218.mono B12.size)
          have lex218 := Nat.le_trans lez217 hx218.size
          have kyx218 := kyx217.kept kx218 (kyx217.not_row (by decide) ox217)
          have bpx218 := bpx217.kept kx218 (bpx217.not_row (by decide) ox217)
          have bxx218 := bxx217.kept kx218 (bxx217.not_row (by decide) ox217)
          have akx218 := akx217.kept kx218 (akx217.not_row (by decide) ox217)
          have t7x218 := t7x217.kept kx218 (t7x217.not_row (by decide) ox217)
          rw [← bvs_append] at ox218
          obtain ⟨Ax218, cx218, rfl, cmx218, _, rmx218⟩ := own_form ox218
          refine hK _ _ bpx218 ?_
          clear hK K
          simp only [Act.put, List.setIfInBounds_toArray, List.set_cons_zero, List.set_cons_succ]
          refine plan_one _ rfl fun K hK => ?_
          go_simp
          refine (mac_any _ Ax218 16 cx218 AK (E ++ EB) 16 (E.length + EB.length) _ (hCo.on Bx218) (akx218.reads16 HAL.out) (Nat.le_refl _) (by omega) rmx218 cmx218 (by omega)).mono ?_
          rintro e wx219 ⟨rfl, hx219⟩
          rw [← HTE.out]
          have Bx220 := Bx218.trans (hx219.mono Bx218.size)
          have kyx220 := kyx218.on hx219
          have bpx220 := bpx218.on hx219
          have bxx220 := bxx218.on hx219
          have akx220 := akx218.on hx219
          have t7x220 := t7x218.on hx219
          have mbx220 := rmx218.on hx219
          have lez220 := Nat.le_trans lex218 hx219.size
          refine hK _ _ bpx220 ?_
          clear hK K
          refine plan_one _ rfl fun K hK => ?_
          refine step_store_all rfl _ _ _ rfl (wx181.heap.size + 1) rfl _ _ t7x220 (bvs AG) rfl (bvs_one _) (b16_zeros _ HAG.out) (b16_size _ HAG.out) ?_
          intro wx221 rx221 kx221
          have Bx221 := below_kept Bx220 kx221 Bx220.size (by rintro k hk; cases hk; exact zzx213)
          have kyx221 := kyx220.kept kx221 (by simp; omega)
          have bpx221 := bpx220.kept kx221 (by simp; omega)
          have bxx221 := bxx220.kept kx221 (by simp; omega)
          have akx221 := akx220.kept kx221 (by simp; omega)
          refine hK _ _ bpx221 ?_
          clear hK K
          simp only [Act.put]
          refine plan_done ?_
          go_wp2_with fail
          go_meet
          exact ⟨_, rfl, rx221, kyx221, bpx221, bxx221, Bx221⟩
      · refine step_at _ rfl fun K hK => ?_
        refine step_alloc rfl _ rfl zeros16 zero_b16 ?_
        intro wx222 rx222 sx222 kx222
        have hx222 : Below wx181.heap.size wx181 wx222 := grown_below kx222 (Nat.le_refl _) (by simp)
        have zzx222 := Bx182.size
        have zkyx222 := kyx182.lt
        have zbpx222 := bpx182.lt
        have zbxx222 := bxx182.lt
        have zakx222 := akx182.lt
        have Bx223 := Bx182.trans (hx222.mono Bx182.size)
        have kyx223 := kyx182.on hx222
        have bpx223 := bpx182.on hx222
        have bxx223 := bxx182.on hx222
        have akx223 := akx182.on hx222
        have ix223 := rix1810.on hx222
        have lez223 := Nat.le_trans lez182 hx222.size
        refine hK _ _ bpx223 ?_
        clear hK K
        simp only [Act.put, List.setIfInBounds_toArray, List.set_cons_zero, List.set_cons_succ]
        refine plan_one _ rfl fun K hK => ?_
        go_simp
        have ox224 := own_empty wx222 5 1 w12.heap.size lez223
        have hx224 : Below wx222.heap.size wx222 (wx222.alloc (.cells #[] 5)) := (Below.refl _ _).alloc (Nat.le_refl _) _
        have Bx225 := Bx223.trans (hx224.mono Bx223.size)
        have kyx225 := kyx223.on hx224
        have bpx225 := bpx223.on hx224
        have bxx225 := bxx223.on hx224
        have akx225 := akx223.on hx224
        have ix225 := ix223.on hx224
        have t7x225 := rx222.on hx224
        have lez225 := Nat.le_trans lez223 hx224.size
        refine hK _ _ bpx225 ?_
        clear hK K
        refine plan_one _ rfl fun K hK => ?_
        refine step_append_src rfl (.tmp 110) (.tmp 113) _ _ rfl w12.heap.size 5 i0 _ 1 1 Tryd.underlying34 hi0 hz0 hz1 hz2 rfl _ _ _ rfl ox224 E.length _ (Src.ofReads _ Tryd.underlying34 ix225 (bvs_one _)) (by unfold maxLen; omega) (by omega) lez225 ?_
        intro vx226 wx226 ox226 kx226 hx226
        have Bx226 := Bx225.trans (hx226.mono B12.size)
        have lex226 := Nat.le_trans lez225 hx226.size
        have kyx226 := kyx225.kept kx226 (kyx225.not_row (by decide) ox224)
        have bpx226 := bpx225.kept kx226 (bpx225.not_row (by decide) ox224)
        have bxx226 := bxx225.kept kx226 (bxx225.not_row (by decide) ox224)
        have akx226 := akx225.kept kx226 (akx225.not_row (by decide) ox224)
        have t7x226 := t7x225.kept kx226 (t7x225.not_row (by decide) ox224)
        rw [Nat.zero_add, List.nil_append] at ox226
        refine hK _ _ bpx226 ?_
        clear hK K
        simp only [Act.put, List.setIfInBounds_toArray, List.set_cons_zero, List.set_cons_succ]
        refine plan_one _ rfl fun K hK => ?_
        go_simp
        refine ((HBY _).out).mono ?_
        rintro e wx227 ⟨vx227, rfl, ox227, hx227⟩
        obtain ⟨Ax227, cx227, rfl, cbx227, _, rbx2270⟩ := own_form ox227
        clear ox227
        have Bx228 := Bx226.trans (hx227.mono Bx226.size)
        have ox228 := own_below ox226 hx227
        have kyx228 := kyx226.on hx227
        have bpx228 := bpx226.on hx227
        have bxx228 := bxx226.on hx227
        have akx228 := akx226.on hx227
        have t7x228 := t7x226.on hx227
        have lez228 := Nat.le_trans lex226 hx227.size
        refine hK _ _ bpx228 ?_
        clear hK K
        refine plan_one _ rfl fun K hK => ?_
        refine step_append_src rfl (.tmp 114) (.tmp 117) _ _ rfl w12.heap.size 5 i0 _ 1 1 Tryd.underlying34 hi0 hz0 hz1 hz2 rfl _ _ _ rfl ox228 EB.length _ (Src.ofReads _ Tryd.underlying34 rbx2270 (bvs_one _)) (by unfold maxLen; omega) (by omega) lez228 ?_
        intro vx229 wx229 ox229 kx229 hx229
        have Bx229 := Bx228.trans (hx229.mono B12.size)
        have lex229 := Nat.le_trans lez228 hx229.size
        have kyx229 := kyx228.kept kx229 (kyx228.not_row (by decide) ox228)
        have bpx229 := bpx228.kept kx229 (bpx228.not_row (by decide) ox228)
        have bxx229 := bxx228.kept kx229 (bxx228.not_row (by decide) ox228)
        have akx229 := akx228.kept kx229 (akx228.not_row (by decide) ox228)
        have t7x229 := t7x228.kept kx229 (t7x228.not_row (by decide) ox228)
        rw [← bvs_append] at ox229
        obtain ⟨Ax229, cx229, rfl, cmx229, _, rmx229⟩ := own_form ox229
        refine hK _ _ bpx229 ?_
        clear hK K
        simp only [Act.put, List.setIfInBounds_toArray, List.set_cons_zero, List.set_cons_succ]
        refine plan_one _ rfl fun K hK => ?_
        go_simp
        refine (mac_any _ Ax229 16 cx229 AK (E ++ EB) 16 (E.length + EB.length) _ (hCo.on Bx229) (akx229.reads16 HAL.out) (Nat.le_refl _) (by omega) rmx229 cmx229 (by omega)).mono ?_
        rintro e wx230 ⟨rfl, hx230⟩
        rw [← HTE.out]
        have Bx231 := Bx229.trans (hx230.mono Bx229.size)
        have kyx231 := kyx229.on hx230
        have bpx231 := bpx229.on hx230
        have bxx231 := bxx229.on hx230
        have akx231 := akx229.on hx230
        have t7x231 := t7x229.on hx230
        have mbx231 := rmx229.on hx230
        have lez231 := Nat.le_trans lex229 hx230.size
        refine hK _ _ bpx231 ?_
        clear hK K
        refine plan_one _ rfl fun K hK => ?_
        refine step_store_all rfl _ _ _ rfl wx181.heap.size rfl _ _ t7x231 (bvs AG) rfl (bvs_one _) (b16_zeros _ HAG.out) (b16_size _ HAG.out) ?_
        intro wx232 rx232 kx232
        have Bx232 := below_kept Bx231 kx232 Bx231.size (by rintro k hk; cases hk; exact zzx222)
        have kyx232 := kyx231.kept kx232 (by simp; omega)
        have bpx232 := bpx231.kept kx232 (by simp; omega)
        have bxx232 := bxx231.kept kx232 (by simp; omega)
        have akx232 := akx231.kept kx232 (by simp; omega)
        refine hK _ _ bpx232 ?_
        clear hK K
        simp only [Act.put]
        refine plan_done ?_
        go_wp2_with fail
        go_meet
        exact ⟨_, rfl, rx232, kyx232, bpx232, bxx232, Bx232⟩
    · refine step_at _ rfl fun K hK => ?_
      refine step_alloc rfl _ rfl zeros16 zero_b16 ?_
      intro wx233 rx233 sx233 kx233
      have hx233 : Below w12.drew.heap.size w12.drew wx233 := grown_below kx233 (Nat.le_refl _) (by simp)
      have zzx233 := B12.drew.size
      have zkyx233 := ky_12.drew.lt
      have zbpx233 := x_12.drew.lt
      have zbxx233 := bx_12.drew.lt
      have zakx233 := ak_12.drew.lt
      have Bx234 := B12.drew.trans (hx233.mono B12.drew.size)
      have kyx234 := ky_12.drew.on hx233
      have bpx234 := x_12.drew.on hx233
      have bxx234 := bx_12.drew.on hx233
      have akx234 := ak_12.drew.on hx233
      have lez234 := Nat.le_trans (Nat.le_refl _) hx233.size
      refine hK _ _ bpx234 ?_
      clear hK K
      simp only [Act.put, List.setIfInBounds_toArray, List.set_cons_zero, List.set_cons_succ]
      refine plan_two ?_ ?_
      · refine step_at _ rfl fun K hK => ?_
        go_simp
        have ox235 := own_empty wx233 5 1 w12.heap.size lez234
        have hx235 : Below wx233.heap.size wx233 (wx233.alloc (.cells #[] 5)) := (Below.refl _ _).alloc (Nat.le_refl _) _
        have Bx236 := Bx234.trans (hx235.mono Bx234.size)
        have kyx236 := kyx234.on hx235
        have bpx236 := bpx234.on hx235
        have bxx236 := bxx234.on hx235
        have akx236 := akx234.on hx235
        have t7x236 := rx233.on hx235
        have lez236 := Nat.le_trans lez234 hx235.size
        refine hK _ _ bpx236 ?_
        clear hK K
        refine plan_one _ rfl fun K hK => ?_
        go_simp
        refine ((HI _).out).mono ?_
        rintro e wx237 ⟨vx237, rfl, ox237, hx237⟩
        obtain ⟨Ax237, cx237, rfl, cix237, _, rix2370⟩ := own_form ox237
        clear ox237
        have Bx238 := Bx236.trans (hx237.mono Bx236.size)
        have kyx238 := kyx236.on hx237
        have bpx238 := bpx236.on hx237
        have bxx238 := bxx236.on hx237
        have akx238 := akx236.on hx237
        have t7x238 := t7x236.on hx237
        have ox238 := own_below ox235 hx237
        have lez238 := Nat.le_trans lez236 hx237.size
        refine hK _ _ bpx238 ?_
        clear hK K
        refine plan_one _ rfl fun K hK => ?_
        refine step_append_src rfl (.tmp 110) (.tmp 113) _ _ rfl w12.heap.size 5 i0 _ 1 1 Tryd.underlying34 hi0 hz0 hz1 hz2 rfl _ _ _ rfl ox238 E.length _ (Src.ofReads _ Tryd.underlying34 rix2370 (bvs_one _)) (by unfold maxLen; omega) (by omega) lez238 ?_
        intro vx239 wx239 ox239 kx239 hx239
        have Bx239 := Bx238.trans (hx239.mono B12.size)
        have lex239 := Nat.le_trans lez238 hx239.size
        have kyx239 := kyx238.kept kx239 (kyx238.not_row (by decide) ox238)
        have bpx239 := bpx238.kept kx239 (bpx238.not_row (by decide) ox238)
        have bxx239 := bxx238.kept kx239 (bxx238.not_row (by decide) ox238)
        have akx239 := akx238.kept kx239 (akx238.not_row (by decide) ox238)
        have t7x239 := t7x238.kept kx239 (t7x238.not_row (by decide) ox238)
        rw [Nat.zero_add, List.nil_append] at ox239
        refine hK _ _ bpx239 ?_
        clear hK K
        simp only [Act.put, List.setIfInBounds_toArray, List.set_cons_zero, List.set_cons_succ]
        refine plan_one _ rfl fun K hK => ?_
        go_simp
        refine ((HBY _).out).mono ?_
        rintro e wx240 ⟨vx240, rfl, ox240, hx240⟩
        obtain ⟨Ax240, cx240, rfl, cbx240, _, rbx2400⟩ := own_form ox240
        clear ox240
        have Bx241 := Bx239.trans (hx240.mono Bx239.size)
        have ox241 := own_below ox239 hx240
        have kyx241 := kyx239.on hx240
        have bpx241 := bpx239.on hx240
        have bxx241 := bxx239.on hx240
        have akx241 := akx239.on hx240
        have t7x241 := t7x239.on hx240
        have lez241 := Nat.le_trans lex239 hx240.size
        refine hK _ _ bpx241 ?_
        clear hK K
        refine plan_one _ rfl fun K hK => ?_
        refine step_append_src rfl (.tmp 114) (.tmp 117) _ _ rfl w12.heap.size 5 i0 _ 1 1 Tryd.underlying34 hi0 hz0 hz1 hz2 rfl _ _ _ rfl ox241 EB.length _ (Src.ofReads _ Tryd.underlying34 rbx2400 (bvs_one _)) (by unfold maxLen; omega) (by omega) lez241 ?_
        intro vx242 wx242 ox242 kx242 hx242
        have Bx242 := Bx241.trans (hx242.mono B12.size)
        have lex242 := Nat.le_trans lez241 hx242.size
        have kyx242 := kyx241.kept kx242 (kyx241.not_row (by decide) ox241)
        have bpx242 := bpx241.kept kx242 (bpx241.not_row (by decide) ox241)
        have bxx242 := bxx241.kept kx242 (bxx241.not_row (by decide) ox241)
        have akx242 := akx241.kept kx242 (akx241.not_row (by decide) ox241)
        have t7x242 := t7x241.kept kx242 (t7x241.not_row (by decide) ox241)
        rw [← bvs_append] at ox242
        obtain ⟨Ax242, cx242, rfl, cmx242, _, rmx242⟩ := own_form ox242
        refine hK _ _ bpx242 ?_
        clear hK K
        simp only [Act.put, List.setIfInBounds_toArray, List.set_cons_zero, List.set_cons_succ]
        refine plan_one _ rfl fun K hK => ?_
        go_simp
        refine (mac_any _ Ax242 16 cx242 AK (E ++ EB) 16 (E.length + EB.length) _ (hCo.on Bx242) (akx242.reads16 HAL.out) (Nat.le_refl _) (by omega) rmx242 cmx242 (by omega)).mono ?_
        rintro e wx243 ⟨rfl, hx243⟩
        rw [← HTE.out]
        have Bx244 := Bx242.trans (hx243.mono Bx242.size)
        have kyx244 := kyx242.on hx243
        have bpx244 := bpx242.on hx243
        have bxx244 := bxx242.on hx243
        have akx244 := akx242.on hx243
        have t7x244 := t7x242.on hx243
        have mbx244 := rmx242.on hx243
        have lez244 := Nat.le_trans lex242 hx243.size
        refine hK _ _ bpx244 ?_
        clear hK K
        refine plan_one _ rfl fun K hK => ?_
        refine step_store_all rfl _ _ _ rfl w12.drew.heap.size rfl _ _ t7x244 (bvs AG) rfl (bvs_one _) (b16_zeros _ HAG.out) (b16_size _ HAG.out) ?_
        intro wx245 rx245 kx245
        have Bx245 := below_kept Bx244 kx245 Bx244.size (by rintro k hk; cases hk; exact zzx233)
        have kyx245 := kyx244.kept kx245 (by simp; omega)
        have bpx245 := bpx244.kept kx245 (by simp; omega)
        have bxx245 := bxx244.kept kx245 (by simp; omega)
        have akx245 := akx244.kept kx245 (by simp; omega)
        refine hK _ _ bpx245 ?_
        clear hK K
        simp only [Act.put]
        refine plan_done ?_
        go_wp2_with fail
        go_meet
        exact ⟨_, rfl, rx245, kyx245, bpx245, bxx245, Bx245⟩
      · refine step_at _ rfl fun K hK => ?_
        go_simp
        refine ((HI _).out).mono ?_
        rintro e wx246 ⟨vx246, rfl, ox246, hx246⟩
        obtain ⟨Ax246, cx246, rfl, cix246, _, rix2460⟩ := own_form ox246
        clear ox246
        have Bx247 := Bx234.trans (hx246.mono Bx234.size)
        have kyx247 := kyx234.on hx246
        have bpx247 := bpx234.on hx246
        have bxx247 := bxx234.on hx246
        have akx247 := akx234.on hx246
        have t7x247 := rx233.on hx246
        have lez247 := Nat.le_trans lez234 hx246.size
        refine hK _ _ bpx247 ?_
        clear hK K
        refine plan_one _ rfl fun K hK => ?_
        go_simp
        have ox248 := own_empty wx246 5 1 w12.heap.size lez247
        have hx248 : Below wx246.heap.size wx246 (wx246.alloc (.cells #[] 5)) := (Below.refl _ _).alloc (Nat.le_refl _) _
        have Bx249 := Bx247.trans (hx248.mono Bx247.size)
        have kyx249 := kyx247.on hx248
        have bpx249 := bpx247.on hx248
        have bxx249 := bxx247.on hx248
        have akx249 := akx247.on hx248
        have t7x249 := t7x247.on hx248
        have ix249 := rix2460.on hx248
        have lez249 := Nat.le_trans lez247 hx248.size
        refine hK _ _ bpx249 ?_
        clear hK K
        refine plan_one _ rfl fun K hK => ?_
        refine step_append_src rfl (.tmp 110) (.tmp 113) _ _ rfl w12.heap.size 5 i0 _ 1 1 Tryd.underlying34 hi0 hz0 hz1 hz2 rfl _ _ _ rfl ox248 E.length _ (Src.ofReads _ Tryd.underlying34 ix249 (bvs_one _)) (by unfold maxLen; omega) (by omega) lez249 ?_
        intro vx250 wx250 ox250 kx250 hx250
        have Bx250 := Bx249.trans (hx250.mono B12.size)
        have lex250 := Nat.le_trans lez249 hx250.size
        have kyx250 := kyx249.kept kx250 (kyx249.not_row (by decide) ox248)
        have bpx250 := bpx249.kept kx250 (bpx249.not_row (by decide) ox248)
        have bxx250 := bxx249.kept kx250 (bxx249.not_row (by decide) ox248)
        have akx250 := akx249.kept kx250 (akx249.not_row (by decide) ox248)
        have t7x250 := t7x249.kept kx250 (t7x249.not_row (by decide) ox248)
        rw [Nat.zero_add, List.nil_append] at ox250
        refine hK _ _ bpx250 ?_
        clear hK K
        simp only [Act.put, List.setIfInBounds_toArray, List.set_cons_zero, List.set_cons_succ]
        refine plan_one _ rfl fun K hK => ?_
        go_simp
        refine ((HBY _).out).mono ?_
        rintro e wx251 ⟨vx251, rfl, ox251, hx251⟩
        obtain ⟨Ax251, cx251, rfl, cbx251, _, rbx2510⟩ := own_form ox251
        clear ox251
        have Bx252 := Bx250.trans (hx251.mono Bx250.size)
        have ox252 := own_below ox250 hx251
        have kyx252 := kyx250.on hx251
        have bpx252 := bpx250.on hx251
        have bxx252 := bxx250.on hx251
        have akx252 := akx250.on hx251
        have t7x252 := t7x250.on hx251
        have lez252 := Nat.le_trans lex250 hx251.size
        refine hK _ _ bpx252 ?_
        clear hK K
        refine plan_one _ rfl fun K hK => ?_
        refine step_append_src rfl (.tmp 114) (.tmp 117) _ _ rfl w12.heap.size 5 i0 _ 1 1 Tryd.underlying34 hi0 hz0 hz1 hz2 rfl _ _ _ rfl ox252 EB.length _ (Src.ofReads _ Tryd.underlying34 rbx2510 (bvs_one _)) (by unfold maxLen; omega) (by omega) lez252 ?_
        intro vx253 wx253 ox253 kx253 hx253
        have Bx253 := Bx252.trans (hx253.mono B12.size)
        have lex253 := Nat.le_trans lez252 hx253.size
        have kyx253 := kyx252.kept kx253 (kyx252.not_row (by decide) ox252)
        have bpx253 := bpx252.kept kx253 (bpx252.not_row (by decide) ox252)
        have bxx253 := bxx252.kept kx253 (bxx252.not_row (by decide) ox252)
        have akx253 := akx252.kept kx253 (akx252.not_row (by decide) ox252)
        have t7x253 := t7x252.kept kx253 (t7x252.not_row (by decide) ox252)
        rw [← bvs_append] at ox253
        obtain ⟨Ax253, cx253, rfl, cmx253, _, rmx253⟩ := own_form ox253
        refine hK _ _ bpx253 ?_
        clear hK K
        simp only [Act.put, List.setIfInBounds_toArray, List.set_cons_zero, List.set_cons_succ]
        refine plan_one _ rfl fun K hK => ?_
        go_simp
        refine (mac_any _ Ax253 16 cx253 AK (E ++ EB) 16 (E.length + EB.length) _ (hCo.on Bx253) (akx253.reads16 HAL.out) (Nat.le_refl _) (by omega) rmx253 cmx253 (by omega)).mono ?_
        rintro e wx254 ⟨rfl, hx254⟩
        rw [← HTE.out]
        have Bx255 := Bx253.trans (hx254.mono Bx253.size)
        have kyx255 := kyx253.on hx254
        have bpx255 := bpx253.on hx254
        have bxx255 := bxx253.on hx254
        have akx255 := akx253.on hx254
        have t7x255 := t7x253.on hx254
        have mbx255 := rmx253.on hx254
        have lez255 := Nat.le_trans lex253 hx254.size
        refine hK _ _ bpx255 ?_
        clear hK K
        refine plan_one _ rfl fun K hK => ?_
        refine step_store_all rfl _ _ _ rfl w12.drew.heap.size rfl _ _ t7x255 (bvs AG) rfl (bvs_one _) (b16_zeros _ HAG.out) (b16_size _ HAG.out) ?_
        intro wx256 rx256 kx256
        have Bx256 := below_kept Bx255 kx256 Bx255.size (by rintro k hk; cases hk; exact zzx233)
        have kyx256 := kyx255.kept kx256 (by simp; omega)
        have bpx256 := bpx255.kept kx256 (by simp; omega)
        have bxx256 := bxx255.kept kx256 (by simp; omega)
        have akx256 := akx255.kept kx256 (by simp; omega)
        refine hK _ _ bpx256 ?_
        clear hK K
        simp only [Act.put]
        refine plan_done ?_
        go_wp2_with fail
        go_meet
        exact ⟨_, rfl, rx256, kyx256, bpx256, bxx256, Bx256⟩
  case rest =>
    obtain ⟨g, rfl, hwt, hky, hxx, hbx, hbc⟩ := hcut
    cases ob
    · have hoe : oe = 8 := HE.out
      rw [hoe] at HO1
      clear hoe HE
      go_wp2_with (first
        | (refine wpList_valueG (o := ⟨some 121, _, _, _, _, _⟩) rfl _ (by exact exec_load16 _ _ rfl _ rfl key HK.out hky.cells) ?_)
        | (refine wpList_valueG (o := ⟨some 122, _, _, _, _, _⟩) rfl _ (by exact exec_load_box _ _ rfl _ rfl n C2 T HT.out hxx.cells) ?_))
      refine ((HO1 _ (hCo.on hbc)).out).mono ?_
      rintro e w51 ⟨rfl, h51⟩
      have B51 := hbc.trans (h51.mono hbc.size)
      have K_51 := (hCo.on hbc).on h51
      have ky_51 := hky.on h51
      have x_51 := hxx.on h51
      have bx_51 := hbx.on h51
      have wt_51 := hwt.on h51
      go_wp2_with (first
        | (refine wpList_valueG (o := ⟨some 130, _, _, _, _, _⟩) rfl _ (by exact exec_load16 _ _ rfl _ rfl AG HAG.out wt_51.cells) ?_)
        | (refine wpList_valueG (o := ⟨some 132, _, _, _, _, _⟩) rfl _ (by exact exec_load16 _ _ rfl _ rfl T HT.out bx_51.tag) ?_)
        | (refine wpList_valueG (o := ⟨some 133, _, _, _, _, _⟩) rfl (.bool false) (by rw [show (false : Bool) = (AG == T) from HO.out.symm]; exact exec_eql16 _ _ _ rfl AG T HAG.out HT.out rfl rfl) ?_))
      go_ret
      exact ⟨rfl, B51⟩
    · have hoe : oe = 0 := HE.out
      rw [hoe] at HO1
      clear hoe HE
      go_wp2_with (first
        | (refine wpList_valueG (o := ⟨some 121, _, _, _, _, _⟩) rfl _ (by exact exec_load16 _ _ rfl _ rfl key HK.out hky.cells) ?_)
        | (refine wpList_valueG (o := ⟨some 122, _, _, _, _, _⟩) rfl _ (by exact exec_load_box _ _ rfl _ rfl n C2 T HT.out hxx.cells) ?_))
      refine ((HO1 _ (hCo.on hbc)).out).mono ?_
      rintro e w51 ⟨rfl, h51⟩
      have B51 := hbc.trans (h51.mono hbc.size)
      have K_51 := (hCo.on hbc).on h51
      have ky_51 := hky.on h51
      have x_51 := hxx.on h51
      have bx_51 := hbx.on h51
      have wt_51 := hwt.on h51
      go_wp2_with (first
        | (refine wpList_valueG (o := ⟨some 130, _, _, _, _, _⟩) rfl _ (by exact exec_load16 _ _ rfl _ rfl AG HAG.out wt_51.cells) ?_)
        | (refine wpList_valueG (o := ⟨some 132, _, _, _, _, _⟩) rfl _ (by exact exec_load16 _ _ rfl _ rfl T HT.out bx_51.tag) ?_)
        | (refine wpList_valueG (o := ⟨some 133, _, _, _, _, _⟩) rfl (.bool true) (by rw [show (true : Bool) = (AG == T) from HO.out.symm]; exact exec_eql16 _ _ _ rfl AG T HAG.out HT.out rfl rfl) ?_))
      go_ret
      exact ⟨rfl, B51⟩
end Go.Proofs.YtdgflobdnkopbaaDoor
