/-
  BoxTampered's walk: a long text, no change; a changed tag. Condition: the table of constants as laid.
-/
import Derived.Test.YtdgflobdnkopbaaDoorBxE
namespace Go.Proofs.YtdgflobdnkopbaaDoor
open Go.RowKit

set_option maxRecDepth 100000 in
set_option maxHeartbeats 4000000 in
theorem walk64_long (key : List UInt8) (hkey : key.length = 16) (n : Int) (_hn1 : -9223372036854775808 ≤ n) (_hn2 : n ≤ 9223372036854775807) (s : ByteArray) (a : Nat) (_ha : a ≤ 65535) (b : UInt8) (z : Nat) (_hz : z ≤ 255) (hs : 300 < s.size) (hsb : s.size ≤ 140737488351232) (w : World) (hCo : Consts w) :
    Calls Tryd.prog 6 #[.agg (bvs key).toArray, .int .i64 n, .string s, .int .u16 (a : Int), .int .u8 (b.toNat : Int), .int .u8 (z : Int)] w (TellsB true w) := by
  have HK := Lib.hid hkey
  have HSA := fun W hW => Lib.hid (sanity6_any W hW)
  have h3 : decide (300 < (s.size : Int)) = true := decide_eq_true (by omega)
  clear hkey
  go_enter Tryd.func6, Tryd.ntmps6
  go_wp2_with (with_reducible refine wpList_box_row (o := ⟨some 6, _, _, _, _, _⟩) rfl _ _ rfl (bvs key) rfl ?_; intro w1 ky_1 s1 g1; have k1 : Below w.heap.size w w1 := grown_below g1 (Nat.le_refl _) (by simp); have B1 : Below w.heap.size w w1 := k1; have K_1 := hCo.on k1)
  refine ((HSA _ K_1).out).mono ?_
  rintro e w2 ⟨rfl, h2⟩
  have B2 := B1.trans (h2.mono B1.size)
  have K_2 := K_1.on h2
  have ky_2 := ky_1.on h2
  clear K_1 ky_1
  go_wp2_with fail
  go_ret
  exact ⟨rfl, B2⟩

set_option maxRecDepth 100000 in
set_option maxHeartbeats 4000000 in
theorem walk64_none (key : List UInt8) (hkey : key.length = 16) (n : Int) (_hn1 : -9223372036854775808 ≤ n) (_hn2 : n ≤ 9223372036854775807) (s : ByteArray) (a : Nat) (_ha : a ≤ 65535) (b : UInt8) (z : Nat) (_hz : z ≤ 255) (hs : s.size ≤ 300) (hb : b = 0) (w : World) (hCo : Consts w) :
    Calls Tryd.prog 6 #[.agg (bvs key).toArray, .int .i64 n, .string s, .int .u16 (a : Int), .int .u8 (b.toNat : Int), .int .u8 (z : Int)] w (TellsB true w) := by
  have HK := Lib.hid hkey
  have HSA := fun W hW => Lib.hid (sanity6_any W hW)
  have h3 : decide (300 < (s.size : Int)) = false := decide_eq_false (by omega)
  have h4 : ((b.toNat : Int) == 0) = true := by rw [hb]; rfl
  clear hkey hb
  go_enter Tryd.func6, Tryd.ntmps6
  go_wp2_with (with_reducible refine wpList_box_row (o := ⟨some 6, _, _, _, _, _⟩) rfl _ _ rfl (bvs key) rfl ?_; intro w1 ky_1 s1 g1; have k1 : Below w.heap.size w w1 := grown_below g1 (Nat.le_refl _) (by simp); have B1 : Below w.heap.size w w1 := k1; have K_1 := hCo.on k1)
  refine ((HSA _ K_1).out).mono ?_
  rintro e w2 ⟨rfl, h2⟩
  have B2 := B1.trans (h2.mono B1.size)
  have K_2 := K_1.on h2
  have ky_2 := ky_1.on h2
  clear K_1 ky_1
  go_wp2_with fail
  go_ret
  exact ⟨rfl, B2⟩

theorem box_set_tag (n : Int) (s : ByteArray) (t : List UInt8) (j : Nat) (b : UInt8) : (boxCs n s t).set (2 + j) (.int .u8 (b.toNat : Int)) = boxCs n s (t.set j b) := by
  rw [Nat.add_comm]
  show _ :: _ :: (bvs t).set j _ = _ :: _ :: bvs (t.set j b)
  unfold bvs
  rw [List.map_set]
  rfl
theorem xor_ne {x b : UInt8} (h : b ≠ 0) : x ^^^ b ≠ x := by
  intro e
  have h2 : x ^^^ (x ^^^ b) = x ^^^ x := by rw [e]
  rw [← UInt8.xor_assoc, UInt8.xor_self, UInt8.zero_xor] at h2
  exact h h2
set_option maxRecDepth 100000 in
set_option maxHeartbeats 4000000 in
theorem walk64_tag (key : List UInt8) (hkey : key.length = 16) (n : Int) (hn1 : -9223372036854775808 ≤ n) (hn2 : n ≤ 9223372036854775807) (s : ByteArray) (a : Nat) (ha : a ≤ 65535) (b : UInt8) (z : Nat) (hz : z ≤ 255) (hs : s.size ≤ 300) (hb : b ≠ 0) (hzr : (z : Int) % 3 = 2) (w : World) (hCo : Consts w) :
    Calls Tryd.prog 6 #[.agg (bvs key).toArray, .int .i64 n, .string s, .int .u16 (a : Int), .int .u8 (b.toNat : Int), .int .u8 (z : Int)] w (TellsB true w) := by
  have HK := Lib.hid hkey
  have HSA := fun W hW => Lib.hid (sanity6_any W hW)
  have h3 : decide (300 < (s.size : Int)) = false := decide_eq_false (by omega)
  have hb8 : b.toNat < 256 := b.toNat_lt
  have hbn : b.toNat ≠ 0 := fun h => hb (UInt8.toNat_inj.1 h)
  have h4 : ((b.toNat : Int) == 0) = false := by simpa using hbn
  obtain ⟨C, T, hC, hT, hCs, hTl, HSE⟩ := seal_as key hkey n hn1 hn2 s (by omega)
  have HT := Lib.hid hTl
  have HZ := Lib.hid (zbox_len n C T hTl)
  have HB := Lib.hid (box_size n C T hTl)
  obtain ⟨j, hj⟩ : ∃ j : Nat, (a : Int) % 16 = (j : Int) := ⟨a % 16, by omega⟩
  have hj16 : j < 16 := by omega
  obtain ⟨x0, hx0⟩ : ∃ x0, T[j]? = some x0 := ⟨_, List.getElem?_eq_getElem (by omega)⟩
  have HX0 : Hid ((boxCs n C T)[2 + j]? = some (.int .u8 (x0.toNat : Int))) := by
    show _ = _
    rw [Nat.add_comm]
    show (bvs T)[j]? = _
    unfold bvs
    rw [List.getElem?_map, hx0]
    rfl
  have HSET := Lib.hid (box_set_tag n C T j (x0 ^^^ b))
  have HJL : Hid (2 + j < (boxCs n C T).length) := by show _ < _; rw [box_len n C T hTl]; omega
  have HT2 : Hid ((T.set j (x0 ^^^ b)).length = 16) := by show _ = _; rw [List.length_set]; exact hTl
  have HO2 : ∀ W (_ : Consts W), Hid (Calls Tryd.prog 9 #[.agg (bvs key).toArray, .agg (boxCs n C (T.set j (x0 ^^^ b))).toArray] W fun e w' => e = .returned (.tuple #[.string ⟨#[]⟩, .int .i64 8]) ∧ Below W.heap.size W w') := fun W hW => by
    have e := open_any key hkey n hn1 hn2 C (by omega) (T.set j (x0 ^^^ b)) HT2.out W hW
    have h1 : C.data.toList = cryp key n s.data.toList := by rw [hC]
    have h2 : opens key n (cryp key n s.data.toList) (T.set j (x0 ^^^ b)) = false := by
      unfold opens
      rw [← hT, beq_eq_false_iff_ne]
      intro e2
      have e3 := congrArg (·[j]?) e2
      simp only [hx0, List.getElem?_set_self (show j < T.length by omega)] at e3
      exact xor_ne hb (Option.some.inj e3)
    unfold openS openE at e
    rw [h1, h2] at e
    exact e
  have hxor := u8_mask x0 b
  generalize T.set j (x0 ^^^ b) = T2 at *
  generalize x0 ^^^ b = xb at *
  clear hkey hC hT hTl hx0 hb hbn
  go_enter Tryd.func6, Tryd.ntmps6
  go_wp2_with (with_reducible refine wpList_box_row (o := ⟨some 6, _, _, _, _, _⟩) rfl _ _ rfl (bvs key) rfl ?_; intro w1 ky_1 s1 g1; have k1 : Below w.heap.size w w1 := grown_below g1 (Nat.le_refl _) (by simp); have B1 : Below w.heap.size w w1 := k1; have K_1 := hCo.on k1)
  refine ((HSA _ K_1).out).mono ?_
  rintro e w2 ⟨rfl, h2⟩
  have B2 := B1.trans (h2.mono B1.size)
  have K_2 := K_1.on h2
  have ky_2 := ky_1.on h2
  clear K_1 ky_1
  go_wp2_with (refine wpList_valueG (o := ⟨some 32, _, _, _, _, _⟩) rfl _ (by exact exec_load16 _ _ rfl _ rfl key HK.out ky_2.cells) ?_)
  refine ((HSE _ K_2).out).mono ?_
  rintro e w3 ⟨rfl, h3⟩
  have B3 := B2.trans (h3.mono B2.size)
  have K_3 := K_2.on h3
  have ky_3 := ky_2.on h3
  clear K_2 ky_2
  go_wp2_with (first
    | (with_reducible refine wpList_alloc_row (o := ⟨some 14, _, _, _, _, _⟩) rfl _ rfl zbox zero_box ?_; intro w4 r4 s4 g4)
    | (with_reducible refine wpList_at ⟨none, .store _ (.tmp 14) _, _, _, _, _⟩ ?_; refine wpList_store_all rfl _ _ _ rfl w3.heap.size rfl _ _ r4 (boxCs n C T) rfl (box_one _ _ _) HZ.out HB.out ?_; intro w5 bx_5 g5; have z5ky := ky_3.lt; have zz5 := B3.size; have k5 : Below w3.heap.size w3 w5 := below_kept (grown_below g4 (Nat.le_refl _) (by simp)) g5 (Nat.le_of_lt s4) (by rintro q hq; cases hq; exact Nat.le_refl _); have B5 := B3.trans (k5.mono B3.size); have K_5 := K_3.on k5; have ky_5 := ky_3.on k5; clear K_3 ky_3; clear r4 g4 g5)
    | (refine wpList_valueG (o := ⟨some 36, _, _, _, _, _⟩) rfl _ (by exact exec_load_box _ _ rfl _ rfl n C T HT.out bx_5.cells) ?_)
    | (with_reducible refine wpList_alloc_row (o := ⟨some 15, _, _, _, _, _⟩) rfl _ rfl zbox zero_box ?_; intro w6 r6 s6 g6)
    | (with_reducible refine wpList_at ⟨none, .store _ (.tmp 15) _, _, _, _, _⟩ ?_; refine wpList_store_all rfl _ _ _ rfl w5.heap.size rfl _ _ r6 (boxCs n C T) rfl (box_one _ _ _) HZ.out HB.out ?_; intro w7 x_7 g7; have z7ky := ky_5.lt; have z7bx := bx_5.lt; have zz7 := B5.size; have k7 : Below w5.heap.size w5 w7 := below_kept (grown_below g6 (Nat.le_refl _) (by simp)) g7 (Nat.le_of_lt s6) (by rintro q hq; cases hq; exact Nat.le_refl _); have B7 := B5.trans (k7.mono B5.size); have K_7 := K_5.on k7; have ky_7 := ky_5.on k7; have bx_7 := bx_5.on k7; clear K_5 ky_5 bx_5; clear r6 g6 g7)
    | (refine wpList_valueG (o := ⟨some 91, _, _, _, _, _⟩) rfl _ (by exact exec_load1 _ 5 _ rfl ⟨w5.heap.size, 2 + j, none⟩ rfl (.int .u8 (x0.toNat : Int)) (x_7.cell (j := 2 + j) HX0.out) _ Tryd.underlying5 rfl) ?_)
    | (with_reducible refine wpList_at ⟨none, .store _ (.tmp 95) _, _, _, _, _⟩ ?_; refine wpList_store_elem rfl _ _ _ rfl w5.heap.size (2 + j) rfl _ _ x_7 (.int .u8 (xb.toNat : Int)) rfl rfl HJL.out (by kernel_rfl) ?_; intro w8 x_8 g8; rw [HSET.out] at x_8; have B8 := below_kept B7 g8 B7.size (by rintro q hq; cases hq; first | exact Nat.le_refl _ | omega); have K_8 := hCo.on B8; have ky_8 := ky_7.kept g8 (by have := ky_7.lt; simp; omega); have bx_8 := bx_7.kept g8 (by have := bx_7.lt; simp; omega))
    | (refine wpList_valueG (o := ⟨some 97, _, _, _, _, _⟩) rfl _ (by exact exec_load16 _ _ rfl _ rfl key HK.out ky_8.cells) ?_)
    | (refine wpList_valueG (o := ⟨some 98, _, _, _, _, _⟩) rfl _ (by exact exec_load_box _ _ rfl _ rfl n C T2 HT2.out x_8.cells) ?_))
  refine ((HO2 _ K_8).out).mono ?_
  rintro e w9 ⟨rfl, h9⟩
  have B9 := B8.trans (h9.mono B8.size)
  have K_9 := K_8.on h9
  have ky_9 := ky_8.on h9
  have bx_9 := bx_8.on h9
  have x_9 := x_8.on h9
  clear K_8 ky_8 bx_8 x_8
  go_wp2_with fail
  go_ret
  exact ⟨rfl, B9⟩
end Go.Proofs.YtdgflobdnkopbaaDoor
