/-
  BoxStream's walk. Condition: the table of constants as laid.
-/
import Derived.Test.YtdgflobdnkopbaaDoorBxE
namespace Go.Proofs.YtdgflobdnkopbaaDoor
open Go.RowKit

set_option maxRecDepth 100000 in
set_option maxHeartbeats 4000000 in
theorem walk65_a (key : List UInt8) (hkey : key.length = 16) (n : Int) (_hn1 : -9223372036854775808 ≤ n) (_hn2 : n ≤ 9223372036854775807) (a b : ByteArray) (ha : 300 < a.size) (hab : a.size ≤ 140737488351232) (w : World) (hCo : Consts w) :
    Calls Tryd.prog 7 #[.agg (bvs key).toArray, .int .i64 n, .string a, .string b] w (TellsB true w) := by
  have HK := Lib.hid hkey
  have HSA := fun W hW => Lib.hid (sanity6_any W hW)
  have h3 : decide (300 < (a.size : Int)) = true := decide_eq_true (by omega)
  clear hkey
  go_enter Tryd.func7, Tryd.ntmps7
  go_wp2_with (with_reducible refine wpList_box_row (o := ⟨some 4, _, _, _, _, _⟩) rfl _ _ rfl (bvs key) rfl ?_; intro w1 ky_1 s1 g1; have k1 : Below w.heap.size w w1 := grown_below g1 (Nat.le_refl _) (by simp); have B1 : Below w.heap.size w w1 := k1; have K_1 := hCo.on k1)
  refine ((HSA _ K_1).out).mono ?_
  rintro e w2 ⟨rfl, h2⟩
  have B2 := B1.trans (h2.mono B1.size)
  have K_2 := K_1.on h2
  have ky_2 := ky_1.on h2
  clear K_1 ky_1
  go_wp2_with fail
  go_ret
  exact ⟨rfl, B2⟩

set_option maxRecDepth 100000 in
set_option maxHeartbeats 4000000 in
theorem walk65_b (key : List UInt8) (hkey : key.length = 16) (n : Int) (_hn1 : -9223372036854775808 ≤ n) (_hn2 : n ≤ 9223372036854775807) (a b : ByteArray) (ha : a.size ≤ 300) (hb : 300 < b.size) (hbb : b.size ≤ 140737488351232) (w : World) (hCo : Consts w) :
    Calls Tryd.prog 7 #[.agg (bvs key).toArray, .int .i64 n, .string a, .string b] w (TellsB true w) := by
  have HK := Lib.hid hkey
  have HSA := fun W hW => Lib.hid (sanity6_any W hW)
  have h3 : decide (300 < (a.size : Int)) = false := decide_eq_false (by omega)
  have h4 : decide (300 < (b.size : Int)) = true := decide_eq_true (by omega)
  clear hkey
  go_enter Tryd.func7, Tryd.ntmps7
  go_wp2_with (with_reducible refine wpList_box_row (o := ⟨some 4, _, _, _, _, _⟩) rfl _ _ rfl (bvs key) rfl ?_; intro w1 ky_1 s1 g1; have k1 : Below w.heap.size w w1 := grown_below g1 (Nat.le_refl _) (by simp); have B1 : Below w.heap.size w w1 := k1; have K_1 := hCo.on k1)
  refine ((HSA _ K_1).out).mono ?_
  rintro e w2 ⟨rfl, h2⟩
  have B2 := B1.trans (h2.mono B1.size)
  have K_2 := K_1.on h2
  have ky_2 := ky_1.on h2
  clear K_1 ky_1
  go_wp2_with fail
  go_ret
  exact ⟨rfl, B2⟩

set_option maxRecDepth 100000 in
set_option maxHeartbeats 4000000 in
theorem walk65_both (key : List UInt8) (hkey : key.length = 16) (n : Int) (hn1 : -9223372036854775808 ≤ n) (hn2 : n ≤ 9223372036854775807) (a b : ByteArray) (ha : a.size ≤ 300) (hb : b.size ≤ 300) (w : World) (hCo : Consts w) :
    Calls Tryd.prog 7 #[.agg (bvs key).toArray, .int .i64 n, .string a, .string b] w (TellsB true w) := by
  have HK := Lib.hid hkey
  have HSA := fun W hW => Lib.hid (sanity6_any W hW)
  have h3 : decide (300 < (a.size : Int)) = false := decide_eq_false (by omega)
  have h4 : decide (300 < (b.size : Int)) = false := decide_eq_false (by omega)
  obtain ⟨C1, T1, hC1, hT1, hCs1, hTl1, HS1⟩ := seal_as key hkey n hn1 hn2 a (by omega)
  obtain ⟨C2, T2, hC2, hT2, hCs2, hTl2, HS2⟩ := seal_as key hkey n hn1 hn2 b (by omega)
  have HPQ : ∀ k, k < a.size → k < b.size → ∃ x y p q, a.data.toList[k]? = some x ∧ b.data.toList[k]? = some y ∧ C1.data.toList[k]? = some p ∧ C2.data.toList[k]? = some q ∧ p ^^^ q = x ^^^ y := fun k hka hkb => by
    have hx : a.data.toList[k]? = some (a.data.toList[k]'(by simpa using hka)) := List.getElem?_eq_getElem _
    have hy : b.data.toList[k]? = some (b.data.toList[k]'(by simpa using hkb)) := List.getElem?_eq_getElem _
    obtain ⟨p, q, hp, hq, hpq⟩ := cryp_differ key n a.data.toList b.data.toList k _ _ hx hy
    exact ⟨_, _, p, q, hx, hy, by rw [hC1]; exact hp, by rw [hC2]; exact hq, hpq⟩
  have hne1 : ((C1.size : Int) != (a.size : Int)) = false := by rw [hCs1]; simp
  have hne2 : ((C2.size : Int) != (b.size : Int)) = false := by rw [hCs2]; simp
  clear hkey hC1 hC2 hT1 hT2 hTl1 hTl2
  go_enter Tryd.func7, Tryd.ntmps7
  go_wp2_with (with_reducible refine wpList_box_row (o := ⟨some 4, _, _, _, _, _⟩) rfl _ _ rfl (bvs key) rfl ?_; intro w1 ky_1 s1 g1; have k1 : Below w.heap.size w w1 := grown_below g1 (Nat.le_refl _) (by simp); have B1 : Below w.heap.size w w1 := k1; have K_1 := hCo.on k1)
  refine ((HSA _ K_1).out).mono ?_
  rintro e w2 ⟨rfl, h2⟩
  have B2 := B1.trans (h2.mono B1.size)
  have K_2 := K_1.on h2
  have ky_2 := ky_1.on h2
  clear K_1 ky_1
  go_wp2_with (refine wpList_valueG (o := ⟨some 23, _, _, _, _, _⟩) rfl _ (by exact exec_load16 _ _ rfl _ rfl key HK.out ky_2.cells) ?_)
  refine ((HS1 _ K_2).out).mono ?_
  rintro e w3 ⟨rfl, h3⟩
  have B3 := B2.trans (h3.mono B2.size)
  have K_3 := K_2.on h3
  have ky_3 := ky_2.on h3
  clear K_2 ky_2
  go_wp2_with (first
    | (refine wpList_valueG (o := ⟨some 27, _, _, _, _, _⟩) rfl _ (by exact exec_field_str _ _ rfl n C1 T1 rfl) ?_)
    | (refine wpList_valueG (o := ⟨some 28, _, _, _, _, _⟩) rfl _ (by exact exec_load16 _ _ rfl _ rfl key HK.out ky_3.cells) ?_))
  refine ((HS2 _ K_3).out).mono ?_
  rintro e w4 ⟨rfl, h4⟩
  have B4 := B3.trans (h4.mono B3.size)
  have K_4 := K_3.on h4
  have ky_4 := ky_3.on h4
  clear K_3 ky_3
  go_wp2_with (refine wpList_valueG (o := ⟨some 32, _, _, _, _, _⟩) rfl _ (by exact exec_field_str _ _ rfl n C2 T2 rfl) ?_)
  skip
  go_loopg [12] (min a.size b.size) (fun gg s12 wr => ∃ k : Nat, s12 = .int .i64 (k : Int) ∧ k ≤ a.size ∧ k ≤ b.size ∧ Hid (k + gg = min a.size b.size) ∧ Below w.heap.size w wr)
  case atStart => exact ⟨0, rfl, by omega, by omega, by show _ = _; omega, B4⟩
  case round =>
    obtain ⟨k, rfl, hka, hkb, HK2, hbr⟩ := hrel
    by_cases hla : k < a.size
    · by_cases hlb : k < b.size
      · obtain ⟨x, y, p, q, hx, hy, hp, hq, hpq⟩ := HPQ k hla hlb
        have HX := Lib.hid hx
        have HY := Lib.hid hy
        have HP := Lib.hid hp
        have HQ := Lib.hid hq
        have hx1 := u8_mask p q
        have hx2 := u8_mask x y
        rw [hpq] at hx1
        have hd1 : decide (k < a.size) = true := decide_eq_true hla
        have hd2 : decide (k < b.size) = true := decide_eq_true hlb
        have hd3 : decide ((k : Int) < (a.size : Int)) = true := decide_eq_true (by omega)
        have hd4 : decide ((k : Int) < (b.size : Int)) = true := decide_eq_true (by omega)
        clear hx hy hp hq hpq HPQ
        generalize x ^^^ y = z at *
        go_wp2_with fail
        refine wp_region_plan (fun _ => True) (.take 0 <| .take 1 <| .take 2 <| .take 3 <| .take 4 <| .take 5 <| .take 6 <| .take 7 <| .take 8 <| .take 9 <| .take 10 <| .take 11 <| .take 12 <| .take 13 <| .take 14 <| .done) (by kernel_rfl) (by kernel_rfl) (by kernel_rfl) (fun _ _ _ _ _ h => h) trivial ?_
        repeat (refine plan_take _ rfl ?_; (first | (refine wpQuiet_valueG (o := ⟨some 59, _, _, _, _, _⟩) rfl _ (by intro _ _; exact exec_index_str _ _ _ _ rfl Tryd.underlying9 C1 rfl k rfl p HP.out) (wpQuiet_nil ?_); simp only [Act.put, List.setIfInBounds_toArray, List.set_cons_zero, List.set_cons_succ]) | (refine wpQuiet_valueG (o := ⟨some 62, _, _, _, _, _⟩) rfl _ (by intro _ _; exact exec_index_str _ _ _ _ rfl Tryd.underlying9 C2 rfl k rfl q HQ.out) (wpQuiet_nil ?_); simp only [Act.put, List.setIfInBounds_toArray, List.set_cons_zero, List.set_cons_succ]) | (refine wpQuiet_valueG (o := ⟨some 66, _, _, _, _, _⟩) rfl _ (by intro _ _; exact exec_index_str _ _ _ _ rfl Tryd.underlying9 a rfl k rfl x HX.out) (wpQuiet_nil ?_); simp only [Act.put, List.setIfInBounds_toArray, List.set_cons_zero, List.set_cons_succ]) | (refine wpQuiet_valueG (o := ⟨some 69, _, _, _, _, _⟩) rfl _ (by intro _ _; exact exec_index_str _ _ _ _ rfl Tryd.underlying9 b rfl k rfl y HY.out) (wpQuiet_nil ?_); simp only [Act.put, List.setIfInBounds_toArray, List.set_cons_zero, List.set_cons_succ]) | (go_big_quiet_step ((intros; rfl)); refine wpQuiet_nil ?_)))
        refine plan_done ?_
        go_wp2_with fail
        go_roundg (gk - 1)
        case measure => have := HK2.out; omega
        case rel => exact ⟨k + 1, by go_num, by omega, by omega, by have := HK2.out; show _ = _; omega, hbr.drew⟩
      · have hd1 : decide (k < a.size) = true := decide_eq_true hla
        have hd2 : decide (k < b.size) = false := decide_eq_false hlb
        have hd3 : decide ((k : Int) < (a.size : Int)) = true := decide_eq_true (by omega)
        have hd4 : decide ((k : Int) < (b.size : Int)) = false := decide_eq_false (by omega)
        go_wp2_with fail
        go_ret
        exact ⟨rfl, hbr⟩
    · have hd1 : decide (k < a.size) = false := decide_eq_false hla
      have hd3 : decide ((k : Int) < (a.size : Int)) = false := decide_eq_false (by omega)
      go_wp2_with fail
      go_ret
      exact ⟨rfl, hbr⟩

theorem walk65 (key : List UInt8) (hkey : key.length = 16) (n : Int) (hn1 : -9223372036854775808 ≤ n) (hn2 : n ≤ 9223372036854775807) (a b : ByteArray) (hab : a.size ≤ 140737488351232) (hbb : b.size ≤ 140737488351232) (w : World) (hCo : Consts w) :
    Calls Tryd.prog 7 #[.agg (bvs key).toArray, .int .i64 n, .string a, .string b] w (TellsB true w) := by
  by_cases ha : 300 < a.size
  · exact walk65_a key hkey n hn1 hn2 a b ha hab w hCo
  by_cases hb : 300 < b.size
  · exact walk65_b key hkey n hn1 hn2 a b (by omega) hb hbb w hCo
  · exact walk65_both key hkey n hn1 hn2 a b (by omega) (by omega) w hCo
end Go.Proofs.YtdgflobdnkopbaaDoor
