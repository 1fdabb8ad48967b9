/-
  TreesigMatchesSpec's walk: Root and Sign return what the reference returns. Condition: the table of constants as laid.
-/
import Derived.Test.YtfmcgcdppbcfjaaDoorSan5
namespace Go.Proofs.YtfmcgcdppbcfjaaDoor
open Go.RowKit

set_option maxRecDepth 100000 in
set_option maxHeartbeats 4000000 in
theorem walkT1 (seed msg : List UInt8) (hs : seed.length = 16) (hm : msg.length = 16) (h idx : Int) (h1 : -9223372036854775808 ≤ h) (h2 : h ≤ 9223372036854775807) (i1 : -9223372036854775808 ≤ idx) (i2 : idx ≤ 9223372036854775807) (w : World) (hCo : Consts w) :
    Calls Tryd.prog 3 #[.agg (bvs seed ++ ([Value.int .i64 h, Value.int .i64 idx] ++ bvs msg)).toArray] w (TellsB true w) := by
  have HS := Lib.hid hs
  have HM := Lib.hid hm
  have HRO := fun W hW => Lib.hid (troot_any seed hs h h1 h2 W hW)
  have HRR := fun W => Lib.hid (refTRoot_any seed hs h h1 h2 W)
  have HSO := fun W hW => Lib.hid (tsign_any seed msg hs hm h idx h1 h2 i1 i2 W hW)
  have HSR := fun W => Lib.hid (refTSign_any seed msg hs hm h idx h1 h2 i1 i2 W)
  have HSA := fun W hW => Lib.hid (sanity5_any W hW)
  have HDL := Lib.hid (tRoot_len seed h)
  have HCL := tChain_le seed h idx msg
  have HPL := tPath_le seed h idx
  have HSE := fun A B E F c d c' d' W hC hP hC' hP' => Lib.hid (refTSame_any (tIdx h idx) (tIdx h idx) A B E F (tChain seed h idx msg).length c (tPath seed h idx).length d (tChain seed h idx msg).length c' (tPath seed h idx).length d' (tChain seed h idx msg) (tPath seed h idx) (tChain seed h idx msg) (tPath seed h idx) W hC hP hC' hP' (by omega) (by omega) (by omega) (by omega))
  rw [tSame_self] at HSE
  generalize tRoot seed h = D at *
  generalize tRootE h = ER at *
  generalize tIdx h idx = IX at *
  generalize tChain seed h idx msg = C at *
  generalize tPath seed h idx = P at *
  generalize tErr h idx = ES at *
  obtain ⟨cs, hcs⟩ : ∃ cs : List Value, cs = bvs seed ++ ([Value.int .i64 h, Value.int .i64 idx] ++ bvs msg) := ⟨_, rfl⟩
  have hl16 : (bvs seed).length = 16 := by rw [bvs_length, hs]
  have HA1 : ∀ w g t, Row w g t cs → Hid (∀ j u, (bvs seed)[j]? = some u → w.cell? ((⟨g, 0, none⟩ : Addr).add j) = some u) := fun w g t hr => Row.part hr (pre := []) (post := [Value.int .i64 h, Value.int .i64 idx] ++ bvs msg) hcs rfl
  have HA4 : ∀ w g t, Row w g t cs → Hid (∀ j u, (bvs msg)[j]? = some u → w.cell? ((⟨g, 18, none⟩ : Addr).add j) = some u) := fun w g t hr => Row.part hr (pre := bvs seed ++ [Value.int .i64 h, Value.int .i64 idx]) (post := []) (by rw [hcs]; simp) (by rw [List.length_append, hl16]; rfl)
  have HA2 : Hid (cs[16]? = some (.int .i64 h)) := by show _ = _; rw [hcs, List.getElem?_append_right (by omega), hl16]; rfl
  have HA3 : Hid (cs[17]? = some (.int .i64 idx)) := by show _ = _; rw [hcs, List.getElem?_append_right (by omega), hl16]; rfl
  rw [← hcs]
  clear hcs hl16 hs hm
  go_enter Tryd.func3, Tryd.ntmps3
  go_wp2_with (first
    | (with_reducible refine wpList_box_row (o := ⟨some 1, _, _, _, _, _⟩) rfl _ _ rfl (cs) rfl ?_; intro w1 In_1 s1 g1; have k1 : Below w.heap.size w w1 := grown_below g1 (Nat.le_refl _) (by simp); have B1 : Below w.heap.size w w1 := k1; have K_1 := hCo.on k1)
    | (refine wpList_valueG (o := ⟨some 17, _, _, _, _, _⟩) rfl _ (by exact exec_load16 _ _ rfl _ rfl seed HS.out (HA1 _ _ _ In_1).out) ?_)
    | (with_reducible refine wpList_alloc_row (o := ⟨some 3, _, _, _, _, _⟩) rfl _ rfl zeros16 zero_b16 ?_; intro w2 r2 s2 g2)
    | (with_reducible refine wpList_at ⟨none, .store _ (.tmp 3) _, _, _, _, _⟩ ?_; refine wpList_store_all rfl _ _ _ rfl w1.heap.size rfl _ _ r2 (bvs seed) rfl (bvs_one _) (b16_zeros _ HS.out) (b16_size _ HS.out) ?_; intro w3 sd_3 g3; have k3 : Below w1.heap.size w1 w3 := below_kept (grown_below g2 (Nat.le_refl _) (by simp)) g3 (Nat.le_of_lt s2) (by rintro q hq; cases hq; exact Nat.le_refl _); have B3 := B1.trans (k3.mono B1.size); have K_3 := K_1.on k3; have In_3 := In_1.on k3; clear K_1 In_1; clear r2 g2 g3)
    | (refine wpList_valueG (o := ⟨some 19, _, _, _, _, _⟩) rfl _ (by exact exec_load1 _ 3 _ rfl ⟨w.heap.size, 16, none⟩ rfl _ (In_3.cell (j := 16) HA2.out) _ Tryd.underlying3 rfl) ?_)
    | (refine wpList_valueG (o := ⟨some 21, _, _, _, _, _⟩) rfl _ (by exact exec_load1 _ 3 _ rfl ⟨w.heap.size, 17, none⟩ rfl _ (In_3.cell (j := 17) HA3.out) _ Tryd.underlying3 rfl) ?_)
    | (refine wpList_valueG (o := ⟨some 23, _, _, _, _, _⟩) rfl _ (by exact exec_load16 _ _ rfl _ rfl msg HM.out (HA4 _ _ _ In_3).out) ?_)
    | (with_reducible refine wpList_alloc_row (o := ⟨some 6, _, _, _, _, _⟩) rfl _ rfl zeros16 zero_b16 ?_; intro w4 r4 s4 g4)
    | (with_reducible refine wpList_at ⟨none, .store _ (.tmp 6) _, _, _, _, _⟩ ?_; refine wpList_store_all rfl _ _ _ rfl w3.heap.size rfl _ _ r4 (bvs msg) rfl (bvs_one _) (b16_zeros _ HM.out) (b16_size _ HM.out) ?_; intro w5 mg_5 g5; have k5 : Below w3.heap.size w3 w5 := below_kept (grown_below g4 (Nat.le_refl _) (by simp)) g5 (Nat.le_of_lt s4) (by rintro q hq; cases hq; exact Nat.le_refl _); have B5 := B3.trans (k5.mono B3.size); have K_5 := K_3.on k5; have In_5 := In_3.on k5; have sd_5 := sd_3.on k5; clear K_3 In_3 sd_3; clear r4 g4 g5))
  refine ((HSA _ K_5).out).mono ?_
  rintro e w6 ⟨rfl, h6⟩
  have B6 := B5.trans (h6.mono B5.size)
  have K_6 := K_5.on h6
  have In_6 := In_5.on h6
  have sd_6 := sd_5.on h6
  have mg_6 := mg_5.on h6
  clear K_5 In_5 sd_5 mg_5
  go_wp2_with (refine wpList_valueG (o := ⟨some 26, _, _, _, _, _⟩) rfl _ (by exact exec_load16 _ _ rfl _ rfl seed HS.out sd_6.cells) ?_)
  refine ((HRO _ K_6).out).mono ?_
  rintro e w7 ⟨rfl, h7⟩
  have B7 := B6.trans (h7.mono B6.size)
  have K_7 := K_6.on h7
  have In_7 := In_6.on h7
  have sd_7 := sd_6.on h7
  have mg_7 := mg_6.on h7
  clear K_6 In_6 sd_6 mg_6
  go_wp2_with (first
    | (with_reducible refine wpList_alloc_row (o := ⟨some 8, _, _, _, _, _⟩) rfl _ rfl zeros16 zero_b16 ?_; intro w8 r8 s8 g8)
    | (with_reducible refine wpList_at ⟨none, .store _ (.tmp 8) _, _, _, _, _⟩ ?_; refine wpList_store_all rfl _ _ _ rfl w7.heap.size rfl _ _ r8 (bvs D) rfl (bvs_one _) (b16_zeros _ HDL.out) (b16_size _ HDL.out) ?_; intro w9 a_9 g9; have k9 : Below w7.heap.size w7 w9 := below_kept (grown_below g8 (Nat.le_refl _) (by simp)) g9 (Nat.le_of_lt s8) (by rintro q hq; cases hq; exact Nat.le_refl _); have B9 := B7.trans (k9.mono B7.size); have K_9 := K_7.on k9; have In_9 := In_7.on k9; have sd_9 := sd_7.on k9; have mg_9 := mg_7.on k9; clear K_7 In_7 sd_7 mg_7; clear r8 g8 g9)
    | (refine wpList_valueG (o := ⟨some 32, _, _, _, _, _⟩) rfl _ (by exact exec_load16 _ _ rfl _ rfl seed HS.out sd_9.cells) ?_))
  refine ((HRR _).out).mono ?_
  rintro e w10 ⟨rfl, h10⟩
  have B10 := B9.trans (h10.mono B9.size)
  have K_10 := K_9.on h10
  have In_10 := In_9.on h10
  have sd_10 := sd_9.on h10
  have mg_10 := mg_9.on h10
  have a_10 := a_9.on h10
  clear K_9 In_9 sd_9 mg_9 a_9
  go_wp2_with (first
    | (with_reducible refine wpList_alloc_row (o := ⟨some 10, _, _, _, _, _⟩) rfl _ rfl zeros16 zero_b16 ?_; intro w11 r11 s11 g11)
    | (with_reducible refine wpList_at ⟨none, .store _ (.tmp 10) _, _, _, _, _⟩ ?_; refine wpList_store_all rfl _ _ _ rfl w10.heap.size rfl _ _ r11 (bvs D) rfl (bvs_one _) (b16_zeros _ HDL.out) (b16_size _ HDL.out) ?_; intro w12 b_12 g12; have k12 : Below w10.heap.size w10 w12 := below_kept (grown_below g11 (Nat.le_refl _) (by simp)) g12 (Nat.le_of_lt s11) (by rintro q hq; cases hq; exact Nat.le_refl _); have B12 := B10.trans (k12.mono B10.size); have K_12 := K_10.on k12; have In_12 := In_10.on k12; have sd_12 := sd_10.on k12; have mg_12 := mg_10.on k12; have a_12 := a_10.on k12; clear K_10 In_10 sd_10 mg_10 a_10; clear r11 g11 g12)
    | (refine wpList_valueG (o := ⟨some 38, _, _, _, _, _⟩) rfl _ (by exact exec_load16 _ _ rfl _ rfl seed HS.out sd_12.cells) ?_)
    | (refine wpList_valueG (o := ⟨some 41, _, _, _, _, _⟩) rfl _ (by exact exec_load16 _ _ rfl _ rfl msg HM.out mg_12.cells) ?_))
  refine ((HSO _ K_12).out).mono ?_
  rintro e w13 ⟨A1, c1, B1, d1, rfl, hC1, hP1, _, _, h13⟩
  have B13 := B12.trans (h13.mono B12.size)
  have K_13 := K_12.on h13
  have In_13 := In_12.on h13
  have sd_13 := sd_12.on h13
  have mg_13 := mg_12.on h13
  have a_13 := a_12.on h13
  have b_13 := b_12.on h13
  clear K_12 In_12 sd_12 mg_12 a_12 b_12
  go_wp2_with (first
    | (with_reducible refine wpList_alloc_row (o := ⟨some 12, _, _, _, _, _⟩) rfl _ rfl sgz zero_sig ?_; intro w14 r14 s14 g14)
    | (with_reducible refine wpList_at ⟨none, .store _ (.tmp 12) _, _, _, _, _⟩ ?_; refine wpList_store_all rfl _ _ _ rfl w13.heap.size rfl _ _ r14 [.int .i64 IX, .slice A1 C.length c1, .slice B1 P.length d1] rfl (by simp [Value.oneCell']) rfl (sig_size _ _ _) ?_; intro w15 x_15 g15; have k15 : Below w13.heap.size w13 w15 := below_kept (grown_below g14 (Nat.le_refl _) (by simp)) g15 (Nat.le_of_lt s14) (by rintro q hq; cases hq; exact Nat.le_refl _); have B15 := B13.trans (k15.mono B13.size); have K_15 := K_13.on k15; have In_15 := In_13.on k15; have sd_15 := sd_13.on k15; have mg_15 := mg_13.on k15; have a_15 := a_13.on k15; have b_15 := b_13.on k15; have C1_15 := hC1.on k15; have P1_15 := hP1.on k15; clear K_13 In_13 sd_13 mg_13 a_13 b_13; clear r14 g14 g15)
    | (refine wpList_valueG (o := ⟨some 46, _, _, _, _, _⟩) rfl _ (by exact exec_load16 _ _ rfl _ rfl seed HS.out sd_15.cells) ?_)
    | (refine wpList_valueG (o := ⟨some 49, _, _, _, _, _⟩) rfl _ (by exact exec_load16 _ _ rfl _ rfl msg HM.out mg_15.cells) ?_))
  refine ((HSR _).out).mono ?_
  rintro e w16 ⟨A2, c2, B2, d2, rfl, hC2, hP2, _, _, h16⟩
  have B16 := B15.trans (h16.mono B15.size)
  have K_16 := K_15.on h16
  have In_16 := In_15.on h16
  have sd_16 := sd_15.on h16
  have mg_16 := mg_15.on h16
  have a_16 := a_15.on h16
  have b_16 := b_15.on h16
  have C1_16 := C1_15.on h16
  have P1_16 := P1_15.on h16
  have x_16 := x_15.on h16
  clear K_15 In_15 sd_15 mg_15 a_15 b_15 C1_15 P1_15 x_15
  go_wp2_with (first
    | (with_reducible refine wpList_alloc_row (o := ⟨some 14, _, _, _, _, _⟩) rfl _ rfl sgz zero_sig ?_; intro w17 r17 s17 g17)
    | (with_reducible refine wpList_at ⟨none, .store _ (.tmp 14) _, _, _, _, _⟩ ?_; refine wpList_store_all rfl _ _ _ rfl w16.heap.size rfl _ _ r17 [.int .i64 IX, .slice A2 C.length c2, .slice B2 P.length d2] rfl (by simp [Value.oneCell']) rfl (sig_size _ _ _) ?_; intro w18 y_18 g18; have k18 : Below w16.heap.size w16 w18 := below_kept (grown_below g17 (Nat.le_refl _) (by simp)) g18 (Nat.le_of_lt s17) (by rintro q hq; cases hq; exact Nat.le_refl _); have B18 := B16.trans (k18.mono B16.size); have K_18 := K_16.on k18; have In_18 := In_16.on k18; have sd_18 := sd_16.on k18; have mg_18 := mg_16.on k18; have a_18 := a_16.on k18; have b_18 := b_16.on k18; have C1_18 := C1_16.on k18; have P1_18 := P1_16.on k18; have x_18 := x_16.on k18; have C2_18 := hC2.on k18; have P2_18 := hP2.on k18; clear K_16 In_16 sd_16 mg_16 a_16 b_16 C1_16 P1_16 x_16; clear r17 g17 g18)
    | (refine wpList_valueG (o := ⟨some 55, _, _, _, _, _⟩) rfl _ (by exact exec_load16 _ _ rfl _ rfl D HDL.out a_18.cells) ?_)
    | (refine wpList_valueG (o := ⟨some 56, _, _, _, _, _⟩) rfl _ (by exact exec_load16 _ _ rfl _ rfl D HDL.out b_18.cells) ?_)
    | (refine wpList_valueG (o := ⟨some 57, _, _, _, _, _⟩) rfl _ (by exact exec_eql16_same _ _ _ rfl D HDL.out rfl rfl) ?_)
    | (refine wpList_valueG (o := ⟨some 65, _, _, _, _, _⟩) rfl _ (by exact exec_load_sig _ _ rfl _ rfl _ _ _ x_18.cells) ?_)
    | (refine wpList_valueG (o := ⟨some 66, _, _, _, _, _⟩) rfl _ (by exact exec_load_sig _ _ rfl _ rfl _ _ _ y_18.cells) ?_))
  refine ((HSE _ _ _ _ _ _ _ _ _ C1_18 P1_18 C2_18 P2_18).out).mono ?_
  rintro e w19 ⟨rfl, h19⟩
  have B19 := B18.trans (h19.mono B18.size)
  have K_19 := K_18.on h19
  have In_19 := In_18.on h19
  have sd_19 := sd_18.on h19
  have mg_19 := mg_18.on h19
  have a_19 := a_18.on h19
  have b_19 := b_18.on h19
  have C1_19 := C1_18.on h19
  have P1_19 := P1_18.on h19
  have x_19 := x_18.on h19
  have C2_19 := C2_18.on h19
  have P2_19 := P2_18.on h19
  have y_19 := y_18.on h19
  clear K_18 In_18 sd_18 mg_18 a_18 b_18 C1_18 P1_18 x_18 C2_18 P2_18 y_18
  go_wp2_with fail
  go_ret
  exact ⟨rfl, B19⟩
end Go.Proofs.YtfmcgcdppbcfjaaDoor
