/-
  BoxTampered's walk: another nonce. Condition: the table of constants as laid.
-/
import Derived.Test.YtdgflobdnkopbaaDoorW640
namespace Go.Proofs.YtdgflobdnkopbaaDoor
open Go.RowKit

theorem wrap64_bd (x : Int) : -9223372036854775808 ≤ wrap64 x ∧ wrap64 x ≤ 9223372036854775807 := by unfold wrap64; omega
set_option maxRecDepth 100000 in
set_option maxHeartbeats 4000000 in
theorem walk64_nonce (key : List UInt8) (hkey : key.length = 16) (n : Int) (hn1 : -9223372036854775808 ≤ n) (hn2 : n ≤ 9223372036854775807) (s : ByteArray) (a : Nat) (_ha : a ≤ 65535) (b : UInt8) (z : Nat) (hz : z ≤ 255) (hs : s.size ≤ 300) (hb : b ≠ 0) (hzr : (z : Int) % 3 = 1) (w : World) (hCo : Consts w) :
    Calls Tryd.prog 6 #[.agg (bvs key).toArray, .int .i64 n, .string s, .int .u16 (a : Int), .int .u8 (b.toNat : Int), .int .u8 (z : Int)] w (TellsB true w) := by
  have HK := Lib.hid hkey
  have HSA := fun W hW => Lib.hid (sanity6_any W hW)
  obtain ⟨i0, hi0, hz0, hz1, hz2⟩ := info_parts info_u8
  have h3 : decide (300 < (s.size : Int)) = false := decide_eq_false (by omega)
  have hb8 : b.toNat < 256 := b.toNat_lt
  have hbn : b.toNat ≠ 0 := fun h => hb (UInt8.toNat_inj.1 h)
  have h4 : ((b.toNat : Int) == 0) = false := by simpa using hbn
  obtain ⟨C, T, hC, hT, hCs, hTl, HSE⟩ := seal_as key hkey n hn1 hn2 s (by omega)
  have HT := Lib.hid hTl
  have HZ := Lib.hid (zbox_len n C T hTl)
  have HB := Lib.hid (box_size n C T hTl)
  have HJL : Hid (0 < (boxCs n C T).length) := by show _ < _; rw [box_len n C T hTl]; omega
  obtain ⟨N2, hN2⟩ : ∃ N2, wrap64 (n + (b.toNat : Int)) = N2 := ⟨_, rfl⟩
  have hNb := wrap64_bd (n + (b.toNat : Int))
  rw [hN2] at hNb
  have HSET : Hid ((boxCs n C T).set 0 (.int .i64 (wrap64 (n + (b.toNat : Int)))) = boxCs N2 C T) := by show _ = _; rw [hN2]; rfl
  have HO1 := fun W hW => Lib.hid (open_any key hkey N2 hNb.1 hNb.2 C (show C.size ≤ 30000 by omega) T hTl W hW)
  have HI := fun W => Lib.hid (int_any N2 W hNb.1 hNb.2)
  have hil := encInt_le N2 hNb.1 hNb.2
  have HBY := fun W => Lib.hid (bytes_any C W (Nat.le_trans (show C.size ≤ 30000 by omega) (by omega)))
  have hbl := encBytes_lt C (show C.size ≤ 30000 by omega)
  have HDE := Lib.hid (drv_auth key)
  have HAL := Lib.hid (authK_len key)
  have HTE := Lib.hid (btag_eq key N2 C.data.toList)
  have HAG := Lib.hid (btag_len key N2 C.data.toList)
  have HO : Hid ((btag key N2 C.data.toList == T) = opens key N2 C.data.toList T) := by
    show _ = _
    unfold opens
    rw [Bool.eq_iff_iff, beq_iff_eq, beq_iff_eq, eq_comm]
  have HE : Hid (openE key N2 C.data.toList T = if opens key N2 C.data.toList T then 0 else 8) := rfl
  generalize openS key N2 C.data.toList T = os at *
  generalize openE key N2 C.data.toList T = oe at *
  generalize opens key N2 C.data.toList T = ob at *
  generalize btag key N2 C.data.toList = AG at *
  generalize authK key = AK at *
  generalize encBytes C.data.toList = EB at *
  generalize encInt N2 = E at *
  clear hkey hC hT hTl hb hbn hCs
  go_enter Tryd.func6, Tryd.ntmps6
  go_wp2_with (with_reducible refine wpList_box_row (o := ⟨some 6, _, _, _, _, _⟩) rfl _ _ rfl (bvs key) rfl ?_; intro w1 ky_1 s1 g1; have k1 : Below w.heap.size w w1 := grown_below g1 (Nat.le_refl _) (by simp); have B1 : Below w.heap.size w w1 := k1; have K_1 := hCo.on k1)
  refine ((HSA _ K_1).out).mono ?_
  rintro e w2 ⟨rfl, h2⟩
  have B2 := B1.trans (h2.mono B1.size)
  have K_2 := K_1.on h2
  have ky_2 := ky_1.on h2
  clear K_1 ky_1
  go_wp2_with (refine wpList_valueG (o := ⟨some 32, _, _, _, _, _⟩) rfl _ (by exact exec_load16 _ _ rfl _ rfl key HK.out ky_2.cells) ?_)
  refine ((HSE _ K_2).out).mono ?_
  rintro e w3 ⟨rfl, h3⟩
  have B3 := B2.trans (h3.mono B2.size)
  have K_3 := K_2.on h3
  have ky_3 := ky_2.on h3
  clear K_2 ky_2
  go_wp2_with (first
    | (with_reducible refine wpList_alloc_row (o := ⟨some 14, _, _, _, _, _⟩) rfl _ rfl zbox zero_box ?_; intro w4 r4 s4 g4)
    | (with_reducible refine wpList_at ⟨none, .store _ (.tmp 14) _, _, _, _, _⟩ ?_; refine wpList_store_all rfl _ _ _ rfl w3.heap.size rfl _ _ r4 (boxCs n C T) rfl (box_one _ _ _) HZ.out HB.out ?_; intro w5 bx_5 g5; have z5ky := ky_3.lt; have zz5 := B3.size; have k5 : Below w3.heap.size w3 w5 := below_kept (grown_below g4 (Nat.le_refl _) (by simp)) g5 (Nat.le_of_lt s4) (by rintro q hq; cases hq; exact Nat.le_refl _); have B5 := B3.trans (k5.mono B3.size); have K_5 := K_3.on k5; have ky_5 := ky_3.on k5; clear K_3 ky_3; clear r4 g4 g5)
    | (refine wpList_valueG (o := ⟨some 36, _, _, _, _, _⟩) rfl _ (by exact exec_load_box _ _ rfl _ rfl n C T HT.out bx_5.cells) ?_)
    | (with_reducible refine wpList_alloc_row (o := ⟨some 15, _, _, _, _, _⟩) rfl _ rfl zbox zero_box ?_; intro w6 r6 s6 g6)
    | (with_reducible refine wpList_at ⟨none, .store _ (.tmp 15) _, _, _, _, _⟩ ?_; refine wpList_store_all rfl _ _ _ rfl w5.heap.size rfl _ _ r6 (boxCs n C T) rfl (box_one _ _ _) HZ.out HB.out ?_; intro w7 x_7 g7; have z7ky := ky_5.lt; have z7bx := bx_5.lt; have zz7 := B5.size; have k7 : Below w5.heap.size w5 w7 := below_kept (grown_below g6 (Nat.le_refl _) (by simp)) g7 (Nat.le_of_lt s6) (by rintro q hq; cases hq; exact Nat.le_refl _); have B7 := B5.trans (k7.mono B5.size); have K_7 := K_5.on k7; have ky_7 := ky_5.on k7; have bx_7 := bx_5.on k7; clear K_5 ky_5 bx_5; clear r6 g6 g7)
    | (refine wpList_valueG (o := ⟨some 76, _, _, _, _, _⟩) rfl _ (by exact exec_load1 _ 3 _ rfl ⟨w5.heap.size, 0, none⟩ rfl _ (x_7.cell (j := 0) rfl) _ Tryd.underlying3 rfl) ?_)
    | (with_reducible refine wpList_at ⟨none, .store _ (.tmp 80) _, _, _, _, _⟩ ?_; refine wpList_store_elem rfl _ _ _ rfl w5.heap.size 0 rfl _ _ x_7 (.int .i64 (wrap64 (n + (b.toNat : Int)))) rfl rfl HJL.out (by kernel_rfl) ?_; intro w8 x_8 g8; rw [HSET.out] at x_8; have B8 := below_kept B7 g8 B7.size (by rintro q hq; cases hq; first | exact Nat.le_refl _ | omega); have K_8 := hCo.on B8; have ky_8 := ky_7.kept g8 (by have := ky_7.lt; simp; omega); have bx_8 := bx_7.kept g8 (by have := bx_7.lt; simp; omega)))
  refine (derive_any (some ⟨w.heap.size, 0, none⟩) 16 key 16 ⟨#[97, 117, 116, 104, 101, 110, 116, 105, 99, 97, 116, 101]⟩ none 0 [] 0 _ K_8 (ky_8.reads16 HK.out) (Nat.le_refl _) (by omega) (by decide) (readsP_none _ _) (by omega) (by simp)).mono ?_
  rintro e w9 ⟨rfl, h9⟩
  have B9 := B8.trans (h9.mono B8.size)
  have K_9 := K_8.on h9
  have ky_9 := ky_8.on h9
  have bx_9 := bx_8.on h9
  have x_9 := x_8.on h9
  clear K_8 ky_8 bx_8 x_8
  rw [show drv key (⟨#[97, 117, 116, 104, 101, 110, 116, 105, 99, 97, 116, 101]⟩ : ByteArray).data.toList [] = AK from HDE.out]
  go_wp2_with (first
    | (with_reducible refine wpList_alloc_row (o := ⟨some 19, _, _, _, _, _⟩) rfl _ rfl zeros16 zero_b16 ?_; intro w10 r10 s10 g10)
    | (with_reducible refine wpList_at ⟨none, .store _ (.tmp 19) _, _, _, _, _⟩ ?_; refine wpList_store_all rfl _ _ _ rfl w9.heap.size rfl _ _ r10 (bvs AK) rfl (bvs_one _) (b16_zeros _ HAL.out) (b16_size _ HAL.out) ?_; intro w11 ak_11 g11; have k11 : Below w9.heap.size w9 w11 := below_kept (grown_below g10 (Nat.le_refl _) (by simp)) g11 (Nat.le_of_lt s10) (by rintro q hq; cases hq; exact Nat.le_refl _); have B11 := B9.trans (k11.mono B9.size); have K_11 := K_9.on k11; have ky_11 := ky_9.on k11; have bx_11 := bx_9.on k11; have x_11 := x_9.on k11; clear K_9 ky_9 bx_9 x_9; clear r10 g10 g11))
  skip
  have zlky := ky_11.lt
  have zlbp := x_11.lt
  have zlbx := bx_11.lt
  have zlak := ak_11.lt
  simp only [Act.put, List.setIfInBounds_toArray, List.set_cons_zero, List.set_cons_succ]
  go_cut [20] (fun s20 wc => ∃ g, s20 = .pointer (some ⟨g, 0, none⟩) ∧ Row wc g 23 (bvs AG) ∧ Row wc w.heap.size 23 (bvs key) ∧ Row wc w5.heap.size 25 (boxCs N2 C T) ∧ Row wc w3.heap.size 25 (boxCs n C T) ∧ Below w.heap.size w wc)
  case first =>
    refine wp_region_plan (fun w' => Row w' w5.heap.size 25 (boxCs N2 C T)) (.take 0 <| .take 2 <| .take 3 <| .take 6 <| .take 7 <| .three 1 (.two 4 (.two 5 (.two 8 (.two 9 (.two 10 (.one 11 <| .one 12 <| .done) 11 (.one 10 <| .one 12 <| .done)) 11 (.one 9 <| .one 10 <| .one 12 <| .done)) 11 (.one 8 <| .one 9 <| .one 10 <| .one 12 <| .done)) 11 (.one 5 <| .one 8 <| .one 9 <| .one 10 <| .one 12 <| .done)) 11 (.one 4 <| .one 5 <| .one 8 <| .one 9 <| .one 10 <| .one 12 <| .done)) 4 (.two 1 (.two 5 (.two 8 (.two 9 (.two 10 (.one 11 <| .one 12 <| .done) 11 (.one 10 <| .one 12 <| .done)) 11 (.one 9 <| .one 10 <| .one 12 <| .done)) 11 (.one 8 <| .one 9 <| .one 10 <| .one 12 <| .done)) 11 (.one 5 <| .one 8 <| .one 9 <| .one 10 <| .one 12 <| .done)) 11 (.one 1 <| .one 5 <| .one 8 <| .one 9 <| .one 10 <| .one 12 <| .done)) 11 (.two 1 (.one 4 <| .one 5 <| .one 8 <| .one 9 <| .one 10 <| .one 12 <| .done) 4 (.one 1 <| .one 5 <| .one 8 <| .one 9 <| .one 10 <| .one 12 <| .done))) (by kernel_rfl) (by kernel_rfl) (by kernel_rfl) (fun _ _ _ _ _ h => h) x_11.drew ?_
    repeat (refine plan_take _ rfl ?_; (first | (refine wpQuiet_valueG (o := ⟨some 112, _, _, _, _, _⟩) rfl _ (by intro _ h; exact exec_load1 _ 3 _ rfl ⟨w5.heap.size, 0, none⟩ rfl _ (h.cell (j := 0) rfl) _ Tryd.underlying3 rfl) (wpQuiet_nil ?_); simp only [Act.put, List.setIfInBounds_toArray, List.set_cons_zero, List.set_cons_succ]) | (refine wpQuiet_valueG (o := ⟨some 116, _, _, _, _, _⟩) rfl _ (by intro _ h; exact exec_load1 _ 9 _ rfl ⟨w5.heap.size, 1, none⟩ rfl _ (h.cell (j := 1) rfl) _ Tryd.underlying9 rfl) (wpQuiet_nil ?_); simp only [Act.put, List.setIfInBounds_toArray, List.set_cons_zero, List.set_cons_succ]) | (go_big_quiet_step ((intros; rfl)); refine wpQuiet_nil ?_)))
    refine plan_three ?_ ?_ ?_
    · refine step_at _ rfl fun K hK => ?_
      go_simp
      have ox1 := own_empty w11.drew 5 1 w11.heap.size (Nat.le_refl _)
      have hx1 : Below w11.drew.heap.size w11.drew (w11.drew.alloc (.cells #[] 5)) := (Below.refl _ _).alloc (Nat.le_refl _) _
      have Bx2 := B11.drew.trans (hx1.mono B11.drew.size)
      have kyx2 := ky_11.drew.on hx1
      have bpx2 := x_11.drew.on hx1
      have bxx2 := bx_11.drew.on hx1
      have akx2 := ak_11.drew.on hx1
      have lez2 := Nat.le_trans (Nat.le_refl _) hx1.size
      refine hK _ _ bpx2 ?_
      clear hK K
      refine plan_two ?_ ?_
      · refine step_at _ rfl fun K hK => ?_
        go_simp
        refine ((HI _).out).mono ?_
        rintro e wx3 ⟨vx3, rfl, ox3, hx3⟩
        obtain ⟨Ax3, cx3, rfl, cix3, _, rix30⟩ := own_form ox3
        clear ox3
        have Bx4 := Bx2.trans (hx3.mono Bx2.size)
        have kyx4 := kyx2.on hx3
        have bpx4 := bpx2.on hx3
        have bxx4 := bxx2.on hx3
        have akx4 := akx2.on hx3
        have ox4 := own_below ox1 hx3
        have lez4 := Nat.le_trans lez2 hx3.size
        refine hK _ _ bpx4 ?_
        clear hK K
        refine plan_two ?_ ?_
        · refine step_at _ rfl fun K hK => ?_
          refine step_append_src rfl (.tmp 110) (.tmp 113) _ _ rfl w11.heap.size 5 i0 _ 1 1 Tryd.underlying34 hi0 hz0 hz1 hz2 rfl _ _ _ rfl ox4 E.length _ (Src.ofReads _ Tryd.underlying34 rix30 (bvs_one _)) (by unfold maxLen; omega) (by omega) lez4 ?_
          intro vx5 wx5 ox5 kx5 hx5
          have Bx5 := Bx4.trans (hx5.mono B11.size)
          have lex5 := Nat.le_trans lez4 hx5.size
          have kyx5 := kyx4.kept kx5 (kyx4.not_row (by decide) ox4)
          have bpx5 := bpx4.kept kx5 (bpx4.not_row (by decide) ox4)
          have bxx5 := bxx4.kept kx5 (bxx4.not_row (by decide) ox4)
          have akx5 := akx4.kept kx5 (akx4.not_row (by decide) ox4)
          rw [Nat.zero_add, List.nil_append] at ox5
          refine hK _ _ bpx5 ?_
          clear hK K
          simp only [Act.put, List.setIfInBounds_toArray, List.set_cons_zero, List.set_cons_succ]
          refine plan_two ?_ ?_
          · refine step_at _ rfl fun K hK => ?_
            go_simp
            refine ((HBY _).out).mono ?_
            rintro e wx6 ⟨vx6, rfl, ox6, hx6⟩
            obtain ⟨Ax6, cx6, rfl, cbx6, _, rbx60⟩ := own_form ox6
            clear ox6
            have Bx7 := Bx5.trans (hx6.mono Bx5.size)
            have ox7 := own_below ox5 hx6
            have kyx7 := kyx5.on hx6
            have bpx7 := bpx5.on hx6
            have bxx7 := bxx5.on hx6
            have akx7 := akx5.on hx6
            have lez7 := Nat.le_trans lex5 hx6.size
            refine hK _ _ bpx7 ?_
            clear hK K
            refine plan_two ?_ ?_
            · refine step_at _ rfl fun K hK => ?_
              refine step_append_src rfl (.tmp 114) (.tmp 117) _ _ rfl w11.heap.size 5 i0 _ 1 1 Tryd.underlying34 hi0 hz0 hz1 hz2 rfl _ _ _ rfl ox7 EB.length _ (Src.ofReads _ Tryd.underlying34 rbx60 (bvs_one _)) (by unfold maxLen; omega) (by omega) lez7 ?_
              intro vx8 wx8 ox8 kx8 hx8
              have Bx8 := Bx7.trans (hx8.mono B11.size)
              have lex8 := Nat.le_trans lez7 hx8.size
              have kyx8 := kyx7.kept kx8 (kyx7.not_row (by decide) ox7)
              have bpx8 := bpx7.kept kx8 (bpx7.not_row (by decide) ox7)
              have bxx8 := bxx7.kept kx8 (bxx7.not_row (by decide) ox7)
              have akx8 := akx7.kept kx8 (akx7.not_row (by decide) ox7)
              rw [← bvs_append] at ox8
              obtain ⟨Ax8, cx8, rfl, cmx8, _, rmx8⟩ := own_form ox8
              refine hK _ _ bpx8 ?_
              clear hK K
              simp only [Act.put, List.setIfInBounds_toArray, List.set_cons_zero, List.set_cons_succ]
              refine plan_two ?_ ?_
              · refine step_at _ rfl fun K hK => ?_
                go_simp
                refine (mac_any _ Ax8 16 cx8 AK (E ++ EB) 16 (E.length + EB.length) _ (hCo.on Bx8) (akx8.reads16 HAL.out) (Nat.le_refl _) (by omega) rmx8 cmx8 (by omega)).mono ?_
                rintro e wx9 ⟨rfl, hx9⟩
                rw [← HTE.out]
                have Bx10 := Bx8.trans (hx9.mono Bx8.size)
                have kyx10 := kyx8.on hx9
                have bpx10 := bpx8.on hx9
                have bxx10 := bxx8.on hx9
                have akx10 := akx8.on hx9
                have mbx10 := rmx8.on hx9
                have lez10 := Nat.le_trans lex8 hx9.size
                refine hK _ _ bpx10 ?_
                clear hK K
                refine plan_one _ rfl fun K hK => ?_
                refine step_alloc rfl _ rfl zeros16 zero_b16 ?_
                intro wx11 rx11 sx11 kx11
                have hx11 : Below wx9.heap.size wx9 wx11 := grown_below kx11 (Nat.le_refl _) (by simp)
                have zzx11 := Bx10.size
                have zkyx11 := kyx10.lt
                have zbpx11 := bpx10.lt
                have zbxx11 := bxx10.lt
                have zakx11 := akx10.lt
                have Bx12 := Bx10.trans (hx11.mono Bx10.size)
                have kyx12 := kyx10.on hx11
                have bpx12 := bpx10.on hx11
                have bxx12 := bxx10.on hx11
                have akx12 := akx10.on hx11
                have lez12 := Nat.le_trans lez10 hx11.size
                refine hK _ _ bpx12 ?_
                clear hK K
                simp only [Act.put, List.setIfInBounds_toArray, List.set_cons_zero, List.set_cons_succ]
                refine plan_one _ rfl fun K hK => ?_
                refine step_store_all rfl _ _ _ rfl wx9.heap.size rfl _ _ rx11 (bvs AG) rfl (bvs_one _) (b16_zeros _ HAG.out) (b16_size _ HAG.out) ?_
                intro wx13 rx13 kx13
                have Bx13 := below_kept Bx12 kx13 Bx12.size (by rintro k hk; cases hk; exact zzx11)
                have kyx13 := kyx12.kept kx13 (by simp; omega)
                have bpx13 := bpx12.kept kx13 (by simp; omega)
                have bxx13 := bxx12.kept kx13 (by simp; omega)
                have akx13 := akx12.kept kx13 (by simp; omega)
                refine hK _ _ bpx13 ?_
                clear hK K
                simp only [Act.put]
                refine plan_done ?_
                go_wp2_with fail
                go_meet
                exact ⟨_, rfl, rx13, kyx13, bpx13, bxx13, Bx13⟩
              · refine step_at _ rfl fun K hK => ?_
                refine step_alloc rfl _ rfl zeros16 zero_b16 ?_
                intro wx14 rx14 sx14 kx14
                have hx14 : Below wx8.heap.size wx8 wx14 := grown_below kx14 (Nat.le_refl _) (by simp)
                have zzx14 := Bx8.size
                have zkyx14 := kyx8.lt
                have zbpx14 := bpx8.lt
                have zbxx14 := bxx8.lt
                have zakx14 := akx8.lt
                have Bx15 := Bx8.trans (hx14.mono Bx8.size)
                have kyx15 := kyx8.on hx14
                have bpx15 := bpx8.on hx14
                have bxx15 := bxx8.on hx14
                have akx15 := akx8.on hx14
                have mbx15 := rmx8.on hx14
                have lez15 := Nat.le_trans lex8 hx14.size
                refine hK _ _ bpx15 ?_
                clear hK K
                simp only [Act.put, List.setIfInBounds_toArray, List.set_cons_zero, List.set_cons_succ]
                refine plan_one _ rfl fun K hK => ?_
                go_simp
                refine (mac_any _ Ax8 16 cx8 AK (E ++ EB) 16 (E.length + EB.length) _ (hCo.on Bx15) (akx15.reads16 HAL.out) (Nat.le_refl _) (by omega) mbx15 cmx8 (by omega)).mono ?_
                rintro e wx16 ⟨rfl, hx16⟩
                rw [← HTE.out]
                have Bx17 := Bx15.trans (hx16.mono Bx15.size)
                have kyx17 := kyx15.on hx16
                have bpx17 := bpx15.on hx16
                have bxx17 := bxx15.on hx16
                have akx17 := akx15.on hx16
                have mbx17 := mbx15.on hx16
                have t7x17 := rx14.on hx16
                have lez17 := Nat.le_trans lez15 hx16.size
                refine hK _ _ bpx17 ?_
                clear hK K
                refine plan_one _ rfl fun K hK => ?_
                refine step_store_all rfl _ _ _ rfl wx8.heap.size rfl _ _ t7x17 (bvs AG) rfl (bvs_one _) (b16_zeros _ HAG.out) (b16_size _ HAG.out) ?_
                intro wx18 rx18 kx18
                have Bx18 := below_kept Bx17 kx18 Bx17.size (by rintro k hk; cases hk; exact zzx14)
                have kyx18 := kyx17.kept kx18 (by simp; omega)
                have bpx18 := bpx17.kept kx18 (by simp; omega)
                have bxx18 := bxx17.kept kx18 (by simp; omega)
                have akx18 := akx17.kept kx18 (by simp; omega)
                refine hK _ _ bpx18 ?_
                clear hK K
                simp only [Act.put]
                refine plan_done ?_
                go_wp2_with fail
                go_meet
                exact ⟨_, rfl, rx18, kyx18, bpx18, bxx18, Bx18⟩
            · refine step_at _ rfl fun K hK => ?_
              refine step_alloc rfl _ rfl zeros16 zero_b16 ?_
              intro wx19 rx19 sx19 kx19
              have hx19 : Below wx6.heap.size wx6 wx19 := grown_below kx19 (Nat.le_refl _) (by simp)
              have zzx19 := Bx7.size
              have zkyx19 := kyx7.lt
              have zbpx19 := bpx7.lt
              have zbxx19 := bxx7.lt
              have zakx19 := akx7.lt
              have Bx20 := Bx7.trans (hx19.mono Bx7.size)
              have ox20 := own_below ox7 hx19
              have kyx20 := kyx7.on hx19
              have bpx20 := bpx7.on hx19
              have bxx20 := bxx7.on hx19
              have akx20 := akx7.on hx19
              have bx20 := rbx60.on hx19
              have lez20 := Nat.le_trans lez7 hx19.size
              refine hK _ _ bpx20 ?_
              clear hK K
              simp only [Act.put, List.setIfInBounds_toArray, List.set_cons_zero, List.set_cons_succ]
              refine plan_one _ rfl fun K hK => ?_
              refine step_append_src rfl (.tmp 114) (.tmp 117) _ _ rfl w11.heap.size 5 i0 _ 1 1 Tryd.underlying34 hi0 hz0 hz1 hz2 rfl _ _ _ rfl ox20 EB.length _ (Src.ofReads _ Tryd.underlying34 bx20 (bvs_one _)) (by unfold maxLen; omega) (by omega) lez20 ?_
              intro vx21 wx21 ox21 kx21 hx21
              have Bx21 := Bx20.trans (hx21.mono B11.size)
              have lex21 := Nat.le_trans lez20 hx21.size
              have kyx21 := kyx20.kept kx21 (kyx20.not_row (by decide) ox20)
              have bpx21 := bpx20.kept kx21 (bpx20.not_row (by decide) ox20)
              have bxx21 := bxx20.kept kx21 (bxx20.not_row (by decide) ox20)
              have akx21 := akx20.kept kx21 (akx20.not_row (by decide) ox20)
              have t7x21 := rx19.kept kx21 (rx19.not_row (by decide) ox20)
              rw [← bvs_append] at ox21
              obtain ⟨Ax21, cx21, rfl, cmx21, _, rmx21⟩ := own_form ox21
              refine hK _ _ bpx21 ?_
              clear hK K
              simp only [Act.put, List.setIfInBounds_toArray, List.set_cons_zero, List.set_cons_succ]
              refine plan_one _ rfl fun K hK => ?_
              go_simp
              refine (mac_any _ Ax21 16 cx21 AK (E ++ EB) 16 (E.length + EB.length) _ (hCo.on Bx21) (akx21.reads16 HAL.out) (Nat.le_refl _) (by omega) rmx21 cmx21 (by omega)).mono ?_
              rintro e wx22 ⟨rfl, hx22⟩
              rw [← HTE.out]
              have Bx23 := Bx21.trans (hx22.mono Bx21.size)
              have kyx23 := kyx21.on hx22
              have bpx23 := bpx21.on hx22
              have bxx23 := bxx21.on hx22
              have akx23 := akx21.on hx22
              have t7x23 := t7x21.on hx22
              have mbx23 := rmx21.on hx22
              have lez23 := Nat.le_trans lex21 hx22.size
              refine hK _ _ bpx23 ?_
              clear hK K
              refine plan_one _ rfl fun K hK => ?_
              refine step_store_all rfl _ _ _ rfl wx6.heap.size rfl _ _ t7x23 (bvs AG) rfl (bvs_one _) (b16_zeros _ HAG.out) (b16_size _ HAG.out) ?_
              intro wx24 rx24 kx24
              have Bx24 := below_kept Bx23 kx24 Bx23.size (by rintro k hk; cases hk; exact zzx19)
              have kyx24 := kyx23.kept kx24 (by simp; omega)
              have bpx24 := bpx23.kept kx24 (by simp; omega)
              have bxx24 := bxx23.kept kx24 (by simp; omega)
              have akx24 := akx23.kept kx24 (by simp; omega)
              refine hK _ _ bpx24 ?_
              clear hK K
              simp only [Act.put]
              refine plan_done ?_
              go_wp2_with fail
              go_meet
              exact ⟨_, rfl, rx24, kyx24, bpx24, bxx24, Bx24⟩
          · refine step_at _ rfl fun K hK => ?_
            refine step_alloc rfl _ rfl zeros16 zero_b16 ?_
            intro wx25 rx25 sx25 kx25
            have hx25 : Below wx5.heap.size wx5 wx25 := grown_below kx25 (Nat.le_refl _) (by simp)
            have zzx25 := Bx5.size
            have zkyx25 := kyx5.lt
            have zbpx25 := bpx5.lt
            have zbxx25 := bxx5.lt
            have zakx25 := akx5.lt
            have Bx26 := Bx5.trans (hx25.mono Bx5.size)
            have ox26 := own_below ox5 hx25
            have kyx26 := kyx5.on hx25
            have bpx26 := bpx5.on hx25
            have bxx26 := bxx5.on hx25
            have akx26 := akx5.on hx25
            have lez26 := Nat.le_trans lex5 hx25.size
            refine hK _ _ bpx26 ?_
            clear hK K
            simp only [Act.put, List.setIfInBounds_toArray, List.set_cons_zero, List.set_cons_succ]
            refine plan_one _ rfl fun K hK => ?_
            go_simp
            refine ((HBY _).out).mono ?_
            rintro e wx27 ⟨vx27, rfl, ox27, hx27⟩
            obtain ⟨Ax27, cx27, rfl, cbx27, _, rbx270⟩ := own_form ox27
            clear ox27
            have Bx28 := Bx26.trans (hx27.mono Bx26.size)
            have ox28 := own_below ox26 hx27
            have kyx28 := kyx26.on hx27
            have bpx28 := bpx26.on hx27
            have bxx28 := bxx26.on hx27
            have akx28 := akx26.on hx27
            have t7x28 := rx25.on hx27
            have lez28 := Nat.le_trans lez26 hx27.size
            refine hK _ _ bpx28 ?_
            clear hK K
            refine plan_one _ rfl fun K hK => ?_
            refine step_append_src rfl (.tmp 114) (.tmp 117) _ _ rfl w11.heap.size 5 i0 _ 1 1 Tryd.underlying34 hi0 hz0 hz1 hz2 rfl _ _ _ rfl ox28 EB.length _ (Src.ofReads _ Tryd.underlying34 rbx270 (bvs_one _)) (by unfold maxLen; omega) (by omega) lez28 ?_
            intro vx29 wx29 ox29 kx29 hx29
            have Bx29 := Bx28.trans (hx29.mono B11.size)
            have lex29 := Nat.le_trans lez28 hx29.size
            have kyx29 := kyx28.kept kx29 (kyx28.not_row (by decide) ox28)
            have bpx29 := bpx28.kept kx29 (bpx28.not_row (by decide) ox28)
            have bxx29 := bxx28.kept kx29 (bxx28.not_row (by decide) ox28)
            have akx29 := akx28.kept kx29 (akx28.not_row (by decide) ox28)
            have t7x29 := t7x28.kept kx29 (t7x28.not_row (by decide) ox28)
            rw [← bvs_append] at ox29
            obtain ⟨Ax29, cx29, rfl, cmx29, _, rmx29⟩ := own_form ox29
            refine hK _ _ bpx29 ?_
            clear hK K
            simp only [Act.put, List.setIfInBounds_toArray, List.set_cons_zero, List.set_cons_succ]
            refine plan_one _ rfl fun K hK => ?_
            go_simp
            refine (mac_any _ Ax29 16 cx29 AK (E ++ EB) 16 (E.length + EB.length) _ (hCo.on Bx29) (akx29.reads16 HAL.out) (Nat.le_refl _) (by omega) rmx29 cmx29 (by omega)).mono ?_
            rintro e wx30 ⟨rfl, hx30⟩
            rw [← HTE.out]
            have Bx31 := Bx29.trans (hx30.mono Bx29.size)
            have kyx31 := kyx29.on hx30
            have bpx31 := bpx29.on hx30
            have bxx31 := bxx29.on hx30
            have akx31 := akx29.on hx30
            have t7x31 := t7x29.on hx30
            have mbx31 := rmx29.on hx30
            have lez31 := Nat.le_trans lex29 hx30.size
            refine hK _ _ bpx31 ?_
            clear hK K
            refine plan_one _ rfl fun K hK => ?_
            refine step_store_all rfl _ _ _ rfl wx5.heap.size rfl _ _ t7x31 (bvs AG) rfl (bvs_one _) (b16_zeros _ HAG.out) (b16_size _ HAG.out) ?_
            intro wx32 rx32 kx32
            have Bx32 := below_kept Bx31 kx32 Bx31.size (by rintro k hk; cases hk; exact zzx25)
            have kyx32 := kyx31.kept kx32 (by simp; omega)
            have bpx32 := bpx31.kept kx32 (by simp; omega)
            have bxx32 := bxx31.kept kx32 (by simp; omega)
            have akx32 := akx31.kept kx32 (by simp; omega)
            refine hK _ _ bpx32 ?_
            clear hK K
            simp only [Act.put]
            refine plan_done ?_
            go_wp2_with fail
            go_meet
            exact ⟨_, rfl, rx32, kyx32, bpx32, bxx32, Bx32⟩
        · refine step_at _ rfl fun K hK => ?_
          refine step_alloc rfl _ rfl zeros16 zero_b16 ?_
          intro wx33 rx33 sx33 kx33
          have hx33 : Below wx3.heap.size wx3 wx33 := grown_below kx33 (Nat.le_refl _) (by simp)
          have zzx33 := Bx4.size
          have zkyx33 := kyx4.lt
          have zbpx33 := bpx4.lt
          have zbxx33 := bxx4.lt
          have zakx33 := akx4.lt
          have Bx34 := Bx4.trans (hx33.mono Bx4.size)
          have kyx34 := kyx4.on hx33
          have bpx34 := bpx4.on hx33
          have bxx34 := bxx4.on hx33
          have akx34 := akx4.on hx33
          have ox34 := own_below ox4 hx33
          have ix34 := rix30.on hx33
          have lez34 := Nat.le_trans lez4 hx33.size
          refine hK _ _ bpx34 ?_
          clear hK K
          simp only [Act.put, List.setIfInBounds_toArray, List.set_cons_zero, List.set_cons_succ]
          refine plan_one _ rfl fun K hK => ?_
          refine step_append_src rfl (.tmp 110) (.tmp 113) _ _ rfl w11.heap.size 5 i0 _ 1 1 Tryd.underlying34 hi0 hz0 hz1 hz2 rfl _ _ _ rfl ox34 E.length _ (Src.ofReads _ Tryd.underlying34 ix34 (bvs_one _)) (by unfold maxLen; omega) (by omega) lez34 ?_
          intro vx35 wx35 ox35 kx35 hx35
          have Bx35 := Bx34.trans (hx35.mono B11.size)
          have lex35 := Nat.le_trans lez34 hx35.size
          have kyx35 := kyx34.kept kx35 (kyx34.not_row (by decide) ox34)
          have bpx35 := bpx34.kept kx35 (bpx34.not_row (by decide) ox34)
          have bxx35 := bxx34.kept kx35 (bxx34.not_row (by decide) ox34)
          have akx35 := akx34.kept kx35 (akx34.not_row (by decide) ox34)
          have t7x35 := rx33.kept kx35 (rx33.not_row (by decide) ox34)
          rw [Nat.zero_add, List.nil_append] at ox35
          refine hK _ _ bpx35 ?_
          clear hK K
          simp only [Act.put, List.setIfInBounds_toArray, List.set_cons_zero, List.set_cons_succ]
          refine plan_one _ rfl fun K hK => ?_
          go_simp
          refine ((HBY _).out).mono ?_
          rintro e wx36 ⟨vx36, rfl, ox36, hx36⟩
          obtain ⟨Ax36, cx36, rfl, cbx36, _, rbx360⟩ := own_form ox36
          clear ox36
          have Bx37 := Bx35.trans (hx36.mono Bx35.size)
          have ox37 := own_below ox35 hx36
          have kyx37 := kyx35.on hx36
          have bpx37 := bpx35.on hx36
          have bxx37 := bxx35.on hx36
          have akx37 := akx35.on hx36
          have t7x37 := t7x35.on hx36
          have lez37 := Nat.le_trans lex35 hx36.size
          refine hK _ _ bpx37 ?_
          clear hK K
          refine plan_one _ rfl fun K hK => ?_
          refine step_append_src rfl (.tmp 114) (.tmp 117) _ _ rfl w11.heap.size 5 i0 _ 1 1 Tryd.underlying34 hi0 hz0 hz1 hz2 rfl _ _ _ rfl ox37 EB.length _ (Src.ofReads _ Tryd.underlying34 rbx360 (bvs_one _)) (by unfold maxLen; omega) (by omega) lez37 ?_
          intro vx38 wx38 ox38 kx38 hx38
          have Bx38 := Bx37.trans (hx38.mono B11.size)
          have lex38 := Nat.le_trans lez37 hx38.size
          have kyx38 := kyx37.kept kx38 (kyx37.not_row (by decide) ox37)
          have bpx38 := bpx37.kept kx38 (bpx37.not_row (by decide) ox37)
          have bxx38 := bxx37.kept kx38 (bxx37.not_row (by decide) ox37)
          have akx38 := akx37.kept kx38 (akx37.not_row (by decide) ox37)
          have t7x38 := t7x37.kept kx38 (t7x37.not_row (by decide) ox37)
          rw [← bvs_append] at ox38
          obtain ⟨Ax38, cx38, rfl, cmx38, _, rmx38⟩ := own_form ox38
          refine hK _ _ bpx38 ?_
          clear hK K
          simp only [Act.put, List.setIfInBounds_toArray, List.set_cons_zero, List.set_cons_succ]
          refine plan_one _ rfl fun K hK => ?_
          go_simp
          refine (mac_any _ Ax38 16 cx38 AK (E ++ EB) 16 (E.length + EB.length) _ (hCo.on Bx38) (akx38.reads16 HAL.out) (Nat.le_refl _) (by omega) rmx38 cmx38 (by omega)).mono ?_
          rintro e wx39 ⟨rfl, hx39⟩
          rw [← HTE.out]
          have Bx40 := Bx38.trans (hx39.mono Bx38.size)
          have kyx40 := kyx38.on hx39
          have bpx40 := bpx38.on hx39
          have bxx40 := bxx38.on hx39
          have akx40 := akx38.on hx39
          have t7x40 := t7x38.on hx39
          have mbx40 := rmx38.on hx39
          have lez40 := Nat.le_trans lex38 hx39.size
          refine hK _ _ bpx40 ?_
          clear hK K
          refine plan_one _ rfl fun K hK => ?_
          refine step_store_all rfl _ _ _ rfl wx3.heap.size rfl _ _ t7x40 (bvs AG) rfl (bvs_one _) (b16_zeros _ HAG.out) (b16_size _ HAG.out) ?_
          intro wx41 rx41 kx41
          have Bx41 := below_kept Bx40 kx41 Bx40.size (by rintro k hk; cases hk; exact zzx33)
          have kyx41 := kyx40.kept kx41 (by simp; omega)
          have bpx41 := bpx40.kept kx41 (by simp; omega)
          have bxx41 := bxx40.kept kx41 (by simp; omega)
          have akx41 := akx40.kept kx41 (by simp; omega)
          refine hK _ _ bpx41 ?_
          clear hK K
          simp only [Act.put]
          refine plan_done ?_
          go_wp2_with fail
          go_meet
          exact ⟨_, rfl, rx41, kyx41, bpx41, bxx41, Bx41⟩
      · refine step_at _ rfl fun K hK => ?_
        refine step_alloc rfl _ rfl zeros16 zero_b16 ?_
        intro wx42 rx42 sx42 kx42
        have hx42 : Below (w11.drew.alloc (.cells #[] 5)).heap.size (w11.drew.alloc (.cells #[] 5)) wx42 := grown_below kx42 (Nat.le_refl _) (by simp)
        have zzx42 := Bx2.size
        have zkyx42 := kyx2.lt
        have zbpx42 := bpx2.lt
        have zbxx42 := bxx2.lt
        have zakx42 := akx2.lt
        have Bx43 := Bx2.trans (hx42.mono Bx2.size)
        have kyx43 := kyx2.on hx42
        have bpx43 := bpx2.on hx42
        have bxx43 := bxx2.on hx42
        have akx43 := akx2.on hx42
        have ox43 := own_below ox1 hx42
        have lez43 := Nat.le_trans lez2 hx42.size
        have erx42 : (w11.drew.alloc (.cells #[] 5)).heap.size = w11.drew.heap.size + 1 := by simp
        have frx42 : (w11.alloc (.cells #[] 5)).drew.heap.size = w11.heap.size + 1 := by simp
        first | rw [erx42] at rx42 | rw [frx42] at rx42
        rw [erx42] at zzx42
        refine hK _ _ bpx43 ?_
        clear hK K
        simp only [Act.put, List.setIfInBounds_toArray, List.set_cons_zero, List.set_cons_succ]
        refine plan_one _ rfl fun K hK => ?_
        go_simp
        refine ((HI _).out).mono ?_
        rintro e wx44 ⟨vx44, rfl, ox44, hx44⟩
        obtain ⟨Ax44, cx44, rfl, cix44, _, rix440⟩ := own_form ox44
        clear ox44
        have Bx45 := Bx43.trans (hx44.mono Bx43.size)
        have kyx45 := kyx43.on hx44
        have bpx45 := bpx43.on hx44
        have bxx45 := bxx43.on hx44
        have akx45 := akx43.on hx44
        have ox45 := own_below ox43 hx44
        have t7x45 := rx42.on hx44
        have lez45 := Nat.le_trans lez43 hx44.size
        refine hK _ _ bpx45 ?_
        clear hK K
        refine plan_one _ rfl fun K hK => ?_
        refine step_append_src rfl (.tmp 110) (.tmp 113) _ _ rfl w11.heap.size 5 i0 _ 1 1 Tryd.underlying34 hi0 hz0 hz1 hz2 rfl _ _ _ rfl ox45 E.length _ (Src.ofReads _ Tryd.underlying34 rix440 (bvs_one _)) (by unfold maxLen; omega) (by omega) lez45 ?_
        intro vx46 wx46 ox46 kx46 hx46
        have Bx46 := Bx45.trans (hx46.mono B11.size)
        have lex46 := Nat.le_trans lez45 hx46.size
        have kyx46 := kyx45.kept kx46 (kyx45.not_row (by decide) ox45)
        have bpx46 := bpx45.kept kx46 (bpx45.not_row (by decide) ox45)
        have bxx46 := bxx45.kept kx46 (bxx45.not_row (by decide) ox45)
        have akx46 := akx45.kept kx46 (akx45.not_row (by decide) ox45)
        have t7x46 := t7x45.kept kx46 (t7x45.not_row (by decide) ox45)
        rw [Nat.zero_add, List.nil_append] at ox46
        refine hK _ _ bpx46 ?_
        clear hK K
        simp only [Act.put, List.setIfInBounds_toArray, List.set_cons_zero, List.set_cons_succ]
        refine plan_one _ rfl fun K hK => ?_
        go_simp
        refine ((HBY _).out).mono ?_
        rintro e wx47 ⟨vx47, rfl, ox47, hx47⟩
        obtain ⟨Ax47, cx47, rfl, cbx47, _, rbx470⟩ := own_form ox47
        clear ox47
        have Bx48 := Bx46.trans (hx47.mono Bx46.size)
        have ox48 := own_below ox46 hx47
        have kyx48 := kyx46.on hx47
        have bpx48 := bpx46.on hx47
        have bxx48 := bxx46.on hx47
        have akx48 := akx46.on hx47
        have t7x48 := t7x46.on hx47
        have lez48 := Nat.le_trans lex46 hx47.size
        refine hK _ _ bpx48 ?_
        clear hK K
        refine plan_one _ rfl fun K hK => ?_
        refine step_append_src rfl (.tmp 114) (.tmp 117) _ _ rfl w11.heap.size 5 i0 _ 1 1 Tryd.underlying34 hi0 hz0 hz1 hz2 rfl _ _ _ rfl ox48 EB.length _ (Src.ofReads _ Tryd.underlying34 rbx470 (bvs_one _)) (by unfold maxLen; omega) (by omega) lez48 ?_
        intro vx49 wx49 ox49 kx49 hx49
        have Bx49 := Bx48.trans (hx49.mono B11.size)
        have lex49 := Nat.le_trans lez48 hx49.size
        have kyx49 := kyx48.kept kx49 (kyx48.not_row (by decide) ox48)
        have bpx49 := bpx48.kept kx49 (bpx48.not_row (by decide) ox48)
        have bxx49 := bxx48.kept kx49 (bxx48.not_row (by decide) ox48)
        have akx49 := akx48.kept kx49 (akx48.not_row (by decide) ox48)
        have t7x49 := t7x48.kept kx49 (t7x48.not_row (by decide) ox48)
        rw [← bvs_append] at ox49
        obtain ⟨Ax49, cx49, rfl, cmx49, _, rmx49⟩ := own_form ox49
        refine hK _ _ bpx49 ?_
        clear hK K
        simp only [Act.put, List.setIfInBounds_toArray, List.set_cons_zero, List.set_cons_succ]
        refine plan_one _ rfl fun K hK => ?_
        go_simp
        refine (mac_any _ Ax49 16 cx49 AK (E ++ EB) 16 (E.length + EB.length) _ (hCo.on Bx49) (akx49.reads16 HAL.out) (Nat.le_refl _) (by omega) rmx49 cmx49 (by omega)).mono ?_
        rintro e wx50 ⟨rfl, hx50⟩
        rw [← HTE.out]
        have Bx51 := Bx49.trans (hx50.mono Bx49.size)
        have kyx51 := kyx49.on hx50
        have bpx51 := bpx49.on hx50
        have bxx51 := bxx49.on hx50
        have akx51 := akx49.on hx50
        have t7x51 := t7x49.on hx50
        have mbx51 := rmx49.on hx50
        have lez51 := Nat.le_trans lex49 hx50.size
        refine hK _ _ bpx51 ?_
        clear hK K
        refine plan_one _ rfl fun K hK => ?_
        refine step_store_all rfl _ _ _ rfl (w11.drew.heap.size + 1) rfl _ _ t7x51 (bvs AG) rfl (bvs_one _) (b16_zeros _ HAG.out) (b16_size _ HAG.out) ?_
        intro wx52 rx52 kx52
        have Bx52 := below_kept Bx51 kx52 Bx51.size (by rintro k hk; cases hk; exact zzx42)
        have kyx52 := kyx51.kept kx52 (by simp; omega)
        have bpx52 := bpx51.kept kx52 (by simp; omega)
        have bxx52 := bxx51.kept kx52 (by simp; omega)
        have akx52 := akx51.kept kx52 (by simp; omega)
        refine hK _ _ bpx52 ?_
        clear hK K
        simp only [Act.put]
        refine plan_done ?_
        go_wp2_with fail
        go_meet
        exact ⟨_, rfl, rx52, kyx52, bpx52, bxx52, Bx52⟩
    · refine step_at _ rfl fun K hK => ?_
      go_simp
      refine ((HI _).out).mono ?_
      rintro e wx53 ⟨vx53, rfl, ox53, hx53⟩
      obtain ⟨Ax53, cx53, rfl, cix53, _, rix530⟩ := own_form ox53
      clear ox53
      have Bx54 := B11.drew.trans (hx53.mono B11.drew.size)
      have kyx54 := ky_11.drew.on hx53
      have bpx54 := x_11.drew.on hx53
      have bxx54 := bx_11.drew.on hx53
      have akx54 := ak_11.drew.on hx53
      have lez54 := Nat.le_trans (Nat.le_refl _) hx53.size
      refine hK _ _ bpx54 ?_
      clear hK K
      refine plan_two ?_ ?_
      · refine step_at _ rfl fun K hK => ?_
        go_simp
        have ox55 := own_empty wx53 5 1 w11.heap.size lez54
        have hx55 : Below wx53.heap.size wx53 (wx53.alloc (.cells #[] 5)) := (Below.refl _ _).alloc (Nat.le_refl _) _
        have Bx56 := Bx54.trans (hx55.mono Bx54.size)
        have kyx56 := kyx54.on hx55
        have bpx56 := bpx54.on hx55
        have bxx56 := bxx54.on hx55
        have akx56 := akx54.on hx55
        have ix56 := rix530.on hx55
        have lez56 := Nat.le_trans lez54 hx55.size
        refine hK _ _ bpx56 ?_
        clear hK K
        refine plan_two ?_ ?_
        · refine step_at _ rfl fun K hK => ?_
          refine step_append_src rfl (.tmp 110) (.tmp 113) _ _ rfl w11.heap.size 5 i0 _ 1 1 Tryd.underlying34 hi0 hz0 hz1 hz2 rfl _ _ _ rfl ox55 E.length _ (Src.ofReads _ Tryd.underlying34 ix56 (bvs_one _)) (by unfold maxLen; omega) (by omega) lez56 ?_
          intro vx57 wx57 ox57 kx57 hx57
          have Bx57 := Bx56.trans (hx57.mono B11.size)
          have lex57 := Nat.le_trans lez56 hx57.size
          have kyx57 := kyx56.kept kx57 (kyx56.not_row (by decide) ox55)
          have bpx57 := bpx56.kept kx57 (bpx56.not_row (by decide) ox55)
          have bxx57 := bxx56.kept kx57 (bxx56.not_row (by decide) ox55)
          have akx57 := akx56.kept kx57 (akx56.not_row (by decide) ox55)
          rw [Nat.zero_add, List.nil_append] at ox57
          refine hK _ _ bpx57 ?_
          clear hK K
          simp only [Act.put, List.setIfInBounds_toArray, List.set_cons_zero, List.set_cons_succ]
          refine plan_two ?_ ?_
          · refine step_at _ rfl fun K hK => ?_
            go_simp
            refine ((HBY _).out).mono ?_
            rintro e wx58 ⟨vx58, rfl, ox58, hx58⟩
            obtain ⟨Ax58, cx58, rfl, cbx58, _, rbx580⟩ := own_form ox58
            clear ox58
            have Bx59 := Bx57.trans (hx58.mono Bx57.size)
            have ox59 := own_below ox57 hx58
            have kyx59 := kyx57.on hx58
            have bpx59 := bpx57.on hx58
            have bxx59 := bxx57.on hx58
            have akx59 := akx57.on hx58
            have lez59 := Nat.le_trans lex57 hx58.size
            refine hK _ _ bpx59 ?_
            clear hK K
            refine plan_two ?_ ?_
            · refine step_at _ rfl fun K hK => ?_
              refine step_append_src rfl (.tmp 114) (.tmp 117) _ _ rfl w11.heap.size 5 i0 _ 1 1 Tryd.underlying34 hi0 hz0 hz1 hz2 rfl _ _ _ rfl ox59 EB.length _ (Src.ofReads _ Tryd.underlying34 rbx580 (bvs_one _)) (by unfold maxLen; omega) (by omega) lez59 ?_
              intro vx60 wx60 ox60 kx60 hx60
              have Bx60 := Bx59.trans (hx60.mono B11.size)
              have lex60 := Nat.le_trans lez59 hx60.size
              have kyx60 := kyx59.kept kx60 (kyx59.not_row (by decide) ox59)
              have bpx60 := bpx59.kept kx60 (bpx59.not_row (by decide) ox59)
              have bxx60 := bxx59.kept kx60 (bxx59.not_row (by decide) ox59)
              have akx60 := akx59.kept kx60 (akx59.not_row (by decide) ox59)
              rw [← bvs_append] at ox60
              obtain ⟨Ax60, cx60, rfl, cmx60, _, rmx60⟩ := own_form ox60
              refine hK _ _ bpx60 ?_
              clear hK K
              simp only [Act.put, List.setIfInBounds_toArray, List.set_cons_zero, List.set_cons_succ]
              refine plan_two ?_ ?_
              · refine step_at _ rfl fun K hK => ?_
                go_simp
                refine (mac_any _ Ax60 16 cx60 AK (E ++ EB) 16 (E.length + EB.length) _ (hCo.on Bx60) (akx60.reads16 HAL.out) (Nat.le_refl _) (by omega) rmx60 cmx60 (by omega)).mono ?_
                rintro e wx61 ⟨rfl, hx61⟩
                rw [← HTE.out]
                have Bx62 := Bx60.trans (hx61.mono Bx60.size)
                have kyx62 := kyx60.on hx61
                have bpx62 := bpx60.on hx61
                have bxx62 := bxx60.on hx61
                have akx62 := akx60.on hx61
                have mbx62 := rmx60.on hx61
                have lez62 := Nat.le_trans lex60 hx61.size
                refine hK _ _ bpx62 ?_
                clear hK K
                refine plan_one _ rfl fun K hK => ?_
                refine step_alloc rfl _ rfl zeros16 zero_b16 ?_
                intro wx63 rx63 sx63 kx63
                have hx63 : Below wx61.heap.size wx61 wx63 := grown_below kx63 (Nat.le_refl _) (by simp)
                have zzx63 := Bx62.size
                have zkyx63 := kyx62.lt
                have zbpx63 := bpx62.lt
                have zbxx63 := bxx62.lt
                have zakx63 := akx62.lt
                have Bx64 := Bx62.trans (hx63.mono Bx62.size)
                have kyx64 := kyx62.on hx63
                have bpx64 := bpx62.on hx63
                have bxx64 := bxx62.on hx63
                have akx64 := akx62.on hx63
                have lez64 := Nat.le_trans lez62 hx63.size
                refine hK _ _ bpx64 ?_
                clear hK K
                simp only [Act.put, List.setIfInBounds_toArray, List.set_cons_zero, List.set_cons_succ]
                refine plan_one _ rfl fun K hK => ?_
                refine step_store_all rfl _ _ _ rfl wx61.heap.size rfl _ _ rx63 (bvs AG) rfl (bvs_one _) (b16_zeros _ HAG.out) (b16_size _ HAG.out) ?_
                intro wx65 rx65 kx65
                have Bx65 := below_kept Bx64 kx65 Bx64.size (by rintro k hk; cases hk; exact zzx63)
                have kyx65 := kyx64.kept kx65 (by simp; omega)
                have bpx65 := bpx64.kept kx65 (by simp; omega)
                have bxx65 := bxx64.kept kx65 (by simp; omega)
                have akx65 := akx64.kept kx65 (by simp; omega)
                refine hK _ _ bpx65 ?_
                clear hK K
                simp only [Act.put]
                refine plan_done ?_
                go_wp2_with fail
                go_meet
                exact ⟨_, rfl, rx65, kyx65, bpx65, bxx65, Bx65⟩
              · refine step_at _ rfl fun K hK => ?_
                refine step_alloc rfl _ rfl zeros16 zero_b16 ?_
                intro wx66 rx66 sx66 kx66
                have hx66 : Below wx60.heap.size wx60 wx66 := grown_below kx66 (Nat.le_refl _) (by simp)
                have zzx66 := Bx60.size
                have zkyx66 := kyx60.lt
                have zbpx66 := bpx60.lt
                have zbxx66 := bxx60.lt
                have zakx66 := akx60.lt
                have Bx67 := Bx60.trans (hx66.mono Bx60.size)
                have kyx67 := kyx60.on hx66
                have bpx67 := bpx60.on hx66
                have bxx67 := bxx60.on hx66
                have akx67 := akx60.on hx66
                have mbx67 := rmx60.on hx66
                have lez67 := Nat.le_trans lex60 hx66.size
                refine hK _ _ bpx67 ?_
                clear hK K
                simp only [Act.put, List.setIfInBounds_toArray, List.set_cons_zero, List.set_cons_succ]
                refine plan_one _ rfl fun K hK => ?_
                go_simp
                refine (mac_any _ Ax60 16 cx60 AK (E ++ EB) 16 (E.length + EB.length) _ (hCo.on Bx67) (akx67.reads16 HAL.out) (Nat.le_refl _) (by omega) mbx67 cmx60 (by omega)).mono ?_
                rintro e wx68 ⟨rfl, hx68⟩
                rw [← HTE.out]
                have Bx69 := Bx67.trans (hx68.mono Bx67.size)
                have kyx69 := kyx67.on hx68
                have bpx69 := bpx67.on hx68
                have bxx69 := bxx67.on hx68
                have akx69 := akx67.on hx68
                have mbx69 := mbx67.on hx68
                have t7x69 := rx66.on hx68
                have lez69 := Nat.le_trans lez67 hx68.size
                refine hK _ _ bpx69 ?_
                clear hK K
                refine plan_one _ rfl fun K hK => ?_
                refine step_store_all rfl _ _ _ rfl wx60.heap.size rfl _ _ t7x69 (bvs AG) rfl (bvs_one _) (b16_zeros _ HAG.out) (b16_size _ HAG.out) ?_
                intro wx70 rx70 kx70
                have Bx70 := below_kept Bx69 kx70 Bx69.size (by rintro k hk; cases hk; exact zzx66)
                have kyx70 := kyx69.kept kx70 (by simp; omega)
                have bpx70 := bpx69.kept kx70 (by simp; omega)
                have bxx70 := bxx69.kept kx70 (by simp; omega)
                have akx70 := akx69.kept kx70 (by simp; omega)
                refine hK _ _ bpx70 ?_
                clear hK K
                simp only [Act.put]
                refine plan_done ?_
                go_wp2_with fail
                go_meet
                exact ⟨_, rfl, rx70, kyx70, bpx70, bxx70, Bx70⟩
            · refine step_at _ rfl fun K hK => ?_
              refine step_alloc rfl _ rfl zeros16 zero_b16 ?_
              intro wx71 rx71 sx71 kx71
              have hx71 : Below wx58.heap.size wx58 wx71 := grown_below kx71 (Nat.le_refl _) (by simp)
              have zzx71 := Bx59.size
              have zkyx71 := kyx59.lt
              have zbpx71 := bpx59.lt
              have zbxx71 := bxx59.lt
              have zakx71 := akx59.lt
              have Bx72 := Bx59.trans (hx71.mono Bx59.size)
              have ox72 := own_below ox59 hx71
              have kyx72 := kyx59.on hx71
              have bpx72 := bpx59.on hx71
              have bxx72 := bxx59.on hx71
              have akx72 := akx59.on hx71
              have bx72 := rbx580.on hx71
              have lez72 := Nat.le_trans lez59 hx71.size
              refine hK _ _ bpx72 ?_
              clear hK K
              simp only [Act.put, List.setIfInBounds_toArray, List.set_cons_zero, List.set_cons_succ]
              refine plan_one _ rfl fun K hK => ?_
              refine step_append_src rfl (.tmp 114) (.tmp 117) _ _ rfl w11.heap.size 5 i0 _ 1 1 Tryd.underlying34 hi0 hz0 hz1 hz2 rfl _ _ _ rfl ox72 EB.length _ (Src.ofReads _ Tryd.underlying34 bx72 (bvs_one _)) (by unfold maxLen; omega) (by omega) lez72 ?_
              intro vx73 wx73 ox73 kx73 hx73
              have Bx73 := Bx72.trans (hx73.mono B11.size)
              have lex73 := Nat.le_trans lez72 hx73.size
              have kyx73 := kyx72.kept kx73 (kyx72.not_row (by decide) ox72)
              have bpx73 := bpx72.kept kx73 (bpx72.not_row (by decide) ox72)
              have bxx73 := bxx72.kept kx73 (bxx72.not_row (by decide) ox72)
              have akx73 := akx72.kept kx73 (akx72.not_row (by decide) ox72)
              have t7x73 := rx71.kept kx73 (rx71.not_row (by decide) ox72)
              rw [← bvs_append] at ox73
              obtain ⟨Ax73, cx73, rfl, cmx73, _, rmx73⟩ := own_form ox73
              refine hK _ _ bpx73 ?_
              clear hK K
              simp only [Act.put, List.setIfInBounds_toArray, List.set_cons_zero, List.set_cons_succ]
              refine plan_one _ rfl fun K hK => ?_
              go_simp
              refine (mac_any _ Ax73 16 cx73 AK (E ++ EB) 16 (E.length + EB.length) _ (hCo.on Bx73) (akx73.reads16 HAL.out) (Nat.le_refl _) (by omega) rmx73 cmx73 (by omega)).mono ?_
              rintro e wx74 ⟨rfl, hx74⟩
              rw [← HTE.out]
              have Bx75 := Bx73.trans (hx74.mono Bx73.size)
              have kyx75 := kyx73.on hx74
              have bpx75 := bpx73.on hx74
              have bxx75 := bxx73.on hx74
              have akx75 := akx73.on hx74
              have t7x75 := t7x73.on hx74
              have mbx75 := rmx73.on hx74
              have lez75 := Nat.le_trans lex73 hx74.size
              refine hK _ _ bpx75 ?_
              clear hK K
              refine plan_one _ rfl fun K hK => ?_
              refine step_store_all rfl _ _ _ rfl wx58.heap.size rfl _ _ t7x75 (bvs AG) rfl (bvs_one _) (b16_zeros _ HAG.out) (b16_size _ HAG.out) ?_
              intro wx76 rx76 kx76
              have Bx76 := below_kept Bx75 kx76 Bx75.size (by rintro k hk; cases hk; exact zzx71)
              have kyx76 := kyx75.kept kx76 (by simp; omega)
              have bpx76 := bpx75.kept kx76 (by simp; omega)
              have bxx76 := bxx75.kept kx76 (by simp; omega)
              have akx76 := akx75.kept kx76 (by simp; omega)
              refine hK _ _ bpx76 ?_
              clear hK K
              simp only [Act.put]
              refine plan_done ?_
              go_wp2_with fail
              go_meet
              exact ⟨_, rfl, rx76, kyx76, bpx76, bxx76, Bx76⟩
          · refine step_at _ rfl fun K hK => ?_
            refine step_alloc rfl _ rfl zeros16 zero_b16 ?_
            intro wx77 rx77 sx77 kx77
            have hx77 : Below wx57.heap.size wx57 wx77 := grown_below kx77 (Nat.le_refl _) (by simp)
            have zzx77 := Bx57.size
            have zkyx77 := kyx57.lt
            have zbpx77 := bpx57.lt
            have zbxx77 := bxx57.lt
            have zakx77 := akx57.lt
            have Bx78 := Bx57.trans (hx77.mono Bx57.size)
            have ox78 := own_below ox57 hx77
            have kyx78 := kyx57.on hx77
            have bpx78 := bpx57.on hx77
            have bxx78 := bxx57.on hx77
            have akx78 := akx57.on hx77
            have lez78 := Nat.le_trans lex57 hx77.size
            refine hK _ _ bpx78 ?_
            clear hK K
            simp only [Act.put, List.setIfInBounds_toArray, List.set_cons_zero, List.set_cons_succ]
            refine plan_one _ rfl fun K hK => ?_
            go_simp
            refine ((HBY _).out).mono ?_
            rintro e wx79 ⟨vx79, rfl, ox79, hx79⟩
            obtain ⟨Ax79, cx79, rfl, cbx79, _, rbx790⟩ := own_form ox79
            clear ox79
            have Bx80 := Bx78.trans (hx79.mono Bx78.size)
            have ox80 := own_below ox78 hx79
            have kyx80 := kyx78.on hx79
            have bpx80 := bpx78.on hx79
            have bxx80 := bxx78.on hx79
            have akx80 := akx78.on hx79
            have t7x80 := rx77.on hx79
            have lez80 := Nat.le_trans lez78 hx79.size
            refine hK _ _ bpx80 ?_
            clear hK K
            refine plan_one _ rfl fun K hK => ?_
            refine step_append_src rfl (.tmp 114) (.tmp 117) _ _ rfl w11.heap.size 5 i0 _ 1 1 Tryd.underlying34 hi0 hz0 hz1 hz2 rfl _ _ _ rfl ox80 EB.length _ (Src.ofReads _ Tryd.underlying34 rbx790 (bvs_one _)) (by unfold maxLen; omega) (by omega) lez80 ?_
            intro vx81 wx81 ox81 kx81 hx81
            have Bx81 := Bx80.trans (hx81.mono B11.size)
            have lex81 := Nat.le_trans lez80 hx81.size
            have kyx81 := kyx80.kept kx81 (kyx80.not_row (by decide) ox80)
            have bpx81 := bpx80.kept kx81 (bpx80.not_row (by decide) ox80)
            have bxx81 := bxx80.kept kx81 (bxx80.not_row (by decide) ox80)
            have akx81 := akx80.kept kx81 (akx80.not_row (by decide) ox80)
            have t7x81 := t7x80.kept kx81 (t7x80.not_row (by decide) ox80)
            rw [← bvs_append] at ox81
            obtain ⟨Ax81, cx81, rfl, cmx81, _, rmx81⟩ := own_form ox81
            refine hK _ _ bpx81 ?_
            clear hK K
            simp only [Act.put, List.setIfInBounds_toArray, List.set_cons_zero, List.set_cons_succ]
            refine plan_one _ rfl fun K hK => ?_
            go_simp
            refine (mac_any _ Ax81 16 cx81 AK (E ++ EB) 16 (E.length + EB.length) _ (hCo.on Bx81) (akx81.reads16 HAL.out) (Nat.le_refl _) (by omega) rmx81 cmx81 (by omega)).mono ?_
            rintro e wx82 ⟨rfl, hx82⟩
            rw [← HTE.out]
            have Bx83 := Bx81.trans (hx82.mono Bx81.size)
            have kyx83 := kyx81.on hx82
            have bpx83 := bpx81.on hx82
            have bxx83 := bxx81.on hx82
            have akx83 := akx81.on hx82
            have t7x83 := t7x81.on hx82
            have mbx83 := rmx81.on hx82
            have lez83 := Nat.le_trans lex81 hx82.size
            refine hK _ _ bpx83 ?_
            clear hK K
            refine plan_one _ rfl fun K hK => ?_
            refine step_store_all rfl _ _ _ rfl wx57.heap.size rfl _ _ t7x83 (bvs AG) rfl (bvs_one _) (b16_zeros _ HAG.out) (b16_size _ HAG.out) ?_
            intro wx84 rx84 kx84
            have Bx84 := below_kept Bx83 kx84 Bx83.size (by rintro k hk; cases hk; exact zzx77)
            have kyx84 := kyx83.kept kx84 (by simp; omega)
            have bpx84 := bpx83.kept kx84 (by simp; omega)
            have bxx84 := bxx83.kept kx84 (by simp; omega)
            have akx84 := akx83.kept kx84 (by simp; omega)
            refine hK _ _ bpx84 ?_
            clear hK K
            simp only [Act.put]
            refine plan_done ?_
            go_wp2_with fail
            go_meet
            exact ⟨_, rfl, rx84, kyx84, bpx84, bxx84, Bx84⟩
        · refine step_at _ rfl fun K hK => ?_
          refine step_alloc rfl _ rfl zeros16 zero_b16 ?_
          intro wx85 rx85 sx85 kx85
          have hx85 : Below (wx53.alloc (.cells #[] 5)).heap.size (wx53.alloc (.cells #[] 5)) wx85 := grown_below kx85 (Nat.le_refl _) (by simp)
          have zzx85 := Bx56.size
          have zkyx85 := kyx56.lt
          have zbpx85 := bpx56.lt
          have zbxx85 := bxx56.lt
          have zakx85 := akx56.lt
          have Bx86 := Bx56.trans (hx85.mono Bx56.size)
          have kyx86 := kyx56.on hx85
          have bpx86 := bpx56.on hx85
          have bxx86 := bxx56.on hx85
          have akx86 := akx56.on hx85
          have ix86 := ix56.on hx85
          have ox86 := own_below ox55 hx85
          have lez86 := Nat.le_trans lez56 hx85.size
          have erx85 : (wx53.alloc (.cells #[] 5)).heap.size = wx53.heap.size + 1 := by simp
          have frx85 : (wx53.alloc (.cells #[] 5)).drew.heap.size = wx53.heap.size + 1 := by simp
          first | rw [erx85] at rx85 | rw [frx85] at rx85
          rw [erx85] at zzx85
          refine hK _ _ bpx86 ?_
          clear hK K
          simp only [Act.put, List.setIfInBounds_toArray, List.set_cons_zero, List.set_cons_succ]
          refine plan_one _ rfl fun K hK => ?_
          refine step_append_src rfl (.tmp 110) (.tmp 113) _ _ rfl w11.heap.size 5 i0 _ 1 1 Tryd.underlying34 hi0 hz0 hz1 hz2 rfl _ _ _ rfl ox86 E.length _ (Src.ofReads _ Tryd.underlying34 ix86 (bvs_one _)) (by unfold maxLen; omega) (by omega) lez86 ?_
          intro vx87 wx87 ox87 kx87 hx87
          have Bx87 := Bx86.trans (hx87.mono B11.size)
          have lex87 := Nat.le_trans lez86 hx87.size
          have kyx87 := kyx86.kept kx87 (kyx86.not_row (by decide) ox86)
          have bpx87 := bpx86.kept kx87 (bpx86.not_row (by decide) ox86)
          have bxx87 := bxx86.kept kx87 (bxx86.not_row (by decide) ox86)
          have akx87 := akx86.kept kx87 (akx86.not_row (by decide) ox86)
          have t7x87 := rx85.kept kx87 (rx85.not_row (by decide) ox86)
          rw [Nat.zero_add, List.nil_append] at ox87
          refine hK _ _ bpx87 ?_
          clear hK K
          simp only [Act.put, List.setIfInBounds_toArray, List.set_cons_zero, List.set_cons_succ]
          refine plan_one _ rfl fun K hK => ?_
          go_simp
          refine ((HBY _).out).mono ?_
          rintro e wx88 ⟨vx88, rfl, ox88, hx88⟩
          obtain ⟨Ax88, cx88, rfl, cbx88, _, rbx880⟩ := own_form ox88
          clear ox88
          have Bx89 := Bx87.trans (hx88.mono Bx87.size)
          have ox89 := own_below ox87 hx88
          have kyx89 := kyx87.on hx88
          have bpx89 := bpx87.on hx88
          have bxx89 := bxx87.on hx88
          have akx89 := akx87.on hx88
          have t7x89 := t7x87.on hx88
          have lez89 := Nat.le_trans lex87 hx88.size
          refine hK _ _ bpx89 ?_
          clear hK K
          refine plan_one _ rfl fun K hK => ?_
          refine step_append_src rfl (.tmp 114) (.tmp 117) _ _ rfl w11.heap.size 5 i0 _ 1 1 Tryd.underlying34 hi0 hz0 hz1 hz2 rfl _ _ _ rfl ox89 EB.length _ (Src.ofReads _ Tryd.underlying34 rbx880 (bvs_one _)) (by unfold maxLen; omega) (by omega) lez89 ?_
          intro vx90 wx90 ox90 kx90 hx90
          have Bx90 := Bx89.trans (hx90.mono B11.size)
          have lex90 := Nat.le_trans lez89 hx90.size
          have kyx90 := kyx89.kept kx90 (kyx89.not_row (by decide) ox89)
          have bpx90 := bpx89.kept kx90 (bpx89.not_row (by decide) ox89)
          have bxx90 := bxx89.kept kx90 (bxx89.not_row (by decide) ox89)
          have akx90 := akx89.kept kx90 (akx89.not_row (by decide) ox89)
          have t7x90 := t7x89.kept kx90 (t7x89.not_row (by decide) ox89)
          rw [← bvs_append] at ox90
          obtain ⟨Ax90, cx90, rfl, cmx90, _, rmx90⟩ := own_form ox90
          refine hK _ _ bpx90 ?_
          clear hK K
          simp only [Act.put, List.setIfInBounds_toArray, List.set_cons_zero, List.set_cons_succ]
          refine plan_one _ rfl fun K hK => ?_
          go_simp
          refine (mac_any _ Ax90 16 cx90 AK (E ++ EB) 16 (E.length + EB.length) _ (hCo.on Bx90) (akx90.reads16 HAL.out) (Nat.le_refl _) (by omega) rmx90 cmx90 (by omega)).mono ?_
          rintro e wx91 ⟨rfl, hx91⟩
          rw [← HTE.out]
          have Bx92 := Bx90.trans (hx91.mono Bx90.size)
          have kyx92 := kyx90.on hx91
          have bpx92 := bpx90.on hx91
          have bxx92 := bxx90.on hx91
          have akx92 := akx90.on hx91
          have t7x92 := t7x90.on hx91
          have mbx92 := rmx90.on hx91
          have lez92 := Nat.le_trans lex90 hx91.size
          refine hK _ _ bpx92 ?_
          clear hK K
          refine plan_one _ rfl fun K hK => ?_
          refine step_store_all rfl _ _ _ rfl (wx53.heap.size + 1) rfl _ _ t7x92 (bvs AG) rfl (bvs_one _) (b16_zeros _ HAG.out) (b16_size _ HAG.out) ?_
          intro wx93 rx93 kx93
          have Bx93 := below_kept Bx92 kx93 Bx92.size (by rintro k hk; cases hk; exact zzx85)
          have kyx93 := kyx92.kept kx93 (by simp; omega)
          have bpx93 := bpx92.kept kx93 (by simp; omega)
          have bxx93 := bxx92.kept kx93 (by simp; omega)
          have akx93 := akx92.kept kx93 (by simp; omega)
          refine hK _ _ bpx93 ?_
          clear hK K
          simp only [Act.put]
          refine plan_done ?_
          go_wp2_with fail
          go_meet
          exact ⟨_, rfl, rx93, kyx93, bpx93, bxx93, Bx93⟩
      · refine step_at _ rfl fun K hK => ?_
        refine step_alloc rfl _ rfl zeros16 zero_b16 ?_
        intro wx94 rx94 sx94 kx94
        have hx94 : Below wx53.heap.size wx53 wx94 := grown_below kx94 (Nat.le_refl _) (by simp)
        have zzx94 := Bx54.size
        have zkyx94 := kyx54.lt
        have zbpx94 := bpx54.lt
        have zbxx94 := bxx54.lt
        have zakx94 := akx54.lt
        have Bx95 := Bx54.trans (hx94.mono Bx54.size)
        have kyx95 := kyx54.on hx94
        have bpx95 := bpx54.on hx94
        have bxx95 := bxx54.on hx94
        have akx95 := akx54.on hx94
        have ix95 := rix530.on hx94
        have lez95 := Nat.le_trans lez54 hx94.size
        refine hK _ _ bpx95 ?_
        clear hK K
        simp only [Act.put, List.setIfInBounds_toArray, List.set_cons_zero, List.set_cons_succ]
        refine plan_one _ rfl fun K hK => ?_
        go_simp
        have ox96 := own_empty wx94 5 1 w11.heap.size lez95
        have hx96 : Below wx94.heap.size wx94 (wx94.alloc (.cells #[] 5)) := (Below.refl _ _).alloc (Nat.le_refl _) _
        have Bx97 := Bx95.trans (hx96.mono Bx95.size)
        have kyx97 := kyx95.on hx96
        have bpx97 := bpx95.on hx96
        have bxx97 := bxx95.on hx96
        have akx97 := akx95.on hx96
        have ix97 := ix95.on hx96
        have t7x97 := rx94.on hx96
        have lez97 := Nat.le_trans lez95 hx96.size
        refine hK _ _ bpx97 ?_
        clear hK K
        refine plan_one _ rfl fun K hK => ?_
        refine step_append_src rfl (.tmp 110) (.tmp 113) _ _ rfl w11.heap.size 5 i0 _ 1 1 Tryd.underlying34 hi0 hz0 hz1 hz2 rfl _ _ _ rfl ox96 E.length _ (Src.ofReads _ Tryd.underlying34 ix97 (bvs_one _)) (by unfold maxLen; omega) (by omega) lez97 ?_
        intro vx98 wx98 ox98 kx98 hx98
        have Bx98 := Bx97.trans (hx98.mono B11.size)
        have lex98 := Nat.le_trans lez97 hx98.size
        have kyx98 := kyx97.kept kx98 (kyx97.not_row (by decide) ox96)
        have bpx98 := bpx97.kept kx98 (bpx97.not_row (by decide) ox96)
        have bxx98 := bxx97.kept kx98 (bxx97.not_row (by decide) ox96)
        have akx98 := akx97.kept kx98 (akx97.not_row (by decide) ox96)
        have t7x98 := t7x97.kept kx98 (t7x97.not_row (by decide) ox96)
        rw [Nat.zero_add, List.nil_append] at ox98
        refine hK _ _ bpx98 ?_
        clear hK K
        simp only [Act.put, List.setIfInBounds_toArray, List.set_cons_zero, List.set_cons_succ]
        refine plan_one _ rfl fun K hK => ?_
        go_simp
        refine ((HBY _).out).mono ?_
        rintro e wx99 ⟨vx99, rfl, ox99, hx99⟩
        obtain ⟨Ax99, cx99, rfl, cbx99, _, rbx990⟩ := own_form ox99
        clear ox99
        have Bx100 := Bx98.trans (hx99.mono Bx98.size)
        have ox100 := own_below ox98 hx99
        have kyx100 := kyx98.on hx99
        have bpx100 := bpx98.on hx99
        have bxx100 := bxx98.on hx99
        have akx100 := akx98.on hx99
        have t7x100 := t7x98.on hx99
        have lez100 := Nat.le_trans lex98 hx99.size
        refine hK _ _ bpx100 ?_
        clear hK K
        refine plan_one _ rfl fun K hK => ?_
        refine step_append_src rfl (.tmp 114) (.tmp 117) _ _ rfl w11.heap.size 5 i0 _ 1 1 Tryd.underlying34 hi0 hz0 hz1 hz2 rfl _ _ _ rfl ox100 EB.length _ (Src.ofReads _ Tryd.underlying34 rbx990 (bvs_one _)) (by unfold maxLen; omega) (by omega) lez100 ?_
        intro vx101 wx101 ox101 kx101 hx101
        have Bx101 := Bx100.trans (hx101.mono B11.size)
        have lex101 := Nat.le_trans lez100 hx101.size
        have kyx101 := kyx100.kept kx101 (kyx100.not_row (by decide) ox100)
        have bpx101 := bpx100.kept kx101 (bpx100.not_row (by decide) ox100)
        have bxx101 := bxx100.kept kx101 (bxx100.not_row (by decide) ox100)
        have akx101 := akx100.kept kx101 (akx100.not_row (by decide) ox100)
        have t7x101 := t7x100.kept kx101 (t7x100.not_row (by decide) ox100)
        rw [← bvs_append] at ox101
        obtain ⟨Ax101, cx101, rfl, cmx101, _, rmx101⟩ := own_form ox101
        refine hK _ _ bpx101 ?_
        clear hK K
        simp only [Act.put, List.setIfInBounds_toArray, List.set_cons_zero, List.set_cons_succ]
        refine plan_one _ rfl fun K hK => ?_
        go_simp
        refine (mac_any _ Ax101 16 cx101 AK (E ++ EB) 16 (E.length + EB.length) _ (hCo.on Bx101) (akx101.reads16 HAL.out) (Nat.le_refl _) (by omega) rmx101 cmx101 (by omega)).mono ?_
        rintro e wx102 ⟨rfl, hx102⟩
        rw [← HTE.out]
        have Bx103 := Bx101.trans (hx102.mono Bx101.size)
        have kyx103 := kyx101.on hx102
        have bpx103 := bpx101.on hx102
        have bxx103 := bxx101.on hx102
        have akx103 := akx101.on hx102
        have t7x103 := t7x101.on hx102
        have mbx103 := rmx101.on hx102
        have lez103 := Nat.le_trans lex101 hx102.size
        refine hK _ _ bpx103 ?_
        clear hK K
        refine plan_one _ rfl fun K hK => ?_
        refine step_store_all rfl _ _ _ rfl wx53.heap.size rfl _ _ t7x103 (bvs AG) rfl (bvs_one _) (b16_zeros _ HAG.out) (b16_size _ HAG.out) ?_
        intro wx104 rx104 kx104
        have Bx104 := below_kept Bx103 kx104 Bx103.size (by rintro k hk; cases hk; exact zzx94)
        have kyx104 := kyx103.kept kx104 (by simp; omega)
        have bpx104 := bpx103.kept kx104 (by simp; omega)
        have bxx104 := bxx103.kept kx104 (by simp; omega)
        have akx104 := akx103.kept kx104 (by simp; omega)
        refine hK _ _ bpx104 ?_
        clear hK K
        simp only [Act.put]
        refine plan_done ?_
        go_wp2_with fail
        go_meet
        exact ⟨_, rfl, rx104, kyx104, bpx104, bxx104, Bx104⟩
    · refine step_at _ rfl fun K hK => ?_
      refine step_alloc rfl _ rfl zeros16 zero_b16 ?_
      intro wx105 rx105 sx105 kx105
      have hx105 : Below w11.drew.heap.size w11.drew wx105 := grown_below kx105 (Nat.le_refl _) (by simp)
      have zzx105 := B11.drew.size
      have zkyx105 := ky_11.drew.lt
      have zbpx105 := x_11.drew.lt
      have zbxx105 := bx_11.drew.lt
      have zakx105 := ak_11.drew.lt
      have Bx106 := B11.drew.trans (hx105.mono B11.drew.size)
      have kyx106 := ky_11.drew.on hx105
      have bpx106 := x_11.drew.on hx105
      have bxx106 := bx_11.drew.on hx105
      have akx106 := ak_11.drew.on hx105
      have lez106 := Nat.le_trans (Nat.le_refl _) hx105.size
      refine hK _ _ bpx106 ?_
      clear hK K
      simp only [Act.put, List.setIfInBounds_toArray, List.set_cons_zero, List.set_cons_succ]
      refine plan_two ?_ ?_
      · refine step_at _ rfl fun K hK => ?_
        go_simp
        have ox107 := own_empty wx105 5 1 w11.heap.size lez106
        have hx107 : Below wx105.heap.size wx105 (wx105.alloc (.cells #[] 5)) := (Below.refl _ _).alloc (Nat.le_refl _) _
        have Bx108 := Bx106.trans (hx107.mono Bx106.size)
        have kyx108 := kyx106.on hx107
        have bpx108 := bpx106.on hx107
        have bxx108 := bxx106.on hx107
        have akx108 := akx106.on hx107
        have t7x108 := rx105.on hx107
        have lez108 := Nat.le_trans lez106 hx107.size
        refine hK _ _ bpx108 ?_
        clear hK K
        refine plan_one _ rfl fun K hK => ?_
        go_simp
        refine ((HI _).out).mono ?_
        rintro e wx109 ⟨vx109, rfl, ox109, hx109⟩
        obtain ⟨Ax109, cx109, rfl, cix109, _, rix1090⟩ := own_form ox109
        clear ox109
        have Bx110 := Bx108.trans (hx109.mono Bx108.size)
        have kyx110 := kyx108.on hx109
        have bpx110 := bpx108.on hx109
        have bxx110 := bxx108.on hx109
        have akx110 := akx108.on hx109
        have t7x110 := t7x108.on hx109
        have ox110 := own_below ox107 hx109
        have lez110 := Nat.le_trans lez108 hx109.size
        refine hK _ _ bpx110 ?_
        clear hK K
        refine plan_one _ rfl fun K hK => ?_
        refine step_append_src rfl (.tmp 110) (.tmp 113) _ _ rfl w11.heap.size 5 i0 _ 1 1 Tryd.underlying34 hi0 hz0 hz1 hz2 rfl _ _ _ rfl ox110 E.length _ (Src.ofReads _ Tryd.underlying34 rix1090 (bvs_one _)) (by unfold maxLen; omega) (by omega) lez110 ?_
        intro vx111 wx111 ox111 kx111 hx111
        have Bx111 := Bx110.trans (hx111.mono B11.size)
        have lex111 := Nat.le_trans lez110 hx111.size
        have kyx111 := kyx110.kept kx111 (kyx110.not_row (by decide) ox110)
        have bpx111 := bpx110.kept kx111 (bpx110.not_row (by decide) ox110)
        have bxx111 := bxx110.kept kx111 (bxx110.not_row (by decide) ox110)
        have akx111 := akx110.kept kx111 (akx110.not_row (by decide) ox110)
        have t7x111 := t7x110.kept kx111 (t7x110.not_row (by decide) ox110)
        rw [Nat.zero_add, List.nil_append] at ox111
        refine hK _ _ bpx111 ?_
        clear hK K
        simp only [Act.put, List.setIfInBounds_toArray, List.set_cons_zero, List.set_cons_succ]
        refine plan_one _ rfl fun K hK => ?_
        go_simp
        refine ((HBY _).out).mono ?_
        rintro e wx112 ⟨vx112, rfl, ox112, hx112⟩
        obtain ⟨Ax112, cx112, rfl, cbx112, _, rbx1120⟩ := own_form ox112
        clear ox112
        have Bx113 := Bx111.trans (hx112.mono Bx111.size)
        have ox113 := own_below ox111 hx112
        have kyx113 := kyx111.on hx112
        have bpx113 := bpx111.on hx112
        have bxx113 := bxx111.on hx112
        have akx113 := akx111.on hx112
        have t7x113 := t7x111.on hx112
        have lez113 := Nat.le_trans lex111 hx112.size
        refine hK _ _ bpx113 ?_
        clear hK K
        refine plan_one _ rfl fun K hK => ?_
        refine step_append_src rfl (.tmp 114) (.tmp 117) _ _ rfl w11.heap.size 5 i0 _ 1 1 Tryd.underlying34 hi0 hz0 hz1 hz2 rfl _ _ _ rfl ox113 EB.length _ (Src.ofReads _ Tryd.underlying34 rbx1120 (bvs_one _)) (by unfold maxLen; omega) (by omega) lez113 ?_
        intro vx114 wx114 ox114 kx114 hx114
        have Bx114 := Bx113.trans (hx114.mono B11.size)
        have lex114 := Nat.le_trans lez113 hx114.size
        have kyx114 := kyx113.kept kx114 (kyx113.not_row (by decide) ox113)
        have bpx114 := bpx113.kept kx114 (bpx113.not_row (by decide) ox113)
        have bxx114 := bxx113.kept kx114 (bxx113.not_row (by decide) ox113)
        have akx114 := akx113.kept kx114 (akx113.not_row (by decide) ox113)
        have t7x114 := t7x113.kept kx114 (t7x113.not_row (by decide) ox113)
        rw [← bvs_append] at ox114
        obtain ⟨Ax114, cx114, rfl, cmx114, _, rmx114⟩ := own_form ox114
        refine hK _ _ bpx114 ?_
        clear hK K
        simp only [Act.put, List.setIfInBounds_toArray, List.set_cons_zero, List.set_cons_succ]
        refine plan_one _ rfl fun K hK => ?_
        go_simp
        refine (mac_any _ Ax114 16 cx114 AK (E ++ EB) 16 (E.length + EB.length) _ (hCo.on Bx114) (akx114.reads16 HAL.out) (Nat.le_refl _) (by omega) rmx114 cmx114 (by omega)).mono ?_
        rintro e wx115 ⟨rfl, hx115⟩
        rw [← HTE.out]
        have Bx116 := Bx114.trans (hx115.mono Bx114.size)
        have kyx116 := kyx114.on hx115
        have bpx116 := bpx114.on hx115
        have bxx116 := bxx114.on hx115
        have akx116 := akx114.on hx115
        have t7x116 := t7x114.on hx115
        have mbx116 := rmx114.on hx115
        have lez116 := Nat.le_trans lex114 hx115.size
        refine hK _ _ bpx116 ?_
        clear hK K
        refine plan_one _ rfl fun K hK => ?_
        refine step_store_all rfl _ _ _ rfl w11.drew.heap.size rfl _ _ t7x116 (bvs AG) rfl (bvs_one _) (b16_zeros _ HAG.out) (b16_size _ HAG.out) ?_
        intro wx117 rx117 kx117
        have Bx117 := below_kept Bx116 kx117 Bx116.size (by rintro k hk; cases hk; exact zzx105)
        have kyx117 := kyx116.kept kx117 (by simp; omega)
        have bpx117 := bpx116.kept kx117 (by simp; omega)
        have bxx117 := bxx116.kept kx117 (by simp; omega)
        have akx117 := akx116.kept kx117 (by simp; omega)
        refine hK _ _ bpx117 ?_
        clear hK K
        simp only [Act.put]
        refine plan_done ?_
        go_wp2_with fail
        go_meet
        exact ⟨_, rfl, rx117, kyx117, bpx117, bxx117, Bx117⟩
      · refine step_at _ rfl fun K hK => ?_
        go_simp
        refine ((HI _).out).mono ?_
        rintro e wx118 ⟨vx118, rfl, ox118, hx118⟩
        obtain ⟨Ax118, cx118, rfl, cix118, _, rix1180⟩ := own_form ox118
        clear ox118
        have Bx119 := Bx106.trans (hx118.mono Bx106.size)
        have kyx119 := kyx106.on hx118
        have bpx119 := bpx106.on hx118
        have bxx119 := bxx106.on hx118
        have akx119 := akx106.on hx118
        have t7x119 := rx105.on hx118
        have lez119 := Nat.le_trans lez106 hx118.size
        refine hK _ _ bpx119 ?_
        clear hK K
        refine plan_one _ rfl fun K hK => ?_
        go_simp
        have ox120 := own_empty wx118 5 1 w11.heap.size lez119
        have hx120 : Below wx118.heap.size wx118 (wx118.alloc (.cells #[] 5)) := (Below.refl _ _).alloc (Nat.le_refl _) _
        have Bx121 := Bx119.trans (hx120.mono Bx119.size)
        have kyx121 := kyx119.on hx120
        have bpx121 := bpx119.on hx120
        have bxx121 := bxx119.on hx120
        have akx121 := akx119.on hx120
        have t7x121 := t7x119.on hx120
        have ix121 := rix1180.on hx120
        have lez121 := Nat.le_trans lez119 hx120.size
        refine hK _ _ bpx121 ?_
        clear hK K
        refine plan_one _ rfl fun K hK => ?_
        refine step_append_src rfl (.tmp 110) (.tmp 113) _ _ rfl w11.heap.size 5 i0 _ 1 1 Tryd.underlying34 hi0 hz0 hz1 hz2 rfl _ _ _ rfl ox120 E.length _ (Src.ofReads _ Tryd.underlying34 ix121 (bvs_one _)) (by unfold maxLen; omega) (by omega) lez121 ?_
        intro vx122 wx122 ox122 kx122 hx122
        have Bx122 := Bx121.trans (hx122.mono B11.size)
        have lex122 := Nat.le_trans lez121 hx122.size
        have kyx122 := kyx121.kept kx122 (kyx121.not_row (by decide) ox120)
        have bpx122 := bpx121.kept kx122 (bpx121.not_row (by decide) ox120)
        have bxx122 := bxx121.kept kx122 (bxx121.not_row (by decide) ox120)
        have akx122 := akx121.kept kx122 (akx121.not_row (by decide) ox120)
        have t7x122 := t7x121.kept kx122 (t7x121.not_row (by decide) ox120)
        rw [Nat.zero_add, List.nil_append] at ox122
        refine hK _ _ bpx122 ?_
        clear hK K
        simp only [Act.put, List.setIfInBounds_toArray, List.set_cons_zero, List.set_cons_succ]
        refine plan_one _ rfl fun K hK => ?_
        go_simp
        refine ((HBY _).out).mono ?_
        rintro e wx123 ⟨vx123, rfl, ox123, hx123⟩
        obtain ⟨Ax123, cx123, rfl, cbx123, _, rbx1230⟩ := own_form ox123
        clear ox123
        have Bx124 := Bx122.trans (hx123.mono Bx122.size)
        have ox124 := own_below ox122 hx123
        have kyx124 := kyx122.on hx123
        have bpx124 := bpx122.on hx123
        have bxx124 := bxx122.on hx123
        have akx124 := akx122.on hx123
        have t7x124 := t7x122.on hx123
        have lez124 := Nat.le_trans lex122 hx123.size
        refine hK _ _ bpx124 ?_
        clear hK K
        refine plan_one _ rfl fun K hK => ?_
        refine step_append_src rfl (.tmp 114) (.tmp 117) _ _ rfl w11.heap.size 5 i0 _ 1 1 Tryd.underlying34 hi0 hz0 hz1 hz2 rfl _ _ _ rfl ox124 EB.length _ (Src.ofReads _ Tryd.underlying34 rbx1230 (bvs_one _)) (by unfold maxLen; omega) (by omega) lez124 ?_
        intro vx125 wx125 ox125 kx125 hx125
        have Bx125 := Bx124.trans (hx125.mono B11.size)
        have lex125 := Nat.le_trans lez124 hx125.size
        have kyx125 := kyx124.kept kx125 (kyx124.not_row (by decide) ox124)
        have bpx125 := bpx124.kept kx125 (bpx124.not_row (by decide) ox124)
        have bxx125 := bxx124.kept kx125 (bxx124.not_row (by decide) ox124)
        have akx125 := akx124.kept kx125 (akx124.not_row (by decide) ox124)
        have t7x125 := t7x124.kept kx125 (t7x124.not_row (by decide) ox124)
        rw [← bvs_append] at ox125
        obtain ⟨Ax125, cx125, rfl, cmx125, _, rmx125⟩ := own_form ox125
        refine hK _ _ bpx125 ?_
        clear hK K
        simp only [Act.put, List.setIfInBounds_toArray, List.set_cons_zero, List.set_cons_succ]
        refine plan_one _ rfl fun K hK => ?_
        go_simp
        refine (mac_any _ Ax125 16 cx125 AK (E ++ EB) 16 (E.length + EB.length) _ (hCo.on Bx125) (akx125.reads16 HAL.out) (Nat.le_refl _) (by omega) rmx125 cmx125 (by omega)).mono ?_
        rintro e wx126 ⟨rfl, hx126⟩
        rw [← HTE.out]
        have Bx127 := Bx125.trans (hx126.mono Bx125.size)
        have kyx127 := kyx125.on hx126
        have bpx127 := bpx125.on hx126
        have bxx127 := bxx125.on hx126
        have akx127 := akx125.on hx126
        have t7x127 := t7x125.on hx126
        have mbx127 := rmx125.on hx126
        have lez127 := Nat.le_trans lex125 hx126.size
        refine hK _ _ bpx127 ?_
        clear hK K
        refine plan_one _ rfl fun K hK => ?_
        refine step_store_all rfl _ _ _ rfl w11.drew.heap.size rfl _ _ t7x127 (bvs AG) rfl (bvs_one _) (b16_zeros _ HAG.out) (b16_size _ HAG.out) ?_
        intro wx128 rx128 kx128
        have Bx128 := below_kept Bx127 kx128 Bx127.size (by rintro k hk; cases hk; exact zzx105)
        have kyx128 := kyx127.kept kx128 (by simp; omega)
        have bpx128 := bpx127.kept kx128 (by simp; omega)
        have bxx128 := bxx127.kept kx128 (by simp; omega)
        have akx128 := akx127.kept kx128 (by simp; omega)
        refine hK _ _ bpx128 ?_
        clear hK K
        simp only [Act.put]
        refine plan_done ?_
        go_wp2_with fail
        go_meet
        exact ⟨_, rfl, rx128, kyx128, bpx128, bxx128, Bx128⟩
  case rest =>
    obtain ⟨g, rfl, hwt, hky, hxx, hbx, hbc⟩ := hcut
    cases ob
    · have hoe : oe = 8 := HE.out
      rw [hoe] at HO1
      clear hoe HE
      go_wp2_with (first
        | (refine wpList_valueG (o := ⟨some 121, _, _, _, _, _⟩) rfl _ (by exact exec_load16 _ _ rfl _ rfl key HK.out hky.cells) ?_)
        | (refine wpList_valueG (o := ⟨some 122, _, _, _, _, _⟩) rfl _ (by exact exec_load_box _ _ rfl _ rfl N2 C T HT.out hxx.cells) ?_))
      refine ((HO1 _ (hCo.on hbc)).out).mono ?_
      rintro e w51 ⟨rfl, h51⟩
      have B51 := hbc.trans (h51.mono hbc.size)
      have K_51 := (hCo.on hbc).on h51
      have ky_51 := hky.on h51
      have x_51 := hxx.on h51
      have bx_51 := hbx.on h51
      have wt_51 := hwt.on h51
      go_wp2_with (first
        | (refine wpList_valueG (o := ⟨some 130, _, _, _, _, _⟩) rfl _ (by exact exec_load16 _ _ rfl _ rfl AG HAG.out wt_51.cells) ?_)
        | (refine wpList_valueG (o := ⟨some 132, _, _, _, _, _⟩) rfl _ (by exact exec_load16 _ _ rfl _ rfl T HT.out bx_51.tag) ?_)
        | (refine wpList_valueG (o := ⟨some 133, _, _, _, _, _⟩) rfl (.bool false) (by rw [show (false : Bool) = (AG == T) from HO.out.symm]; exact exec_eql16 _ _ _ rfl AG T HAG.out HT.out rfl rfl) ?_))
      go_ret
      exact ⟨rfl, B51⟩
    · have hoe : oe = 0 := HE.out
      rw [hoe] at HO1
      clear hoe HE
      go_wp2_with (first
        | (refine wpList_valueG (o := ⟨some 121, _, _, _, _, _⟩) rfl _ (by exact exec_load16 _ _ rfl _ rfl key HK.out hky.cells) ?_)
        | (refine wpList_valueG (o := ⟨some 122, _, _, _, _, _⟩) rfl _ (by exact exec_load_box _ _ rfl _ rfl N2 C T HT.out hxx.cells) ?_))
      refine ((HO1 _ (hCo.on hbc)).out).mono ?_
      rintro e w51 ⟨rfl, h51⟩
      have B51 := hbc.trans (h51.mono hbc.size)
      have K_51 := (hCo.on hbc).on h51
      have ky_51 := hky.on h51
      have x_51 := hxx.on h51
      have bx_51 := hbx.on h51
      have wt_51 := hwt.on h51
      go_wp2_with (first
        | (refine wpList_valueG (o := ⟨some 130, _, _, _, _, _⟩) rfl _ (by exact exec_load16 _ _ rfl _ rfl AG HAG.out wt_51.cells) ?_)
        | (refine wpList_valueG (o := ⟨some 132, _, _, _, _, _⟩) rfl _ (by exact exec_load16 _ _ rfl _ rfl T HT.out bx_51.tag) ?_)
        | (refine wpList_valueG (o := ⟨some 133, _, _, _, _, _⟩) rfl (.bool true) (by rw [show (true : Bool) = (AG == T) from HO.out.symm]; exact exec_eql16 _ _ _ rfl AG T HAG.out HT.out rfl rfl) ?_))
      go_ret
      exact ⟨rfl, B51⟩
end Go.Proofs.YtdgflobdnkopbaaDoor
