/-
  What the reference's apply, Tag, Seal and Open return: contracts by walks. Condition: bounded lengths.
-/
import Derived.Test.YtdgflobdnkopbaaDoorBxT
namespace Go.Proofs.YtdgflobdnkopbaaDoor
open Go.RowKit

theorem xors_snoc (a b : List UInt8) (k : Nat) (x y : UInt8) (hx : a[k]? = some x) (hy : b[k]? = some y) : xors (a.take (k + 1)) (b.take (k + 1)) = xors (a.take k) (b.take k) ++ [x ^^^ y] := by
  have ha : k < a.length := (List.getElem?_eq_some_iff.1 hx).1
  have hb : k < b.length := (List.getElem?_eq_some_iff.1 hy).1
  rw [List.take_add_one, List.take_add_one, hx, hy]
  unfold xors
  rw [List.zipWith_append (by rw [List.length_take, List.length_take]; omega)]
  rfl
theorem info_u8b : (Tryd.prog.info? 5).map (fun i => (i.zero, i.size, i.bytes)) = some (some (.int .u8 0), 1, 1) := by kernel_rfl

set_option maxRecDepth 100000 in
set_option maxHeartbeats 2000000 in
theorem apply_any (key : List UInt8) (hkey : key.length = 16) (n : Int) (hn1 : -9223372036854775808 ≤ n) (hn2 : n ≤ 9223372036854775807) (s : ByteArray) (hs : s.size ≤ 30000) (w : World) :
    Calls Tryd.prog 20 #[.agg (bvs key).toArray, .int .i64 n, .string s] w (GivesV (.string ⟨(cryp key n s.data.toList).toArray⟩) w) := by
  have HKL := Lib.hid hkey
  have HI := fun W => Lib.hid (refInt_any n W hn1 hn2)
  have HIL := Lib.hid (encInt_le n hn1 hn2)
  have HDE := fun A c => Lib.hid (drv_enc key n A c)
  have HEL := Lib.hid (encK_len key n)
  have HSL : Hid (s.data.toList.length = s.size) := by show _ = _; simp
  have HCR : Hid (cryp key n s.data.toList = xors s.data.toList (stream (encK key n) s.size)) := by show _ = _; unfold cryp; rw [HSL.out]
  have HSTL : Hid ((stream (encK key n) s.size).length = s.size) := stream_len _ _
  generalize cryp key n s.data.toList = X at *
  generalize encK key n = EK at *
  generalize encInt n = E at *
  clear hkey
  go_enter Tryd.func20, Tryd.ntmps20
  go_wp2_with (with_reducible refine wpList_box_row (o := ⟨some 3, _, _, _, _, _⟩) rfl _ _ rfl (bvs key) rfl ?_; intro w1 hrow1 hs1 hg1)
  have hb1 : Below w.heap.size w w1 := grown_below hg1 (Nat.le_refl _) (by simp)
  clear hg1
  go_cut [7] (fun s7 wc => ∃ g, s7 = .pointer (some ⟨g, 0, none⟩) ∧ Row wc g 23 (bvs EK) ∧ Below w.heap.size w wc)
  case first =>
    refine wp_region_plan (fun _ => True) (.take 0 <| .take 1 <| .two 2 (.two 3 (.two 4 (.one 5 <| .one 6 <| .done) 5 (.one 4 <| .one 6 <| .done)) 5 (.one 3 <| .one 4 <| .one 6 <| .done)) 5 (.one 2 <| .one 3 <| .one 4 <| .one 6 <| .done)) (by kernel_rfl) (by kernel_rfl) (by kernel_rfl) (fun _ _ _ _ _ h => h) True.intro ?_
    repeat (refine plan_take _ rfl ?_; go_big_quiet_step ((intros; rfl)); refine wpQuiet_nil ?_)
    refine plan_two ?_ ?_
    · refine step_at _ rfl fun K hK => ?_
      go_simp
      refine ((HI _).out).mono ?_
      rintro e wx1 ⟨vx1, rfl, ox1, hx1⟩
      obtain ⟨Ax1, cx1, rfl, cix1, _, rix10⟩ := own_form ox1
      have Bx2 := hb1.drew.trans (hx1.mono hb1.drew.size)
      have keyx2 := hrow1.drew.on hx1
      refine hK _ _ True.intro ?_
      clear hK K
      refine plan_two ?_ ?_
      · refine step_at _ rfl fun K hK => ?_
        go_simp
        have hrpx3 := readsP_one wx1 34 Ax1 E.length cx1 E rix10 cix1
        have hx3 : Below wx1.heap.size wx1 (wx1.alloc (.cells #[.slice Ax1 E.length cx1] 34)) := (Below.refl _ _).alloc (Nat.le_refl _) _
        have Bx4 := Bx2.trans (hx3.mono Bx2.size)
        have keyx4 := keyx2.on hx3
        have ix4 := rix10.on hx3
        refine hK _ _ True.intro ?_
        clear hK K
        refine plan_two ?_ ?_
        · refine step_at _ rfl fun K hK => ?_
          go_simp
          refine (refDerive_any _ _ key 16 ⟨#[101, 110, 99, 114, 121, 112, 116]⟩ _ 1 _ 1 _ (keyx4.reads16 HKL.out) (Nat.le_refl _) (by omega) (by decide) hrpx3 (by omega) (parts_one_le _ 300 (show E.length ≤ 300 by have := HIL.out; omega))).mono ?_
          rintro e wx5 ⟨rfl, hx5⟩
          rw [show drv key (⟨#[101, 110, 99, 114, 121, 112, 116]⟩ : ByteArray).data.toList _ = EK from (HDE Ax1 cx1).out]
          have Bx6 := Bx4.trans (hx5.mono Bx4.size)
          have keyx6 := keyx4.on hx5
          have ix6 := ix4.on hx5
          have psx6 := hrpx3.on hx5
          refine hK _ _ True.intro ?_
          clear hK K
          refine plan_one _ rfl fun K hK => ?_
          refine step_alloc rfl _ rfl zeros16 zero_b16 ?_
          intro wx7 rx7 sx7 kx7
          have hx7 : Below wx5.heap.size wx5 wx7 := grown_below kx7 (Nat.le_refl _) (by simp)
          have zzx7 := Bx6.size
          have zkeyx7 := keyx6.lt
          have Bx8 := Bx6.trans (hx7.mono Bx6.size)
          have keyx8 := keyx6.on hx7
          have ix8 := ix6.on hx7
          have psx8 := psx6.on hx7
          refine hK _ _ True.intro ?_
          clear hK K
          simp only [Act.put, List.setIfInBounds_toArray, List.set_cons_zero, List.set_cons_succ]
          refine plan_one _ rfl fun K hK => ?_
          refine step_store_all rfl _ _ _ rfl wx5.heap.size rfl _ _ rx7 (bvs EK) rfl (bvs_one _) (b16_zeros _ HEL.out) (b16_size _ HEL.out) ?_
          intro wx9 rx9 kx9
          have Bx9 := below_kept Bx8 kx9 Bx8.size (by rintro k hk; cases hk; exact zzx7)
          have keyx9 := keyx8.kept kx9 (by simp; omega)
          refine hK _ _ True.intro ?_
          clear hK K
          simp only [Act.put]
          refine plan_done ?_
          go_wp2_with fail
          go_meet
          exact ⟨_, rfl, rx9, Bx9⟩
        · refine step_at _ rfl fun K hK => ?_
          refine step_alloc rfl _ rfl zeros16 zero_b16 ?_
          intro wx10 rx10 sx10 kx10
          have hx10 : Below (wx1.alloc (.cells #[.slice Ax1 E.length cx1] 34)).heap.size (wx1.alloc (.cells #[.slice Ax1 E.length cx1] 34)) wx10 := grown_below kx10 (Nat.le_refl _) (by simp)
          have zzx10 := Bx4.size
          have zkeyx10 := keyx4.lt
          have Bx11 := Bx4.trans (hx10.mono Bx4.size)
          have keyx11 := keyx4.on hx10
          have ix11 := ix4.on hx10
          have psx11 := hrpx3.on hx10
          have erx10 : (wx1.alloc (.cells #[.slice Ax1 E.length cx1] 34)).heap.size = wx1.heap.size + 1 := by simp
          rw [erx10] at rx10
          rw [erx10] at zzx10
          refine hK _ _ True.intro ?_
          clear hK K
          simp only [Act.put, List.setIfInBounds_toArray, List.set_cons_zero, List.set_cons_succ]
          refine plan_one _ rfl fun K hK => ?_
          go_simp
          refine (refDerive_any _ _ key 16 ⟨#[101, 110, 99, 114, 121, 112, 116]⟩ _ 1 _ 1 _ (keyx11.reads16 HKL.out) (Nat.le_refl _) (by omega) (by decide) psx11 (by omega) (parts_one_le _ 300 (show E.length ≤ 300 by have := HIL.out; omega))).mono ?_
          rintro e wx12 ⟨rfl, hx12⟩
          rw [show drv key (⟨#[101, 110, 99, 114, 121, 112, 116]⟩ : ByteArray).data.toList _ = EK from (HDE Ax1 cx1).out]
          have Bx13 := Bx11.trans (hx12.mono Bx11.size)
          have keyx13 := keyx11.on hx12
          have ix13 := ix11.on hx12
          have psx13 := psx11.on hx12
          have t7x13 := rx10.on hx12
          refine hK _ _ True.intro ?_
          clear hK K
          refine plan_one _ rfl fun K hK => ?_
          refine step_store_all rfl _ _ _ rfl (wx1.heap.size + 1) rfl _ _ t7x13 (bvs EK) rfl (bvs_one _) (b16_zeros _ HEL.out) (b16_size _ HEL.out) ?_
          intro wx14 rx14 kx14
          have Bx14 := below_kept Bx13 kx14 Bx13.size (by rintro k hk; cases hk; exact zzx10)
          have keyx14 := keyx13.kept kx14 (by simp; omega)
          refine hK _ _ True.intro ?_
          clear hK K
          simp only [Act.put]
          refine plan_done ?_
          go_wp2_with fail
          go_meet
          exact ⟨_, rfl, rx14, Bx14⟩
      · refine step_at _ rfl fun K hK => ?_
        refine step_alloc rfl _ rfl zeros16 zero_b16 ?_
        intro wx15 rx15 sx15 kx15
        have hx15 : Below wx1.heap.size wx1 wx15 := grown_below kx15 (Nat.le_refl _) (by simp)
        have zzx15 := Bx2.size
        have zkeyx15 := keyx2.lt
        have Bx16 := Bx2.trans (hx15.mono Bx2.size)
        have keyx16 := keyx2.on hx15
        have ix16 := rix10.on hx15
        refine hK _ _ True.intro ?_
        clear hK K
        simp only [Act.put, List.setIfInBounds_toArray, List.set_cons_zero, List.set_cons_succ]
        refine plan_one _ rfl fun K hK => ?_
        go_simp
        have hrpx17 := readsP_one wx15 34 Ax1 E.length cx1 E ix16 cix1
        have hx17 : Below wx15.heap.size wx15 (wx15.alloc (.cells #[.slice Ax1 E.length cx1] 34)) := (Below.refl _ _).alloc (Nat.le_refl _) _
        have Bx18 := Bx16.trans (hx17.mono Bx16.size)
        have keyx18 := keyx16.on hx17
        have ix18 := ix16.on hx17
        have t7x18 := rx15.on hx17
        refine hK _ _ True.intro ?_
        clear hK K
        refine plan_one _ rfl fun K hK => ?_
        go_simp
        refine (refDerive_any _ _ key 16 ⟨#[101, 110, 99, 114, 121, 112, 116]⟩ _ 1 _ 1 _ (keyx18.reads16 HKL.out) (Nat.le_refl _) (by omega) (by decide) hrpx17 (by omega) (parts_one_le _ 300 (show E.length ≤ 300 by have := HIL.out; omega))).mono ?_
        rintro e wx19 ⟨rfl, hx19⟩
        rw [show drv key (⟨#[101, 110, 99, 114, 121, 112, 116]⟩ : ByteArray).data.toList _ = EK from (HDE Ax1 cx1).out]
        have Bx20 := Bx18.trans (hx19.mono Bx18.size)
        have keyx20 := keyx18.on hx19
        have ix20 := ix18.on hx19
        have t7x20 := t7x18.on hx19
        have psx20 := hrpx17.on hx19
        refine hK _ _ True.intro ?_
        clear hK K
        refine plan_one _ rfl fun K hK => ?_
        refine step_store_all rfl _ _ _ rfl wx1.heap.size rfl _ _ t7x20 (bvs EK) rfl (bvs_one _) (b16_zeros _ HEL.out) (b16_size _ HEL.out) ?_
        intro wx21 rx21 kx21
        have Bx21 := below_kept Bx20 kx21 Bx20.size (by rintro k hk; cases hk; exact zzx15)
        have keyx21 := keyx20.kept kx21 (by simp; omega)
        refine hK _ _ True.intro ?_
        clear hK K
        simp only [Act.put]
        refine plan_done ?_
        go_wp2_with fail
        go_meet
        exact ⟨_, rfl, rx21, Bx21⟩
    · refine step_at _ rfl fun K hK => ?_
      refine step_alloc rfl _ rfl zeros16 zero_b16 ?_
      intro wx22 rx22 sx22 kx22
      have hx22 : Below w1.drew.heap.size w1.drew wx22 := grown_below kx22 (Nat.le_refl _) (by simp)
      have zzx22 := hb1.drew.size
      have zkeyx22 := hrow1.drew.lt
      have Bx23 := hb1.drew.trans (hx22.mono hb1.drew.size)
      have keyx23 := hrow1.drew.on hx22
      refine hK _ _ True.intro ?_
      clear hK K
      simp only [Act.put, List.setIfInBounds_toArray, List.set_cons_zero, List.set_cons_succ]
      refine plan_one _ rfl fun K hK => ?_
      go_simp
      refine ((HI _).out).mono ?_
      rintro e wx24 ⟨vx24, rfl, ox24, hx24⟩
      obtain ⟨Ax24, cx24, rfl, cix24, _, rix240⟩ := own_form ox24
      have Bx25 := Bx23.trans (hx24.mono Bx23.size)
      have keyx25 := keyx23.on hx24
      have t7x25 := rx22.on hx24
      refine hK _ _ True.intro ?_
      clear hK K
      refine plan_one _ rfl fun K hK => ?_
      go_simp
      have hrpx26 := readsP_one wx24 34 Ax24 E.length cx24 E rix240 cix24
      have hx26 : Below wx24.heap.size wx24 (wx24.alloc (.cells #[.slice Ax24 E.length cx24] 34)) := (Below.refl _ _).alloc (Nat.le_refl _) _
      have Bx27 := Bx25.trans (hx26.mono Bx25.size)
      have keyx27 := keyx25.on hx26
      have t7x27 := t7x25.on hx26
      have ix27 := rix240.on hx26
      refine hK _ _ True.intro ?_
      clear hK K
      refine plan_one _ rfl fun K hK => ?_
      go_simp
      refine (refDerive_any _ _ key 16 ⟨#[101, 110, 99, 114, 121, 112, 116]⟩ _ 1 _ 1 _ (keyx27.reads16 HKL.out) (Nat.le_refl _) (by omega) (by decide) hrpx26 (by omega) (parts_one_le _ 300 (show E.length ≤ 300 by have := HIL.out; omega))).mono ?_
      rintro e wx28 ⟨rfl, hx28⟩
      rw [show drv key (⟨#[101, 110, 99, 114, 121, 112, 116]⟩ : ByteArray).data.toList _ = EK from (HDE Ax24 cx24).out]
      have Bx29 := Bx27.trans (hx28.mono Bx27.size)
      have keyx29 := keyx27.on hx28
      have t7x29 := t7x27.on hx28
      have ix29 := ix27.on hx28
      have psx29 := hrpx26.on hx28
      refine hK _ _ True.intro ?_
      clear hK K
      refine plan_one _ rfl fun K hK => ?_
      refine step_store_all rfl _ _ _ rfl w1.drew.heap.size rfl _ _ t7x29 (bvs EK) rfl (bvs_one _) (b16_zeros _ HEL.out) (b16_size _ HEL.out) ?_
      intro wx30 rx30 kx30
      have Bx30 := below_kept Bx29 kx30 Bx29.size (by rintro k hk; cases hk; exact zzx22)
      have keyx30 := keyx29.kept kx30 (by simp; omega)
      refine hK _ _ True.intro ?_
      clear hK K
      simp only [Act.put]
      refine plan_done ?_
      go_wp2_with fail
      go_meet
      exact ⟨_, rfl, rx30, Bx30⟩
  case rest =>
    obtain ⟨g, rfl, hrE, hbc⟩ := hcut
    have hzc := hrE.lt
    go_wp2_with fail
    refine (refStream_any (some ⟨g, 0, none⟩) 16 EK 16 (s.size : Int) s.size wc (by omega) (hrE.reads16 HEL.out) (Nat.le_refl _) (by omega) (by omega) (by omega)).mono ?_
    rintro e w3 ⟨A3, c3, rfl, hc3, hr3, hb3⟩
    have B3 := hbc.trans (hb3.mono hbc.size)
    clear hrE
    generalize stream EK s.size = ST at *
    have HXS := fun k x y hx hy => Lib.hid (xors_snoc s.data.toList ST k x y hx hy)
    have HA : ∀ k, k < s.size → Hid (∃ x y, s.data.toList[k]? = some x ∧ ST[k]? = some y) := fun k hk => ⟨_, _, List.getElem?_eq_getElem (by have := HSL.out; omega), List.getElem?_eq_getElem (by have := HSTL.out; omega)⟩
    have HXL : ∀ k, k ≤ s.size → Hid ((xors (s.data.toList.take k) (ST.take k)).length = k) := fun k hk => by
      have h1 := HSL.out
      have h2 := HSTL.out
      show _ = _
      rw [xors_len _ _ (by rw [List.length_take, List.length_take]; omega), List.length_take]
      omega
    have HAL : Hid (xors (s.data.toList.take s.size) (ST.take s.size) = X) := by
      show _ = _
      rw [HCR.out, List.take_of_length_le (by rw [HSL.out]; exact Nat.le_refl _), List.take_of_length_le (by rw [HSTL.out]; exact Nat.le_refl _)]
    go_wp2_with (with_reducible refine wpList_make_row (o := ⟨some 22, _, _, _, _, _⟩) rfl _ _ _ rfl 5 Tryd.underlying34 (.int .u8 0) rfl 1 info_u8b .i64 .i64 s.size s.size rfl rfl (Nat.le_refl _) (by omega) (by omega) ?_; intro w4 hrow4 hs4 hg4)
    have hb4 : Below w3.heap.size w3 w4 := grown_below hg4 (Nat.le_refl _) (by simp)
    have hr4 := hr3.below hb4
    have B4 := B3.trans (hb4.mono B3.size)
    have hz3 := B3.size
    clear hg4
    go_loopg [10] s.size (fun gg s10 wr => ∃ k : Nat, Hid (k + gg = s.size) ∧ k ≤ s.size ∧ s10 = .int .i64 (k : Int) ∧ Row wr w3.heap.size 5 (bvs (xors (s.data.toList.take k) (ST.take k)) ++ List.replicate (s.size - k) (.int .u8 0)) ∧ Below w3.heap.size w4 wr)
    case atStart => exact ⟨0, by show _ = _; omega, by omega, rfl, hrow4, Below.refl _ _⟩
    case round =>
      obtain ⟨k, HK, hk, rfl, hrow, hbr⟩ := hrel
      by_cases hlt : k < s.size
      · obtain ⟨x, y, hx, hy⟩ := (HA k hlt).out
        have HS := HXS k x y hx hy
        have HL := HXL k hk
        obtain ⟨ad, v, rfl, hbl, hv, hcv⟩ := (hr4.below hbr).at_ hlt
        have hv' : v = .int .u8 (y.toNat : Int) := by
          unfold bvs at hv
          rw [List.getElem?_map, hy] at hv
          exact (Option.some.inj hv).symm
        rw [hv'] at hcv
        have HX := Lib.hid hx
        have HCV := Lib.hid hcv
        have hxor := u8_mask x y
        have e := set_fill (bvs (xors (s.data.toList.take k) (ST.take k))) (.int .u8 0) (.int .u8 ((x ^^^ y).toNat : Int)) (s.size - k) (by omega)
        rw [bvs_length, HL.out] at e
        have HST := Lib.hid e
        have HLT : Hid (k < (bvs (xors (s.data.toList.take k) (ST.take k)) ++ List.replicate (s.size - k) (Value.int .u8 0)).length) := by show _ < _; rw [List.length_append, bvs_length, HL.out, List.length_replicate]; omega
        clear hx hy hv hv' hcv e HXS HA HXL
        generalize xors (s.data.toList.take k) (ST.take k) = XK at *
        generalize x ^^^ y = z at *
        go_wp2_with fail
        refine wp_region_plan (fun w' => w'.cell? (ad.add k) = some (.int .u8 (y.toNat : Int))) (.take 0 <| .take 1 <| .take 2 <| .take 3 <| .take 4 <| .take 5 <| .take 6 <| .take 7 <| .take 8 <| .take 9 <| .take 10 <| .one 11 <| .done) (by kernel_rfl) (by kernel_rfl) (by kernel_rfl) (fun _ _ _ _ _ h => h) HCV.out ?_
        repeat (refine plan_take _ rfl ?_; (first | (refine wpQuiet_valueG (o := ⟨some 33, _, _, _, _, _⟩) rfl _ (by intro _ h; exact exec_index_str _ _ _ _ rfl Tryd.underlying9 s rfl k rfl x HX.out) (wpQuiet_nil ?_); simp only [Act.put, List.setIfInBounds_toArray, List.set_cons_zero, List.set_cons_succ]) | (refine wpQuiet_valueG (o := ⟨some 37, _, _, _, _, _⟩) rfl _ (by intro _ h; exact exec_load1 _ 5 _ rfl (ad.add k) rfl _ h _ Tryd.underlying5 rfl) (wpQuiet_nil ?_); simp only [Act.put, List.setIfInBounds_toArray, List.set_cons_zero, List.set_cons_succ]) | (go_big_quiet_step ((intros; rfl)); refine wpQuiet_nil ?_)))
        refine plan_one _ rfl fun K hK => ?_
        refine step_put_elem rfl _ _ _ rfl w3.heap.size k rfl _ _ hrow.drew (.int .u8 (z.toNat : Int)) rfl rfl HLT.out (by kernel_rfl) ?_
        intro w5 hrow5 hg5
        have hb5 : Below w3.heap.size wr w5 := below_kept ((Below.refl _ _).drew) hg5 (by have := hbr.size; simp; omega) (by rintro q hq; cases hq; exact Nat.le_refl _)
        refine hK _ _ ((hb5.cell (by rw [block_of_add]; exact hbl)).trans HCV.out) ?_
        clear hK K
        simp only [Act.put]
        refine plan_done ?_
        rw [HST.out] at hrow5
        have HR5 : Hid (Row w5 w3.heap.size 5 (bvs (XK ++ [z]) ++ List.replicate (s.size - (k + 1)) (.int .u8 0))) := by
          show Row _ _ _ _
          rw [bvs_append, show s.size - (k + 1) = s.size - k - 1 by omega]
          exact hrow5
        clear hrow5 hrow HST HLT
        go_wp2_with fail
        go_roundg (gk - 1)
        case measure => have := HK.out; omega
        case rel => exact ⟨k + 1, by have := HK.out; show _ = _; omega, by omega, by go_num, by rw [HS.out]; exact HR5.out, hbr.trans hb5⟩
      · have hkn : k = s.size := by omega
        subst hkn
        rw [HAL.out, Nat.sub_self, List.replicate_zero, List.append_nil] at hrow
        have hrd := hrow.reads (size := 1) (n := s.size) (by rw [bvs_length, ← HAL.out, (HXL _ (Nat.le_refl _)).out, Nat.mul_one])
        go_wp2_with (refine wpList_valueW (o := ⟨some 41, _, _, _, _, _⟩) rfl _ (by exact exec_string_of _ _ _ _ _ rfl Tryd.underlying34 Tryd.underlying5 Tryd.underlying9 rfl hrd) ?_)
        go_ret
        exact ⟨rfl, B4.trans (hbr.mono B3.size)⟩

set_option maxRecDepth 100000 in
set_option maxHeartbeats 2000000 in
theorem refTag_any (key : List UInt8) (hkey : key.length = 16) (n : Int) (hn1 : -9223372036854775808 ≤ n) (hn2 : n ≤ 9223372036854775807) (s : ByteArray) (hs : s.size ≤ 30000) (w : World) :
    Calls Tryd.prog 19 #[.agg (bvs key).toArray, .int .i64 n, .string s] w (GivesV (.agg (bvs (btag key n s.data.toList)).toArray) w) := by
  obtain ⟨i0, hi0, hz0, hz1, hz2⟩ := info_parts info_u8
  have HKL := Lib.hid hkey
  have HI := fun W => Lib.hid (refInt_any n W hn1 hn2)
  have hil := encInt_le n hn1 hn2
  have HB := fun W => Lib.hid (refBytes_any s W (by omega))
  have hbl := encBytes_lt s hs
  have HDE := Lib.hid (drv_auth key)
  have HAL := Lib.hid (authK_len key)
  have HTE := Lib.hid (btag_eq key n s.data.toList)
  have HTL := Lib.hid (btag_len key n s.data.toList)
  generalize btag key n s.data.toList = T at *
  generalize authK key = AK at *
  generalize encBytes s.data.toList = EB at *
  generalize encInt n = E at *
  clear hkey
  go_enter Tryd.func19, Tryd.ntmps19
  go_wp2_with (first
    | (with_reducible refine wpList_box_row (o := ⟨some 3, _, _, _, _, _⟩) rfl _ _ rfl (bvs key) rfl ?_; intro w1 hrow1 hs1 hg1)
    | (with_reducible refine wpList_alloc_row (o := ⟨some 6, _, _, _, _, _⟩) rfl _ rfl zeros16 zero_b16 ?_; intro w2 hrow2 hs2 hg2; have hrow1' := hrow1.kept hg2 (by simp)))
  have hb2 : Below w.heap.size w w2 := below_kept (grown_below hg1 (Nat.le_refl _) (by simp)) hg2 (by omega) (by simp)
  clear hrow1 hg1 hg2
  refine (refDerive_any (some ⟨w.heap.size, 0, none⟩) 16 key 16 ⟨#[97, 117, 116, 104, 101, 110, 116, 105, 99, 97, 116, 101]⟩ none 0 [] 0 w2 (hrow1'.reads16 HKL.out) (Nat.le_refl _) (by omega) (by decide) (readsP_none _ _) (by omega) (by simp)).mono ?_
  rintro e w3 ⟨rfl, hb3⟩
  rw [show drv key (⟨#[97, 117, 116, 104, 101, 110, 116, 105, 99, 97, 116, 101]⟩ : ByteArray).data.toList [] = AK from HDE.out]
  have hrO3 := hrow2.on hb3
  have B3 := hb2.trans (hb3.mono hb2.size)
  clear hrow1' hrow2
  go_wp2_with (first
    | (with_reducible refine wpList_alloc_row (o := ⟨some 7, _, _, _, _, _⟩) rfl _ rfl zeros16 zero_b16 ?_; intro w4 hrow4 hs4 hg4)
    | (with_reducible refine wpList_at ⟨none, .store _ (.tmp 7) _, _, _, _, _⟩ ?_; refine wpList_store_all rfl _ _ _ rfl w3.heap.size rfl _ _ hrow4 (bvs AK) rfl (bvs_one _) (b16_zeros _ HAL.out) (b16_size _ HAL.out) ?_; intro w5 hrow5 hg5
       have hb35 : Below w3.heap.size w3 w5 := below_kept (grown_below hg4 (Nat.le_refl _) (by simp)) hg5 (by omega) (by rintro q hq; cases hq; exact Nat.le_refl _)
       have hrO5 := hrO3.on hb35
       have B5 := B3.trans (hb35.mono B3.size)))
  have hown := (row_alloc w5 5 []).owns_all (base := w5.heap.size) (Nat.le_refl _) 0 rfl (by unfold maxLen; omega)
  refine (HI _).out.mono ?_
  rintro e w6 ⟨v6, rfl, o6, hb6⟩
  obtain ⟨A6, c6, rfl, hc6, _, r6⟩ := own_form o6
  have hown6 := own_below hown hb6
  have hb56 : Below w5.heap.size w5 w6 := ((Below.refl _ _).alloc (Nat.le_refl _) _).trans (hb6.mono (by simp))
  clear hown o6 hb6
  go_wp2_with (at_builtin; refine wpList_append_src _ rfl (.tmp 11) (.tmp 13) _ _ rfl w5.heap.size 5 i0 _ 1 1 Tryd.underlying34 hi0 hz0 hz1 hz2 rfl _ _ _ rfl hown6 E.length _ (Src.ofReads _ Tryd.underlying34 r6 (bvs_one _)) (by unfold maxLen; omega) (by omega) hb56.size ?_; intro v7 w7 hown7 hb7; rw [Nat.zero_add, List.nil_append] at hown7)
  have hb57 := hb56.trans hb7
  refine (HB _).out.mono ?_
  rintro e w8 ⟨v8, rfl, o8, hb8⟩
  obtain ⟨A8, c8, rfl, hc8, _, r8⟩ := own_form o8
  have hown8 := own_below hown7 hb8
  have hb58 := hb57.trans (hb8.mono hb57.size)
  clear hown7 o8
  go_wp2_with (at_builtin; refine wpList_append_src _ rfl (.tmp 14) (.tmp 16) _ _ rfl w5.heap.size 5 i0 _ 1 1 Tryd.underlying34 hi0 hz0 hz1 hz2 rfl _ _ _ rfl hown8 EB.length _ (Src.ofReads _ Tryd.underlying34 r8 (bvs_one _)) (by unfold maxLen; omega) (by omega) hb58.size ?_; intro v9 w9 hown9 hb9; rw [← bvs_append] at hown9; obtain ⟨A9, c9, rfl, hc9, _, r9⟩ := own_form hown9)
  have hb59 := hb58.trans hb9
  have hrA9 := hrow5.on hb59
  have hrO9 := hrO5.on hb59
  have B9 := B5.trans (hb59.mono B5.size)
  refine (refMac_any (some ⟨w3.heap.size, 0, none⟩) A9 16 c9 AK (E ++ EB) 16 (E.length + EB.length) _ (hrA9.reads16 HAL.out) (Nat.le_refl _) (by omega) r9 hc9 (by omega)).mono ?_
  rintro e w10 ⟨rfl, hb10⟩
  rw [← HTE.out]
  have hrO10 := hrO9.on hb10
  have B10 := B9.trans (hb10.mono B9.size)
  go_wp2_with (with_reducible refine wpList_store_all (o := ⟨none, _, _, _, _, _⟩) rfl _ _ _ rfl w1.heap.size rfl _ _ hrO10 (bvs T) rfl (bvs_one _) (b16_zeros _ HTL.out) (b16_size _ HTL.out) ?_; intro w11 r11 g11)
  have hload := run_loadVar_at (P := Tryd.prog) w11 23 ⟨w1.heap.size, 0, none⟩ (bvs T) r11.cells _ Tryd.underlying23 rfl (b16_size _ HTL.out)
  exact bodyPost_ret (results_cell1 Tryd.results19 _ _ _ _ rfl hload) rfl ⟨rfl, below_kept B10 g11 B10.size (by rintro q hq; cases hq; omega)⟩

set_option maxRecDepth 100000 in
set_option maxHeartbeats 1000000 in
theorem refSeal_any (key : List UInt8) (hkey : key.length = 16) (n : Int) (hn1 : -9223372036854775808 ≤ n) (hn2 : n ≤ 9223372036854775807) (s : ByteArray) (hs : s.size ≤ 30000) (w : World) :
    Calls Tryd.prog 12 #[.agg (bvs key).toArray, .int .i64 n, .string s] w (GivesV (.agg (boxCs n ⟨(cryp key n s.data.toList).toArray⟩ (btag key n (cryp key n s.data.toList))).toArray) w) := by
  have HKL := Lib.hid hkey
  have HX := fun W => Lib.hid (apply_any key hkey n hn1 hn2 s hs W)
  have hxl : (cryp key n s.data.toList).length = s.size := by rw [cryp_len]; simp
  have HT := fun W => Lib.hid (refTag_any key hkey n hn1 hn2 ⟨(cryp key n s.data.toList).toArray⟩ (by show (cryp key n s.data.toList).toArray.size ≤ _; rw [List.size_toArray, hxl]; exact hs) W)
  have HTL := Lib.hid (btag_len key n (cryp key n s.data.toList))
  generalize cryp key n s.data.toList = X at *
  simp only at HT
  generalize btag key n X = T at *
  have HZ := Lib.hid (zbox_len n ⟨X.toArray⟩ T HTL.out)
  have HBS := Lib.hid (box_size n ⟨X.toArray⟩ T HTL.out)
  clear hkey hxl
  go_enter Tryd.func12, Tryd.ntmps12
  go_wp2_with (first
    | (with_reducible refine wpList_box_row (o := ⟨some 3, _, _, _, _, _⟩) rfl _ _ rfl (bvs key) rfl ?_; intro w1 hrow1 hs1 hg1)
    | (with_reducible refine wpList_alloc_row (o := ⟨some 6, _, _, _, _, _⟩) rfl _ rfl zbox zero_box ?_; intro w2 hrow2 hs2 hg2; have hrow1' := hrow1.kept hg2 (by simp))
    | (refine wpList_valueG (o := ⟨some 8, _, _, _, _, _⟩) rfl _ (by exact exec_load16 _ _ rfl _ rfl key HKL.out hrow1'.cells) ?_))
  have hb2 : Below w.heap.size w w2 := below_kept (grown_below hg1 (Nat.le_refl _) (by simp)) hg2 (by omega) (by simp)
  clear hrow1 hg1 hg2
  refine (HX _).out.mono ?_
  rintro e w3 ⟨rfl, hb3⟩
  have hrow3 := hrow1'.on hb3
  have hrO3 := hrow2.on hb3
  have B3 := hb2.trans (hb3.mono hb2.size)
  go_wp2_with (refine wpList_valueG (o := ⟨some 14, _, _, _, _, _⟩) rfl _ (by exact exec_load16 _ _ rfl _ rfl key HKL.out hrow3.cells) ?_)
  refine (HT _).out.mono ?_
  rintro e w4 ⟨rfl, hb4⟩
  have hrO4 := hrO3.on hb4
  have B4 := B3.trans (hb4.mono B3.size)
  go_wp2_with (first
    | (refine wpList_valueG (o := ⟨some 18, _, _, _, _, _⟩) rfl _ (by exact exec_build_box _ _ _ _ rfl n ⟨X.toArray⟩ T HTL.out rfl rfl rfl) ?_)
    | (with_reducible refine wpList_at ⟨none, .store _ (.tmp 6) _, _, _, _, _⟩ ?_; refine wpList_store_all rfl _ _ _ rfl w1.heap.size rfl _ _ hrO4 (boxCs n ⟨X.toArray⟩ T) rfl (box_one _ _ _) HZ.out HBS.out ?_; intro w5 hrO5 hg5))
  have hload := run_loadVar_at (P := Tryd.prog) w5 25 ⟨w1.heap.size, 0, none⟩ (boxCs n ⟨X.toArray⟩ T) hrO5.cells _ Tryd.underlying25 rfl HBS.out
  exact bodyPost_ret (results_cell1 Tryd.results12 _ _ _ _ rfl hload) rfl ⟨rfl, below_kept B4 hg5 B4.size (by rintro q hq; cases hq; omega)⟩

set_option maxRecDepth 100000 in
set_option maxHeartbeats 2000000 in
theorem refOpen_any (key : List UInt8) (hkey : key.length = 16) (n : Int) (hn1 : -9223372036854775808 ≤ n) (hn2 : n ≤ 9223372036854775807) (s : ByteArray) (hs : s.size ≤ 30000) (t : List UInt8) (ht : t.length = 16) (w : World) :
    Calls Tryd.prog 10 #[.agg (bvs key).toArray, .agg (boxCs n s t).toArray] w (GivesO (openS key n s.data.toList t) (openE key n s.data.toList t) w) := by
  have HKL := Lib.hid hkey
  have HTL := Lib.hid ht
  have HX := fun W => Lib.hid (apply_any key hkey n hn1 hn2 s hs W)
  have HT := fun W => Lib.hid (refTag_any key hkey n hn1 hn2 s hs W)
  have HTG := Lib.hid (btag_len key n s.data.toList)
  have HO : Hid ((btag key n s.data.toList == t) = opens key n s.data.toList t) := by
    show _ = _
    unfold opens
    rw [Bool.eq_iff_iff, beq_iff_eq, beq_iff_eq, eq_comm]
  have HS : Hid (openS key n s.data.toList t = if opens key n s.data.toList t then cryp key n s.data.toList else []) := rfl
  have HE : Hid (openE key n s.data.toList t = if opens key n s.data.toList t then 0 else 8) := rfl
  generalize openS key n s.data.toList t = os at *
  generalize openE key n s.data.toList t = oe at *
  generalize opens key n s.data.toList t = ob at *
  generalize cryp key n s.data.toList = X at *
  generalize btag key n s.data.toList = T at *
  clear hkey ht
  go_enter Tryd.func10, Tryd.ntmps10
  go_wp2_with (first
    | (with_reducible refine wpList_box_row (o := ⟨some 2, _, _, _, _, _⟩) rfl _ _ rfl (bvs key) rfl ?_; intro w1 hrow1 hs1 hg1)
    | (with_reducible refine wpList_box_row (o := ⟨some 3, _, _, _, _, _⟩) rfl _ _ rfl (boxCs n s t) rfl ?_; intro w2 hrow2 hs2 hg2; have hrow1' := hrow1.kept hg2 (by simp))
    | (refine wpList_valueG (o := ⟨some 7, _, _, _, _, _⟩) rfl _ (by exact exec_load16 _ _ rfl _ rfl key HKL.out hrow1'.cells) ?_)
    | (refine wpList_valueG (o := ⟨some 9, _, _, _, _, _⟩) rfl _ (by exact exec_load1 _ 3 _ rfl ⟨w1.heap.size, 0, none⟩ rfl _ (hrow2.cell (j := 0) rfl) _ Tryd.underlying3 rfl) ?_)
    | (refine wpList_valueG (o := ⟨some 11, _, _, _, _, _⟩) rfl _ (by exact exec_load1 _ 9 _ rfl ⟨w1.heap.size, 1, none⟩ rfl _ (hrow2.cell (j := 1) rfl) _ Tryd.underlying9 rfl) ?_))
  have hb2 : Below w.heap.size w w2 := below_kept (grown_below hg1 (Nat.le_refl _) (by simp)) hg2 (by omega) (by simp)
  clear hrow1 hg1 hg2
  refine (HT _).out.mono ?_
  rintro e w3 ⟨rfl, hb3⟩
  have hrow3 := hrow1'.on hb3
  have hbox3 := hrow2.on hb3
  have B3 := hb2.trans (hb3.mono hb2.size)
  cases ob
  · have HS0 : Hid (os = []) := HS.out
    have HE0 : Hid (oe = 8) := HE.out
    go_wp2_with (first
      | (with_reducible refine wpList_alloc_row (o := ⟨some 6, _, _, _, _, _⟩) rfl _ rfl zeros16 zero_b16 ?_; intro w4 hrow4 hs4 hg4)
      | (with_reducible refine wpList_at ⟨none, .store _ (.tmp 6) _, _, _, _, _⟩ ?_; refine wpList_store_all rfl _ _ _ rfl w3.heap.size rfl _ _ hrow4 (bvs T) rfl (bvs_one _) (b16_zeros _ HTG.out) (b16_size _ HTG.out) ?_; intro w5 hrow5 hg5
         have hb35 : Below w3.heap.size w3 w5 := below_kept (grown_below hg4 (Nat.le_refl _) (by simp)) hg5 (by omega) (by rintro q hq; cases hq; exact Nat.le_refl _)
         have hbox5 := hbox3.on hb35
         have B5 := B3.trans (hb35.mono B3.size))
      | (refine wpList_valueG (o := ⟨some 13, _, _, _, _, _⟩) rfl _ (by exact exec_load16 _ _ rfl _ rfl T HTG.out hrow5.cells) ?_)
      | (refine wpList_valueG (o := ⟨some 15, _, _, _, _, _⟩) rfl _ (by exact exec_load16 _ _ rfl _ rfl t HTL.out hbox5.tag) ?_)
      | (refine wpList_valueG (o := ⟨some 16, _, _, _, _, _⟩) rfl (.bool true) (by rw [show (true : Bool) = !(T == t) by rw [HO.out]; rfl]; exact exec_neq16 _ _ _ rfl T t HTG.out HTL.out rfl rfl) ?_))
    go_ret2
    exact ⟨by rw [HS0.out, HE0.out]; rfl, B5⟩
  · have HS1 : Hid (os = X) := HS.out
    have HE1 : Hid (oe = 0) := HE.out
    go_wp2_with (first
      | (with_reducible refine wpList_alloc_row (o := ⟨some 6, _, _, _, _, _⟩) rfl _ rfl zeros16 zero_b16 ?_; intro w4 hrow4 hs4 hg4)
      | (with_reducible refine wpList_at ⟨none, .store _ (.tmp 6) _, _, _, _, _⟩ ?_; refine wpList_store_all rfl _ _ _ rfl w3.heap.size rfl _ _ hrow4 (bvs T) rfl (bvs_one _) (b16_zeros _ HTG.out) (b16_size _ HTG.out) ?_; intro w5 hrow5 hg5
         have hb35 : Below w3.heap.size w3 w5 := below_kept (grown_below hg4 (Nat.le_refl _) (by simp)) hg5 (by omega) (by rintro q hq; cases hq; exact Nat.le_refl _)
         have hbox5 := hbox3.on hb35
         have hkey5 := hrow3.on hb35
         have B5 := B3.trans (hb35.mono B3.size))
      | (refine wpList_valueG (o := ⟨some 13, _, _, _, _, _⟩) rfl _ (by exact exec_load16 _ _ rfl _ rfl T HTG.out hrow5.cells) ?_)
      | (refine wpList_valueG (o := ⟨some 15, _, _, _, _, _⟩) rfl _ (by exact exec_load16 _ _ rfl _ rfl t HTL.out hbox5.tag) ?_)
      | (refine wpList_valueG (o := ⟨some 16, _, _, _, _, _⟩) rfl (.bool false) (by rw [show (false : Bool) = !(T == t) by rw [HO.out]; rfl]; exact exec_neq16 _ _ _ rfl T t HTG.out HTL.out rfl rfl) ?_)
      | (refine wpList_valueG (o := ⟨some 17, _, _, _, _, _⟩) rfl _ (by exact exec_load16 _ _ rfl _ rfl key HKL.out hkey5.cells) ?_)
      | (refine wpList_valueG (o := ⟨some 19, _, _, _, _, _⟩) rfl _ (by exact exec_load1 _ 3 _ rfl ⟨w1.heap.size, 0, none⟩ rfl _ (hbox5.cell (j := 0) rfl) _ Tryd.underlying3 rfl) ?_)
      | (refine wpList_valueG (o := ⟨some 21, _, _, _, _, _⟩) rfl _ (by exact exec_load1 _ 9 _ rfl ⟨w1.heap.size, 1, none⟩ rfl _ (hbox5.cell (j := 1) rfl) _ Tryd.underlying9 rfl) ?_))
    refine (HX _).out.mono ?_
    rintro e w6 ⟨rfl, hb6⟩
    go_wp2_with fail
    go_ret2
    exact ⟨by rw [HS1.out, HE1.out]; rfl, B5.trans (hb6.mono B5.size)⟩
end Go.Proofs.YtdgflobdnkopbaaDoor
