/-
  What box.crypt returns: a contract by a walk, its deferred closure by one of its own. Condition: the table of constants as laid; bounded lengths.
-/
import Derived.Test.YtdgflobdnkopbaaDoorBxM
import Derived.Test.YtdgflobdnkopbaaDoorBxO
import Derived.Test.YtdgflobdnkopbaaDoorStrM
import Derived.Test.YtdgflobdnkopbaaDoorOne
import Derived.Test.YtdgflobdnkopbaaDoorGuard
namespace Go.Proofs.YtdgflobdnkopbaaDoor
open Go.RowKit

/-! ## A drawn region that comes to its end, in a function that defers -/
def OnlyNormal (Q : Exit → Act → World → Prop) : Exit → Act → World → Prop
  | .normal, a, w => Q .normal a w
  | _, _, _ => False
section
variable {P : Program} {Q : Exit → Act → World → Prop}
theorem wp_region_planN {id : Nat} {a : Act} {w : World} {l : List Oper} (S : World → Prop) (p : Plan) (hm : P.follows .mixedOrders = true) (hsel : Region.noSelect l.toArray = true)
    (hB : planB .any l.toArray l.length p (Array.replicate l.length false) = true) (hS : S w.drew)
    (h : wpPlan P l S (OnlyNormal Q) p a w.drew) : (Code.region id l.toArray true).wp P Q a w :=
  wp_mono (wp_region_plan S p hm hsel hB (fun _ _ _ _ _ h => h.elim) hS h) fun e a w h => by
    cases e <;> first | exact h | exact h.elim
theorem plan_doneN {l : List Oper} {S : World → Prop} {a : Act} {w : World} (h : Q .normal a w) : wpPlan P l S (OnlyNormal Q) .done a w := h
end

/-- The first k bytes are under the stream. -/
def xk (l ks : List UInt8) (k : Nat) : List UInt8 := xors (l.take k) (ks.take k) ++ l.drop k
theorem xk_zero (l ks : List UInt8) : xk l ks 0 = l := rfl
theorem xk_len (l ks : List UInt8) (h : ks.length = l.length) (k : Nat) (hk : k ≤ l.length) : (xk l ks k).length = l.length := by
  unfold xk
  rw [List.length_append, xors_len _ _ (by rw [List.length_take, List.length_take, h]), List.length_take, List.length_drop]
  omega
theorem xk_step (l ks : List UInt8) (h : ks.length = l.length) (k : Nat) (x y : UInt8) (hx : l[k]? = some x) (hy : ks[k]? = some y) :
    (xk l ks k)[k]? = some x ∧ (xk l ks k).set k (x ^^^ y) = xk l ks (k + 1) := by
  have hk : k < l.length := (List.getElem?_eq_some_iff.1 hx).1
  have hl : (xors (l.take k) (ks.take k)).length = k := by
    rw [xors_len _ _ (by rw [List.length_take, List.length_take, h]), List.length_take]; omega
  have hd : l.drop k = x :: l.drop (k + 1) := by rw [List.drop_eq_getElem_cons hk, (List.getElem?_eq_some_iff.1 hx).2]
  constructor
  · unfold xk
    rw [List.getElem?_append_right (by omega), hl, Nat.sub_self, hd]
    rfl
  · unfold xk
    rw [List.set_append_right _ _ (by omega), hl, Nat.sub_self, hd, List.set_cons_zero, List.take_add_one, List.take_add_one, hx, hy]
    unfold xors
    rw [List.zipWith_append (by rw [List.length_take, List.length_take, h])]
    simp
theorem xk_all (l ks : List UInt8) (h : ks.length = l.length) : xk l ks l.length = xors l ks := by
  unfold xk
  rw [List.take_of_length_le (Nat.le_refl _), List.take_of_length_le (by omega), List.drop_of_length_le (Nat.le_refl _), List.append_nil]

set_option maxRecDepth 100000 in
set_option maxHeartbeats 1000000 in
theorem crypt1_any (g8 g6 g n c c8 : Nat) (A8 : Option Addr) (l ks : List UInt8) (hl : l.length = n) (hks : ks.length = n) (u : FrameMode) (w : World) (hn : n ≤ 1000000) (h6 : g6 < g)
    (c8s : w.cell? ⟨g8, 0, none⟩ = some (.slice A8 n c8)) (c6s : w.cell? ⟨g6, 0, none⟩ = some (.slice (some ⟨g, 0, none⟩) n c)) (hr : Reads w g 1 A8 n (bvs ks)) (hh : Holds8 w g g l) :
    CallsD Tryd.prog 27 #[.pointer (some ⟨g8, 0, none⟩), .pointer (some ⟨g6, 0, none⟩)] u w fun e u' w' => u' = u ∧ (e = .returned (.tuple #[]) ∧ Holds8 w' g g (xors l ks) ∧ Below g w w') := by
  have HL := Lib.hid hl
  have HXL := fun k hk => Lib.hid (xk_len l ks (hks.trans hl.symm) k hk)
  have HXS := fun k x y hx hy => Lib.hid (xk_step l ks (hks.trans hl.symm) k x y hx hy)
  have HXA := Lib.hid (xk_all l ks (hks.trans hl.symm))
  have HA : ∀ k, k < n → Hid (∃ x y, l[k]? = some x ∧ ks[k]? = some y) := fun k hk => ⟨_, _, List.getElem?_eq_getElem (by omega), List.getElem?_eq_getElem (by omega)⟩
  have hh0 : Holds8 w g g (xk l ks 0) := hh
  generalize xors l ks = X at *
  clear hl hks hh
  go_enter_d Tryd.func27, Tryd.ntmps27
  go_wp2_with fail
  go_loopg [2, 3, 6] n (fun gg s2 s3 s6 wr => ∃ k : Nat, Hid (k + gg = n) ∧ k ≤ n ∧ s6 = .int .i64 (k : Int) ∧ Holds8 wr g g (xk l ks k) ∧ Below g w wr)
  case atStart => exact ⟨0, by show _ = _; omega, by omega, rfl, hh0, Below.refl _ _⟩
  case round =>
    obtain ⟨k, HK, hk, rfl, hhk, hb⟩ := hrel
    by_cases hlt : k < n
    · obtain ⟨x, y, hx, hy⟩ := (HA k hlt).out
      have HS := HXS k x y hx hy
      obtain ⟨ad, v, rfl, hbl, hv, hcv⟩ := (hr.below hb).at_ hlt
      have hv' : v = .int .u8 (y.toNat : Int) := by
        unfold bvs at hv
        rw [List.getElem?_map, hy] at hv
        exact (Option.some.inj hv).symm
      rw [hv'] at hcv
      have hlx : k < (xk l ks k).length := by rw [(HXL k (by rw [HL.out]; omega)).out, HL.out]; exact hlt
      obtain ⟨hcx, hfx⟩ := hhk.at_ HS.out.1
      have hnew := hhk.set hlx (x ^^^ y)
      rw [HS.out.2] at hnew
      have c6k := (hb.cell (p := ⟨g6, 0, none⟩) h6).trans c6s
      have hxor := u8_mask x y
      have HXB : Hid (Below g w (wr.setCell ⟨g, k, none⟩ (.int .u8 ((x ^^^ y).toNat : Int)))) := hb.setCell (Nat.le_refl _) _
      clear hx hy hv hv' HS HXL HXS HA
      generalize x ^^^ y = z at *
      go_wp2_with fail
      go_roundg (gk - 1)
      case measure => have := HK.out; omega
      case rel => exact ⟨k + 1, by have := HK.out; show _ = _; omega, by omega, by go_num, hnew, HXB.out⟩
    · have hkn : k = n := by omega
      have HKN : Hid (k = l.length) := by show _ = _; rw [HL.out]; exact hkn
      go_wp2_with fail
      go_end0
      rw [HKN.out, HXA.out] at hhk
      exact ⟨rfl, hhk, hb⟩

theorem zero_sl : (Tryd.prog.info? 34).map (fun i => i.zero.map (·.cells)) = some (some [Value.slice none 0 0].toArray) := by kernel_rfl
theorem run_loadVar_one {P : Program} (w : World) (ty : TypeId) (ad : Addr) (v : Value) (hc : w.cell? ad = some v) (d : TypeDesc) (hu : P.underlying ty = some d) (hd : (match d with | .struct _ | .array _ _ => true | _ => false) = false) :
    (loadVar ty ad).run P w = .ok v w := by
  have hagg : (isAgg ty).run P w = .ok false w := by
    unfold isAgg
    rw [Sem.run_bind, run_underlying hu w]
    cases d <;> simp_all
  simp [loadVar, Sem.run_bind, hagg, hc]
theorem Reads.bound {w w' : World} {B B' size n : Nat} {A : Option Addr} {xs : List Value} (h : Reads w B size A n xs) (h' : Reads w' B' size A n xs) : Reads w' B size A n xs :=
  ⟨h'.1, fun hn => by
    obtain ⟨ad, e, hb, _⟩ := h.2 hn
    obtain ⟨ad', e', _, hc⟩ := h'.2 hn
    rw [e] at e'
    cases e'
    exact ⟨ad, e, hb, hc⟩⟩
theorem drv_enc (key : List UInt8) (n : Int) (A : Option Addr) (c : Nat) : drv key encL [⟨A, (encInt n).length, c, encInt n⟩] = encK key n := rfl
theorem drv_auth (key : List UInt8) : drv key authL [] = authK key := rfl

set_option maxRecDepth 100000 in
set_option maxHeartbeats 2000000 in
theorem crypt_any (key : List UInt8) (hkey : key.length = 16) (n : Int) (hn1 : -9223372036854775808 ≤ n) (hn2 : n ≤ 9223372036854775807) (s : ByteArray) (hs : s.size ≤ 30000) (w : World) (hK : Consts w) :
    Calls Tryd.prog 18 #[.agg (bvs key).toArray, .int .i64 n, .string s] w (GivesR (cryp key n s.data.toList) s.size w) := by
  have HKL := Lib.hid hkey
  have HI := fun W => Lib.hid (int_any n W hn1 hn2)
  have HIL := Lib.hid (encInt_le n hn1 hn2)
  have HDE := fun A c => Lib.hid (drv_enc key n A c)
  have HEL := Lib.hid (encK_len key n)
  have HSL : Hid (s.data.toList.length = s.size) := by show _ = _; simp
  have HCR : Hid (cryp key n s.data.toList = xors s.data.toList (stream (encK key n) s.size)) := by show _ = _; unfold cryp; rw [HSL.out]
  have HSTL : Hid ((stream (encK key n) s.size).length = s.size) := stream_len _ _
  have HCL : Hid ((cryp key n s.data.toList).length = s.size) := (cryp_len _ _ _).trans HSL.out
  have hmf : ∀ (fn : Fn) (first cap : Array Value) (w : World), (Instr.makeFunc fn first cap).run Tryd.prog w = .ok (.func fn first cap) w := fun _ _ _ _ => rfl
  have hCo := hK
  generalize cryp key n s.data.toList = X at *
  generalize encK key n = EK at *
  generalize encInt n = E at *
  clear hkey
  go_enter_defers Tryd.func18, Tryd.ntmps18
  go_wp2_with (first
    | (with_reducible refine wpList_box_row (o := ⟨some 3, _, _, _, _, _⟩) rfl _ _ rfl (bvs key) rfl ?_; intro w1 hrow1 hs1 hg1)
    | (with_reducible refine wpList_alloc_row (o := ⟨some 6, _, _, _, _, _⟩) rfl _ rfl [Value.slice none 0 0] zero_sl ?_; intro w2 hrow2 hs2 hg2; have hrow1' := hrow1.kept hg2 (by simp)))
  have hb2 : Below w.heap.size w w2 := below_kept (grown_below hg1 (Nat.le_refl _) (by simp)) hg2 (by omega) (by simp)
  have hlt2 := hrow2.lt
  clear hrow1 hg1 hg2
  simp only [Act.put, List.setIfInBounds_toArray, List.set_cons_zero, List.set_cons_succ]
  go_cut [7] from 7 to 13 (fun s7 wc => ∃ g, s7 = .pointer (some ⟨g, 0, none⟩) ∧ Row wc g 23 (bvs EK) ∧ Row wc w1.heap.size 34 [Value.slice none 0 0] ∧ w1.heap.size < g ∧ Below w.heap.size w wc)
  case first =>
    refine wp_region_planN (fun _ => True) (.take 0 <| .take 1 <| .two 2 (.two 3 (.two 4 (.one 5 <| .one 6 <| .done) 5 (.one 4 <| .one 6 <| .done)) 5 (.one 3 <| .one 4 <| .one 6 <| .done)) 5 (.one 2 <| .one 3 <| .one 4 <| .one 6 <| .done)) (by kernel_rfl) (by kernel_rfl) (by kernel_rfl) True.intro ?_
    repeat (refine plan_take _ rfl ?_; go_big_quiet_step ((intros; rfl)); refine wpQuiet_nil ?_)
    refine plan_two ?_ ?_
    · refine step_at _ rfl fun K hK => ?_
      go_simp
      refine ((HI _).out).mono ?_
      rintro e wx1 ⟨vx1, rfl, ox1, hx1⟩
      obtain ⟨Ax1, cx1, rfl, cix1, _, rix10⟩ := own_form ox1
      have Bx2 := hb2.drew.trans (hx1.mono hb2.drew.size)
      have keyx2 := hrow1'.drew.on hx1
      have outx2 := hrow2.drew.on hx1
      refine hK _ _ True.intro ?_
      clear hK K
      refine plan_two ?_ ?_
      · refine step_at _ rfl fun K hK => ?_
        go_simp
        have hrpx3 := readsP_one wx1 34 Ax1 E.length cx1 E rix10 cix1
        have hx3 : Below wx1.heap.size wx1 (wx1.alloc (.cells #[.slice Ax1 E.length cx1] 34)) := (Below.refl _ _).alloc (Nat.le_refl _) _
        have Bx4 := Bx2.trans (hx3.mono Bx2.size)
        have keyx4 := keyx2.on hx3
        have outx4 := outx2.on hx3
        have ix4 := rix10.on hx3
        refine hK _ _ True.intro ?_
        clear hK K
        refine plan_two ?_ ?_
        · refine step_at _ rfl fun K hK => ?_
          go_simp
          refine (derive_any _ _ key 16 ⟨#[101, 110, 99, 114, 121, 112, 116]⟩ _ 1 _ 1 _ (hCo.on Bx4) (keyx4.reads16 HKL.out) (Nat.le_refl _) (by omega) (by decide) hrpx3 (by omega) (parts_one_le _ 300 (show E.length ≤ 300 by have := HIL.out; omega))).mono ?_
          rintro e wx5 ⟨rfl, hx5⟩
          rw [show drv key (⟨#[101, 110, 99, 114, 121, 112, 116]⟩ : ByteArray).data.toList _ = EK from (HDE Ax1 cx1).out]
          have Bx6 := Bx4.trans (hx5.mono Bx4.size)
          have keyx6 := keyx4.on hx5
          have outx6 := outx4.on hx5
          have ix6 := ix4.on hx5
          have psx6 := hrpx3.on hx5
          refine hK _ _ True.intro ?_
          clear hK K
          refine plan_one _ rfl fun K hK => ?_
          refine step_alloc rfl _ rfl zeros16 zero_b16 ?_
          intro wx7 rx7 sx7 kx7
          have hx7 : Below wx5.heap.size wx5 wx7 := grown_below kx7 (Nat.le_refl _) (by simp)
          have zzx7 := Bx6.size
          have zkeyx7 := keyx6.lt
          have zoutx7 := outx6.lt
          have Bx8 := Bx6.trans (hx7.mono Bx6.size)
          have keyx8 := keyx6.on hx7
          have outx8 := outx6.on hx7
          have ix8 := ix6.on hx7
          have psx8 := psx6.on hx7
          refine hK _ _ True.intro ?_
          clear hK K
          simp only [Act.put, List.setIfInBounds_toArray, List.set_cons_zero, List.set_cons_succ]
          refine plan_one _ rfl fun K hK => ?_
          refine step_store_all rfl _ _ _ rfl wx5.heap.size rfl _ _ rx7 (bvs EK) rfl (bvs_one _) (b16_zeros _ HEL.out) (b16_size _ HEL.out) ?_
          intro wx9 rx9 kx9
          have Bx9 := below_kept Bx8 kx9 Bx8.size (by rintro k hk; cases hk; exact zzx7)
          have keyx9 := keyx8.kept kx9 (by simp; omega)
          have outx9 := outx8.kept kx9 (by simp; omega)
          refine hK _ _ True.intro ?_
          clear hK K
          simp only [Act.put]
          refine plan_doneN ?_
          go_wp2_with fail
          go_meet
          exact ⟨_, rfl, rx9, outx9, by have := zzx7; omega, Bx9⟩
        · refine step_at _ rfl fun K hK => ?_
          refine step_alloc rfl _ rfl zeros16 zero_b16 ?_
          intro wx10 rx10 sx10 kx10
          have hx10 : Below (wx1.alloc (.cells #[.slice Ax1 E.length cx1] 34)).heap.size (wx1.alloc (.cells #[.slice Ax1 E.length cx1] 34)) wx10 := grown_below kx10 (Nat.le_refl _) (by simp)
          have zzx10 := Bx4.size
          have zkeyx10 := keyx4.lt
          have zoutx10 := outx4.lt
          have Bx11 := Bx4.trans (hx10.mono Bx4.size)
          have keyx11 := keyx4.on hx10
          have outx11 := outx4.on hx10
          have ix11 := ix4.on hx10
          have psx11 := hrpx3.on hx10
          have erx10 : (wx1.alloc (.cells #[.slice Ax1 E.length cx1] 34)).heap.size = wx1.heap.size + 1 := by simp
          rw [erx10] at rx10
          rw [erx10] at zzx10
          refine hK _ _ True.intro ?_
          clear hK K
          simp only [Act.put, List.setIfInBounds_toArray, List.set_cons_zero, List.set_cons_succ]
          refine plan_one _ rfl fun K hK => ?_
          go_simp
          refine (derive_any _ _ key 16 ⟨#[101, 110, 99, 114, 121, 112, 116]⟩ _ 1 _ 1 _ (hCo.on Bx11) (keyx11.reads16 HKL.out) (Nat.le_refl _) (by omega) (by decide) psx11 (by omega) (parts_one_le _ 300 (show E.length ≤ 300 by have := HIL.out; omega))).mono ?_
          rintro e wx12 ⟨rfl, hx12⟩
          rw [show drv key (⟨#[101, 110, 99, 114, 121, 112, 116]⟩ : ByteArray).data.toList _ = EK from (HDE Ax1 cx1).out]
          have Bx13 := Bx11.trans (hx12.mono Bx11.size)
          have keyx13 := keyx11.on hx12
          have outx13 := outx11.on hx12
          have ix13 := ix11.on hx12
          have psx13 := psx11.on hx12
          have t7x13 := rx10.on hx12
          refine hK _ _ True.intro ?_
          clear hK K
          refine plan_one _ rfl fun K hK => ?_
          refine step_store_all rfl _ _ _ rfl (wx1.heap.size + 1) rfl _ _ t7x13 (bvs EK) rfl (bvs_one _) (b16_zeros _ HEL.out) (b16_size _ HEL.out) ?_
          intro wx14 rx14 kx14
          have Bx14 := below_kept Bx13 kx14 Bx13.size (by rintro k hk; cases hk; exact zzx10)
          have keyx14 := keyx13.kept kx14 (by simp; omega)
          have outx14 := outx13.kept kx14 (by simp; omega)
          refine hK _ _ True.intro ?_
          clear hK K
          simp only [Act.put]
          refine plan_doneN ?_
          go_wp2_with fail
          go_meet
          exact ⟨_, rfl, rx14, outx14, by have := zzx10; omega, Bx14⟩
      · refine step_at _ rfl fun K hK => ?_
        refine step_alloc rfl _ rfl zeros16 zero_b16 ?_
        intro wx15 rx15 sx15 kx15
        have hx15 : Below wx1.heap.size wx1 wx15 := grown_below kx15 (Nat.le_refl _) (by simp)
        have zzx15 := Bx2.size
        have zkeyx15 := keyx2.lt
        have zoutx15 := outx2.lt
        have Bx16 := Bx2.trans (hx15.mono Bx2.size)
        have keyx16 := keyx2.on hx15
        have outx16 := outx2.on hx15
        have ix16 := rix10.on hx15
        refine hK _ _ True.intro ?_
        clear hK K
        simp only [Act.put, List.setIfInBounds_toArray, List.set_cons_zero, List.set_cons_succ]
        refine plan_one _ rfl fun K hK => ?_
        go_simp
        have hrpx17 := readsP_one wx15 34 Ax1 E.length cx1 E ix16 cix1
        have hx17 : Below wx15.heap.size wx15 (wx15.alloc (.cells #[.slice Ax1 E.length cx1] 34)) := (Below.refl _ _).alloc (Nat.le_refl _) _
        have Bx18 := Bx16.trans (hx17.mono Bx16.size)
        have keyx18 := keyx16.on hx17
        have outx18 := outx16.on hx17
        have ix18 := ix16.on hx17
        have t7x18 := rx15.on hx17
        refine hK _ _ True.intro ?_
        clear hK K
        refine plan_one _ rfl fun K hK => ?_
        go_simp
        refine (derive_any _ _ key 16 ⟨#[101, 110, 99, 114, 121, 112, 116]⟩ _ 1 _ 1 _ (hCo.on Bx18) (keyx18.reads16 HKL.out) (Nat.le_refl _) (by omega) (by decide) hrpx17 (by omega) (parts_one_le _ 300 (show E.length ≤ 300 by have := HIL.out; omega))).mono ?_
        rintro e wx19 ⟨rfl, hx19⟩
        rw [show drv key (⟨#[101, 110, 99, 114, 121, 112, 116]⟩ : ByteArray).data.toList _ = EK from (HDE Ax1 cx1).out]
        have Bx20 := Bx18.trans (hx19.mono Bx18.size)
        have keyx20 := keyx18.on hx19
        have outx20 := outx18.on hx19
        have ix20 := ix18.on hx19
        have t7x20 := t7x18.on hx19
        have psx20 := hrpx17.on hx19
        refine hK _ _ True.intro ?_
        clear hK K
        refine plan_one _ rfl fun K hK => ?_
        refine step_store_all rfl _ _ _ rfl wx1.heap.size rfl _ _ t7x20 (bvs EK) rfl (bvs_one _) (b16_zeros _ HEL.out) (b16_size _ HEL.out) ?_
        intro wx21 rx21 kx21
        have Bx21 := below_kept Bx20 kx21 Bx20.size (by rintro k hk; cases hk; exact zzx15)
        have keyx21 := keyx20.kept kx21 (by simp; omega)
        have outx21 := outx20.kept kx21 (by simp; omega)
        refine hK _ _ True.intro ?_
        clear hK K
        simp only [Act.put]
        refine plan_doneN ?_
        go_wp2_with fail
        go_meet
        exact ⟨_, rfl, rx21, outx21, by have := zzx15; omega, Bx21⟩
    · refine step_at _ rfl fun K hK => ?_
      refine step_alloc rfl _ rfl zeros16 zero_b16 ?_
      intro wx22 rx22 sx22 kx22
      have hx22 : Below w2.drew.heap.size w2.drew wx22 := grown_below kx22 (Nat.le_refl _) (by simp)
      have zzx22 := hb2.drew.size
      have zkeyx22 := hrow1'.drew.lt
      have zoutx22 := hrow2.drew.lt
      have Bx23 := hb2.drew.trans (hx22.mono hb2.drew.size)
      have keyx23 := hrow1'.drew.on hx22
      have outx23 := hrow2.drew.on hx22
      refine hK _ _ True.intro ?_
      clear hK K
      simp only [Act.put, List.setIfInBounds_toArray, List.set_cons_zero, List.set_cons_succ]
      refine plan_one _ rfl fun K hK => ?_
      go_simp
      refine ((HI _).out).mono ?_
      rintro e wx24 ⟨vx24, rfl, ox24, hx24⟩
      obtain ⟨Ax24, cx24, rfl, cix24, _, rix240⟩ := own_form ox24
      have Bx25 := Bx23.trans (hx24.mono Bx23.size)
      have keyx25 := keyx23.on hx24
      have outx25 := outx23.on hx24
      have t7x25 := rx22.on hx24
      refine hK _ _ True.intro ?_
      clear hK K
      refine plan_one _ rfl fun K hK => ?_
      go_simp
      have hrpx26 := readsP_one wx24 34 Ax24 E.length cx24 E rix240 cix24
      have hx26 : Below wx24.heap.size wx24 (wx24.alloc (.cells #[.slice Ax24 E.length cx24] 34)) := (Below.refl _ _).alloc (Nat.le_refl _) _
      have Bx27 := Bx25.trans (hx26.mono Bx25.size)
      have keyx27 := keyx25.on hx26
      have outx27 := outx25.on hx26
      have t7x27 := t7x25.on hx26
      have ix27 := rix240.on hx26
      refine hK _ _ True.intro ?_
      clear hK K
      refine plan_one _ rfl fun K hK => ?_
      go_simp
      refine (derive_any _ _ key 16 ⟨#[101, 110, 99, 114, 121, 112, 116]⟩ _ 1 _ 1 _ (hCo.on Bx27) (keyx27.reads16 HKL.out) (Nat.le_refl _) (by omega) (by decide) hrpx26 (by omega) (parts_one_le _ 300 (show E.length ≤ 300 by have := HIL.out; omega))).mono ?_
      rintro e wx28 ⟨rfl, hx28⟩
      rw [show drv key (⟨#[101, 110, 99, 114, 121, 112, 116]⟩ : ByteArray).data.toList _ = EK from (HDE Ax24 cx24).out]
      have Bx29 := Bx27.trans (hx28.mono Bx27.size)
      have keyx29 := keyx27.on hx28
      have outx29 := outx27.on hx28
      have t7x29 := t7x27.on hx28
      have ix29 := ix27.on hx28
      have psx29 := hrpx26.on hx28
      refine hK _ _ True.intro ?_
      clear hK K
      refine plan_one _ rfl fun K hK => ?_
      refine step_store_all rfl _ _ _ rfl w2.drew.heap.size rfl _ _ t7x29 (bvs EK) rfl (bvs_one _) (b16_zeros _ HEL.out) (b16_size _ HEL.out) ?_
      intro wx30 rx30 kx30
      have Bx30 := below_kept Bx29 kx30 Bx29.size (by rintro k hk; cases hk; exact zzx22)
      have keyx30 := keyx29.kept kx30 (by simp; omega)
      have outx30 := outx29.kept kx30 (by simp; omega)
      refine hK _ _ True.intro ?_
      clear hK K
      simp only [Act.put]
      refine plan_doneN ?_
      go_wp2_with fail
      go_meet
      exact ⟨_, rfl, rx30, outx30, by have := zzx22; omega, Bx30⟩
  case rest =>
    obtain ⟨g, rfl, hrE, hrO, hgt, hbc⟩ := hcut
    have hzc := hrE.lt
    go_wp2_with fail
    have hst := stream_any (some ⟨g, 0, none⟩) 16 EK 16 (s.size : Int) wc (hCo.on hbc) (hrE.reads16 HEL.out) (Nat.le_refl _) (by omega) (by omega) (by omega)
    rw [Int.toNat_natCast] at hst
    refine hst.mono ?_
    rintro e w3 ⟨v3, rfl, hown3, hb3⟩
    rw [HSTL.out] at hown3
    obtain ⟨A3, c3, rfl, hc3, _, hr3⟩ := own_form hown3
    have hrO3 := hrO.on hb3
    have B3 := hbc.trans (hb3.mono hbc.size)
    have hltc := hrO.lt
    clear hrE hrO hst
    go_wp2_with (first
      | (with_reducible refine wpList_alloc_row (o := ⟨some 8, _, _, _, _, _⟩) rfl _ rfl [Value.slice none 0 0] zero_sl ?_; intro w4 hrow4 hs4 hg4)
      | (with_reducible refine wpList_at ⟨none, .store _ (.tmp 8) _, _, _, _, _⟩ ?_; refine wpList_store_elem rfl _ _ _ rfl w3.heap.size 0 rfl _ _ hrow4 (.slice A3 s.size c3) rfl rfl (by simp) (by kernel_rfl) ?_; intro w5 hrow5 hg5
         have hb35 : Below w3.heap.size w3 w5 := below_kept (grown_below hg4 (Nat.le_refl _) (by simp)) hg5 (by omega) (by rintro q hq; cases hq; exact Nat.le_refl _)
         have hrO5 := hrO3.on hb35
         have hr5 := hr3.on hb35
         have hown5 := own_below hown3 hb35
         have B5 := B3.trans (hb35.mono B3.size))
      | (with_reducible refine wpList_at ⟨some 20, _, _, _, _, _⟩ ?_; refine wpList_bytes_own rfl _ _ _ _ rfl Tryd.underlying9 Tryd.underlying5 Tryd.underlying34 rfl ?_; intro c6 w6 hc6 hh6 hb6
         have hrO6 := hrO5.on hb6
         have hrS6 := hrow5.on hb6
         have hown6 := own_below hown5 hb6
         have B6 := B5.trans (hb6.mono B5.size))
      | (with_reducible refine wpList_at ⟨none, .store _ (.tmp 6) _, _, _, _, _⟩ ?_; refine wpList_store_elem rfl _ _ _ rfl w1.heap.size 0 rfl _ _ hrO6 (.slice (some ⟨w5.heap.size, 0, none⟩) s.size c6) rfl rfl (by simp) (by kernel_rfl) ?_; intro w7 hrO7 hg7))
    have hltO := hrO5.lt
    have hltS := hrow5.lt
    have hz35 := hb3.size
    have hrS7 := hrS6.kept hg7 (by simp; omega)
    have hh7 := hh6.kept hg7 (by simp; omega)
    have hown7 := hown6.kept hg7 (.inr (by intro e; have := (hown6.lt _ e).1; omega))
    have hr7 := hr5.bound (Reads.of_own hown7)
    have B7 := below_kept B6 hg7 B6.size (by rintro q hq; cases hq; omega)
    simp only [Act.put, List.setIfInBounds_toArray, List.set_cons_zero, List.set_cons_succ]
    refine leaves_cons (f := 27) (args := #[.pointer (some ⟨w3.heap.size, 0, none⟩), .pointer (some ⟨w1.heap.size, 0, none⟩)]) (by simp) (by simp [go_sem]) ?_
    refine (crypt1_any w3.heap.size w1.heap.size w5.heap.size s.size c6 c3 A3 s.data.toList (stream EK s.size) HSL.out HSTL.out .returning w7 (by omega) hltO (hrS7.cell (j := 0) rfl) (hrO7.cell (j := 0) rfl) hr7 hh7).mono ?_
    rintro e u' w8 ⟨rfl, rfl, hh8, hb8⟩
    have hc8 := (hb8.cell (p := ⟨w1.heap.size, 0, none⟩) hltO).trans (hrO7.cell (j := 0) rfl)
    rw [← HCR.out] at hh8
    have hload := run_loadVar_one (P := Tryd.prog) w8 34 ⟨w1.heap.size, 0, none⟩ _ hc8 _ Tryd.underlying34 rfl
    have hrd := hh8.reads
    rw [HCL.out] at hrd
    exact ⟨_, results_cell1 Tryd.results18 _ _ _ _ rfl hload, _, _, rfl, hc6, hrd, B7.trans (hb8.mono B5.size)⟩
end Go.Proofs.YtdgflobdnkopbaaDoor
