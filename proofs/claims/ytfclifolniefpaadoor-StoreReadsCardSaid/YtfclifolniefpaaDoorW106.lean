/-
  StoreReads: a walk. Condition: the table of constants as laid.
-/
import Derived.Test.YtfclifolniefpaaDoorSan10
import Derived.Test.YtfclifolniefpaaDoorStZ
import Derived.Test.YtfclifolniefpaaDoorZeros
import Derived.Lib.SliceRun
set_option linter.unusedSimpArgs false
set_option linter.unusedVariables false
namespace Go.Proofs.YtfclifolniefpaaDoor
open Go.RowKit

section
variable {P : Program} {ops : Array Oper} {o : Oper} {a : Act} {w : World} {K : Act → World → Prop} {Q : Exit → Act → World → Prop} {E : Prop}
theorem step_append_zeros (hw : Region.wanted o (yielded ops a.tmps) = true) (s x : Operand) (t tn : TypeId)
    (ho : o.op = .call { callee := .builtin .append, args := #[s, x], argTypes := #[t, tn] })
    (base : Nat) (e : TypeId) (i : TypeInfo) (ht : P.underlying t = some (.slice e)) (htn : P.underlying tn = some (.int .i64)) (hi : P.info? e = some i) (hz : i.zero = some (.int .u8 0)) (hsize : i.size = 1) (hby : i.bytes = 1)
    (v : Value) (n : Nat) (xs : List Value) (hsv : a.eval s = v) (hown : w.ownsRow base e 1 v n xs) (k : Nat) (hx : a.eval x = .int .i64 (k : Int)) (hsm : n + k ≤ 1000000) (hbase : base ≤ w.heap.size)
    (h : ∀ v' w', w'.ownsRow base e 1 v' (n + k) (xs ++ List.replicate k (.int .u8 0)) → w.grownBy w' v.ownBlock → Below base w w' → K (a.put o.dst v') w') : if Region.wanted o (yielded ops a.tmps) = true then Oper.wp P o a w K Q else E := by
  rw [if_pos hw]
  obtain ⟨v', w', hrun, h2, h3⟩ := run_append_zeros_own (P := P) w base t tn o.type e i ht htn hi hz hsize hby v n xs hown k hsm hbase
  unfold Oper.wp execOp
  simp only [ho, resolve, invoke, builtin, Sem.run_bind, Sem.run_pure, Result.andThen_ok, List.map_toArray, List.map_cons, List.map_nil, hsv, hx, hrun]
  exact h v' w' h2 h3 ((Below.refl base w).grown h3 hbase fun k hk => (hown.lt k hk).1)
end
theorem read_off {fs : List ByteArray} {s : ByteArray} {rec at_ : Int} (h : StOK fs) (hs : s.size = 256) (h0 : 0 ≤ at_) (h1 : at_ < 128) (hn : at_ < 16 * rec ∨ 16 * rec + 16 ≤ at_) : stSt (flWrite fs at_ s (-1)) rec = stSt fs rec := by
  have e : stL (flWrite fs at_ s (-1)) rec = stL fs rec := stL_congr fun j ha hb => by rw [flRead_write h hs h0 h1, if_neg (by omega)]
  unfold stSt
  rw [e]
set_option maxRecDepth 100000 in
set_option maxHeartbeats 4000000 in
theorem w106_any (A : Option Addr) (n d : Nat) (l : List StU) (rec sec : Int) (Ab : Option Addr) (nb cb : Nat) (bl : List UInt8) (w : World) (hK : Consts w) (hr : Reads w w.heap.size 4 A n (ucs l)) (hn : n ≤ 9223372036854775807)
    (hub : ∀ u ∈ l, u.s.size ≤ 9223372036854775807 ∧ (-9223372036854775808 ≤ u.r ∧ u.r ≤ 9223372036854775807) ∧ (-9223372036854775808 ≤ u.c ∧ u.c ≤ 9223372036854775807) ∧ (-9223372036854775808 ≤ u.b ∧ u.b ≤ 9223372036854775807))
    (hrec : 0 ≤ rec ∧ rec ≤ 255) (hsec : 0 ≤ sec ∧ sec ≤ 255) (hrb : Reads w w.heap.size 1 Ab nb (bvs bl)) (hcb : nb ≤ cb) (hnb : nb ≤ 9223372036854775807) :
    Calls Tryd.prog 6 #[.slice A n d, .int .u8 rec, .int .u8 sec, .slice Ab nb cb] w (GivesX (.bool true) w) := by
  have HS := fun W h => Lib.hid (san10_any W h)
  have HF := Lib.hid (limited_any A n d l w hr hn (fun u hu => (hub u hu).1))
  cases hf : stLim l with
  | false =>
    rw [hf] at HF
    go_enter Tryd.func6, Tryd.ntmps6
    go_wp2_with fail
    refine HF.out.mono ?_
    rintro e w1 ⟨rfl, B1⟩
    have hlB1 := B1.size
    go_wp2_with fail
    refine (HS _ (hK.on B1)).out.mono ?_
    rintro e w2 ⟨rfl, B2⟩
    go_wp2_with fail
    go_ret
    exact ⟨rfl, B1.trans (B2.mono hlB1)⟩
  | true =>
    by_cases hbig : 256 < nb
    · rw [hf] at HF
      go_enter Tryd.func6, Tryd.ntmps6
      go_wp2_with fail
      refine HF.out.mono ?_
      rintro e w1 ⟨rfl, B1⟩
      have hlB1 := B1.size
      go_wp2_with fail
      refine (HS _ (hK.on B1)).out.mono ?_
      rintro e w2 ⟨rfl, B2⟩
      go_wp2_with fail
      go_ret
      exact ⟨rfl, B1.trans (B2.mono hlB1)⟩
    rw [hf] at HF
    obtain ⟨hs2, hl2⟩ := stLim_iff.1 hf
    have hln := hr.len_of (by decide) StU.cs_len
    have hn12 : n ≤ 12 := by omega
    have hu : ∀ u ∈ l, UpB u := fun u hu => ⟨hs2 u hu, (hub u hu).2⟩
    clear hs2 hl2 hf hln hub hn
    have HLN := Lib.hid (hr.len_of (by decide) StU.cs_len)
    have HEL : ∀ k, k < n → ∃ (ad : Addr) (u : StU), A = some ad ∧ (ad.add (k * 4)).block < w.heap.size ∧ (∀ j v, u.cs[j]? = some v → w.cell? ((ad.add (k * 4)).add j) = some v) ∧ Hid (UpB u) := fun k hk => by
      obtain ⟨u, hui⟩ : ∃ u, l[k]? = some u := ⟨_, List.getElem?_eq_getElem (by rw [HLN.out]; omega)⟩
      obtain ⟨ad, e, hlta, hc⟩ := hr.elem StU.cs_len hui (by omega)
      exact ⟨ad, u, e, by rw [block_of_add]; exact hlta, hc, Lib.hid (hu u (List.mem_of_getElem? hui))⟩
    clear hr hu HLN
    have HP : ∀ (A : Option Addr) (m c : Nat) (fs : List ByteArray) (k : Nat) (u : StU) (W : World), Consts W → MemB fs k → k < 12 → UpB u → FlOK W A m c fs → Hid (Calls Tryd.prog 18 #[flv A m c, (upd u).v] W (GivesP (upR fs u) W)) := fun A m c fs k u W h1 h2 h3 h4 h5 => Lib.hid (lput_any A m c fs (stRec u.r) u.s u.c u.b W (stRec_in _) h1 h5 h2.small (by have := h5.len; have := h2.1.1; omega) h4.1 h4.2.2.1.1 h4.2.2.1.2 h4.2.2.2.1 h4.2.2.2.2)
    have HSR0 := fun r => Lib.hid (stRec_wrap r)
    obtain ⟨K, hKd⟩ : ∃ K : Int, K = rec % 4 := ⟨_, rfl⟩
    obtain ⟨Z, hZd⟩ : ∃ Z : Int, Z = sec % 128 := ⟨_, rfl⟩
    have hK0 : 0 ≤ K ∧ K ≤ 3 := by omega
    have hZ0 : 0 ≤ Z ∧ Z < 128 := by omega
    have HKD := Lib.hid hKd
    have HZD := Lib.hid hZd
    clear hKd hZd
    have HIN := Lib.hid (stIn_iff.2 hK0)
    go_enter Tryd.func6, Tryd.ntmps6
    go_wp2_with fail
    refine HF.out.mono ?_
    rintro e w1 ⟨rfl, B1⟩
    have hlB1 := B1.size
    go_wp2_with fail
    refine (lnew_any 128 _).mono ?_
    rintro e w2 ⟨A1, n1, c1, rfl, fl2, h2⟩
    have B2 := B1.trans (h2.mono hlB1)
    have hlB2 := B2.size
    have HL1 := Lib.hid (fun h0 => fl_lt fl2 h0)
    unfold flv
    rw [show flNewE 128 = 0 from rfl]
    go_wp2_with (first
      | (with_reducible refine wpList_alloc_row (o := ⟨some 10, _, _, _, _, _⟩) rfl _ rfl [.slice none 0 0] (by kernel_rfl) ?_; intro w6 f5_6 s6 g6; have k6 : Below w2.heap.size w2 w6 := grown_below g6 (Nat.le_refl _) (by simp); have B6 := B2.trans (k6.mono B2.size); have fl_6 := fl2.on k6)
      | ((with_reducible refine wpList_at ⟨none, .store _ (.tmp 10) _, _, _, _, _⟩ ?_); refine wpList_store_all rfl _ _ _ rfl (w2.heap.size) rfl _ _ f5_6 ([.slice A1 n1 c1]) rfl (slice_one _ _ _) rfl (by kernel_rfl) ?_; intro w7 f5_7 g7; have fl_7 := fl_kept fl_6 g7 (fun h0 => fl_ne fl_6 h0 f5_6); have B7 := below_kept B6 g7 B6.size (by rintro q hq; cases hq; omega); have sz7 := g7.size; clear fl_6))
    generalize w2.heap.size = g5 at *
    go_loopg [40] n (fun g s40 wr => ∃ (k : Nat) (fs : List ByteArray) (Ak : Option Addr) (nk ck : Nat), Hid (k + g = n) ∧ k ≤ n ∧ s40 = .int .i64 (k : Int) ∧ Hid (MemB fs k) ∧ Row wr (g5) 28 [.slice Ak nk ck] ∧ FlOK wr Ak nk ck fs ∧ Below w.heap.size w wr)
    case atStart => exact ⟨0, flNew 128, A1, n1, c1, by show _ = _; omega, by omega, rfl, Lib.hid MemB.zero, f5_7, fl_7, B7⟩
    case round =>
      obtain ⟨k, fs, Ak, nk, ck, HK, hk, rfl, HM, f5, fl, hB⟩ := hrel
      have lf5 := f5.lt
      have lB := hB.size
      have HL0 := Lib.hid (fun h0 => fl_lt fl h0)
      by_cases hlt : k < n
      · obtain ⟨ad, u, rfl, hlta, hc, HUB⟩ := HEL k hlt
        have HCC := Lib.hid hc
        clear hc HEL HIN HKD HZD HS hrb
        have HPP := fun A m c W h1 h2 => HP A m c fs k u W h1 HM.out (by omega) HUB.out h2
        have HS2 := Lib.hid (HM.out.step (by omega) HUB.out)
        have HSR := HSR0 u.r
        generalize hRR : upR fs u = R at *
        clear hRR
        go_wp2_with (first
          | ((with_reducible refine wpList_at ⟨some 43, _, _, _, _, _⟩ ?_); refine wpList_valueG rfl _ (by exact exec_load _ 30 _ rfl (ad.add (k * 4)) rfl u.cs (fun j v hv => (hB.cell (by rw [block_of_add]; exact hlta)).trans (HCC.out j v hv)) _ Tryd.underlying30 rfl (by kernel_rfl)) ?_)
          | (with_reducible refine wpList_alloc_row (o := ⟨some 13, _, _, _, _, _⟩) rfl _ rfl zeroU zero_up ?_; intro w21 u8_21 s21 g21; have k21 : Below wr.heap.size wr w21 := grown_below g21 (Nat.le_refl _) (by simp); have B21 := hB.trans (k21.mono hB.size); have f5_21 := f5.on k21; have fl_21 := fl.on k21)
          | ((with_reducible refine wpList_at ⟨none, .store _ (.tmp 13) _, _, _, _, _⟩ ?_); refine wpList_store_all rfl _ _ _ rfl (wr.heap.size) rfl _ _ u8_21 (u.cs) rfl (u.cs_one) rfl (by kernel_rfl) ?_; intro w22 u8_22 g22; have f5_22 := f5_21.kept g22 (by simp; omega); have fl_22 := fl_kept fl_21 g22 (fun h0 ad e' => by have := HL0.out h0 ad e'; omega); have B22 := below_kept B21 g22 B21.size (by rintro q hq; cases hq; omega); have sz22 := g22.size; clear f5_21 fl_21; have cu80 := u8_22.cell (j := 0) rfl; have cu81 := u8_22.cell (j := 1) rfl; have cu82 := u8_22.cell (j := 2) rfl; have cu83 := u8_22.cell (j := 3) rfl)
          | ((with_reducible refine wpList_at ⟨none, .store _ (.tmp 49) _, _, _, _, _⟩ ?_); refine wpList_store_elem rfl _ _ _ rfl (wr.heap.size) 0 rfl _ _ u8_22 (.int .i64 ((wrap64 (u.r.tmod 4 + 4)).tmod 4)) rfl rfl (by show 0 < 4; decide) (by kernel_rfl) ?_; intro w23 u8x_23 g23; have f5_23 := f5_22.kept g23 (by simp; omega); have fl_23 := fl_kept fl_22 g23 (fun h0 ad e' => by have := HL0.out h0 ad e'; omega); have u8_23 : Row w23 (wr.heap.size) _ ((upd u).cs) := (by have h := u8x_23; rw [HSR.out] at h; exact h); have B23 := below_kept B22 g23 B22.size (by rintro q hq; cases hq; omega); have sz23 := g23.size; clear f5_22 fl_22; have cu80 := u8_23.cell (j := 0) rfl; have cu81 := u8_23.cell (j := 1) rfl; have cu82 := u8_23.cell (j := 2) rfl; have cu83 := u8_23.cell (j := 3) rfl)
          | ((with_reducible refine wpList_at ⟨some 51, _, _, _, _, _⟩ ?_); refine wpList_valueG rfl _ (by exact exec_loadFl _ _ rfl (g5) rfl Ak nk ck f5_23) ?_)
          | ((with_reducible refine wpList_at ⟨some 52, _, _, _, _, _⟩ ?_); refine wpList_valueG rfl _ (by exact exec_loadU _ _ rfl (wr.heap.size) rfl (upd u) u8_23) ?_))
        have l24f5 := f5_23.lt
        have l24u8 := u8_23.lt
        have lB24 := B23.size
        refine (HPP _ _ _ _ (hK.on B23) fl_23).out.mono ?_
        rintro e w24 ⟨A2, n2, c2, E2, m2, d2, rfl, fg24, hE2, hmd2, hm2, h24⟩
        have hs24 := h24.size
        have B24 := B23.trans (h24.mono B23.size)
        have f5_24 := f5_23.on h24
        have fl_24 := fl_23.on h24
        have u8_24 := u8_23.on h24
        clear f5_23 fl_23 u8_23
        have cu80 := u8_24.cell (j := 0) rfl
        have cu81 := u8_24.cell (j := 1) rfl
        have cu82 := u8_24.cell (j := 2) rfl
        have cu83 := u8_24.cell (j := 3) rfl
        unfold flv
        go_wp2_with ((with_reducible refine wpList_at ⟨none, .store _ (.tmp 10) _, _, _, _, _⟩ ?_); refine wpList_store_all rfl _ _ _ rfl (g5) rfl _ _ f5_24 ([.slice A2 n2 c2]) rfl (slice_one _ _ _) rfl (by kernel_rfl) ?_; intro w25 f5_25 g25; have u8_25 := u8_24.kept g25 (by simp; omega); have fg_25 := fl_kept fg24 g25 (fun h0 => fl_ne fg24 h0 f5_24); have B25 := below_kept B24 g25 B24.size (by rintro q hq; cases hq; omega); have sz25 := g25.size; clear u8_24; have cu80 := u8_25.cell (j := 0) rfl; have cu81 := u8_25.cell (j := 1) rfl; have cu82 := u8_25.cell (j := 2) rfl; have cu83 := u8_25.cell (j := 3) rfl)
        go_roundg (gk - 1)
        case measure => have := HK.out; omega
        case rel => exact ⟨k + 1, R.m, A2, n2, c2, by have := HK.out; show _ = _; omega, by omega, by go_num, HS2, f5_25, fg_25, B25⟩
      · obtain rfl : k = n := by omega
        clear HEL HP HSR0
        have hst := HM.out.small
        have hHG := fun X h1 h2 => Lib.hid (lget_any Ak nk ck fs K X HIN.out h1 h2 hst)
        have HFI := fun X => Lib.hid (sfirst_any K 0 X)
        rw [show stFirst K 0 = 16 * K + 8 * 0 from if_pos (by omega)] at HFI
        have HFJ := fun X => Lib.hid (sfirst_any K 1 X)
        rw [show stFirst K 1 = 16 * K + 8 * 1 from if_pos (by omega)] at HFJ
        have HOK := Lib.hid HM.out.1
        obtain ⟨S, hS0⟩ : ∃ S, S = stSt fs K := ⟨_, rfl⟩
        rw [← hS0] at hHG
        have HS0 := Lib.hid hS0
        clear hS0
        go_wp2_with ((with_reducible refine wpList_at ⟨some 60, _, _, _, _, _⟩ ?_); refine wpList_valueG rfl _ (by exact exec_loadFl _ _ rfl (g5) rfl Ak nk ck f5) ?_)
        rw [← HKD.out]
        have l41f5 := f5.lt
        have lB41 := hB.size
        refine (hHG _ (hK.on hB) fl).out.mono ?_
        rintro e w41 ⟨rfl, h41⟩
        have hs41 := h41.size
        have B41 := hB.trans (h41.mono hB.size)
        have f5_41 := f5.on h41
        have fl_41 := fl.on h41
        go_wp2_with (first
          | (with_reducible refine wpList_alloc_row (o := ⟨some 14, _, _, _, _, _⟩) rfl _ rfl zeroO zero_so ?_; intro w42 a14_42 s42 g42; have k42 : Below w41.heap.size w41 w42 := grown_below g42 (Nat.le_refl _) (by simp); have B42 := B41.trans (k42.mono B41.size); have f5_42 := f5_41.on k42; have fl_42 := fl_41.on k42; clear f5_41 fl_41)
          | ((with_reducible refine wpList_at ⟨none, .store _ (.tmp 14) _, _, _, _, _⟩ ?_); refine wpList_store_all rfl _ _ _ rfl (w41.heap.size) rfl _ _ a14_42 (S.cs) rfl (S.cs_one) rfl (by kernel_rfl) ?_; intro w43 a14_43 g43; have f5_43 := f5_42.kept g43 (by simp; omega); have fl_43 := fl_kept fl_42 g43 (fun h0 ad e' => by have := HL0.out h0 ad e'; omega); have B43 := below_kept B42 g43 B42.size (by rintro q hq; cases hq; omega); have sz43 := g43.size; clear f5_42 fl_42)
          | ((with_reducible refine wpList_at ⟨some 68, _, _, _, _, _⟩ ?_); refine wpList_valueG rfl _ (by exact exec_loadFl _ _ rfl (g5) rfl Ak nk ck f5_43) ?_)
          | (with_reducible refine wpList_alloc_row (o := ⟨some 17, _, _, _, _, _⟩) rfl _ rfl [.slice none 0 0] (by kernel_rfl) ?_; intro w44 o17_44 s44 g44; have k44 : Below w43.heap.size w43 w44 := grown_below g44 (Nat.le_refl _) (by simp); have B44 := B43.trans (k44.mono B43.size); have f5_44 := f5_43.on k44; have fl_44 := fl_43.on k44; have a14_44 := a14_43.on k44; clear f5_43 fl_43 a14_43)
          | ((with_reducible refine wpList_at ⟨none, .store _ (.tmp 17) _, _, _, _, _⟩ ?_); refine wpList_store_all rfl _ _ _ rfl (w43.heap.size) rfl _ _ o17_44 ([.slice Ak nk ck]) rfl (slice_one _ _ _) rfl (by kernel_rfl) ?_; intro w45 o17_45 g45; have f5_45 := f5_44.kept g45 (by simp; omega); have fl_45 := fl_kept fl_44 g45 (fun h0 => fl_ne fl_44 h0 o17_44); have a14_45 := a14_44.kept g45 (by simp; omega); have B45 := below_kept B44 g45 B44.size (by rintro q hq; cases hq; omega); have sz45 := g45.size; clear f5_44 fl_44 a14_44))
        rw [← HZD.out]
        refine (HFI _).out.mono ?_
        rintro e _ ⟨rfl, rfl⟩
        by_cases hin0 : 16 * K ≤ Z ∧ Z < 16 * K + 16
        · have HHH := hHG
          go_wp2_with fail
          refine (HFJ _).out.mono ?_
          rintro e _ ⟨rfl, rfl⟩
          go_wp2_with ((with_reducible refine wpList_at ⟨some 95, _, _, _, _, _⟩ ?_); refine wpList_valueG rfl _ (by exact exec_loadFl _ _ rfl (w43.heap.size) rfl Ak nk ck o17_45) ?_)
          go_wp2_with fail
          have l46f5 := f5_45.lt
          have l46a14 := a14_45.lt
          have l46o17 := o17_45.lt
          have lB46 := B45.size
          refine (HHH _ (hK.on B45) fl_45).out.mono ?_
          rintro e w46 ⟨rfl, h46⟩
          have hs46 := h46.size
          have B46 := B45.trans (h46.mono B45.size)
          have f5_46 := f5_45.on h46
          have a14_46 := a14_45.on h46
          have o17_46 := o17_45.on h46
          have fo_46 := fl_45.on h46
          clear f5_45 a14_45 o17_45
          go_wp2_with (first
            | (with_reducible refine wpList_alloc_row (o := ⟨some 18, _, _, _, _, _⟩) rfl _ rfl zeroO zero_so ?_; intro w47 c18_47 s47 g47; have k47 : Below w46.heap.size w46 w47 := grown_below g47 (Nat.le_refl _) (by simp); have B47 := B46.trans (k47.mono B46.size); have f5_47 := f5_46.on k47; have a14_47 := a14_46.on k47; have o17_47 := o17_46.on k47; clear f5_46 a14_46 o17_46)
            | ((with_reducible refine wpList_at ⟨none, .store _ (.tmp 18) _, _, _, _, _⟩ ?_); refine wpList_store_all rfl _ _ _ rfl (w46.heap.size) rfl _ _ c18_47 (S.cs) rfl (S.cs_one) rfl (by kernel_rfl) ?_; intro w48 c18_48 g48; have f5_48 := f5_47.kept g48 (by simp; omega); have a14_48 := a14_47.kept g48 (by simp; omega); have o17_48 := o17_47.kept g48 (by simp; omega); have B48 := below_kept B47 g48 B47.size (by rintro q hq; cases hq; omega); have sz48 := g48.size; clear f5_47 a14_47 o17_47))
          have l49f5 := f5_48.lt
          have l49a14 := a14_48.lt
          have l49o17 := o17_48.lt
          have l49c18 := c18_48.lt
          have lB49 := B48.size
          refine (HS _ (hK.on B48)).out.mono ?_
          rintro e w49 ⟨rfl, h49⟩
          have hs49 := h49.size
          have B49 := B48.trans (h49.mono B48.size)
          have f5_49 := f5_48.on h49
          have a14_49 := a14_48.on h49
          have o17_49 := o17_48.on h49
          have c18_49 := c18_48.on h49
          clear f5_48 a14_48 o17_48 c18_48
          go_wp2_with (first
            | ((with_reducible refine wpList_at ⟨some 111, _, _, _, _, _⟩ ?_); refine wpList_valueG rfl _ (by exact exec_loadO _ _ rfl (w41.heap.size) rfl S a14_49) ?_)
            | ((with_reducible refine wpList_at ⟨some 112, _, _, _, _, _⟩ ?_); refine wpList_valueG rfl _ (by exact exec_loadO _ _ rfl (w46.heap.size) rfl S c18_49) ?_)
            | ((with_reducible refine wpList_at ⟨some 113, _, _, _, _, _⟩ ?_); refine wpList_valueG rfl _ (by exact exec_eqlS _ _ _ rfl S rfl rfl) ?_))
          go_ret
          exact ⟨rfl, B49⟩
        · obtain ⟨kz, hkz⟩ : ∃ kz, nb + kz = 256 := ⟨256 - nb, by omega⟩
          have hzs : (mk (bl ++ List.replicate kz 0)).size = 256 := by
            have := hrb.bytes_len
            rw [mk_size, List.length_append, List.length_replicate]
            omega
          have hro : stSt (flWrite fs Z (mk (bl ++ List.replicate kz 0)) (-1)) K = S := by rw [HS0.out]; exact read_off HOK.out hzs hZ0.1 hZ0.2 (by omega)
          have hst2 : ∀ s ∈ flWrite fs Z (mk (bl ++ List.replicate kz 0)) (-1), s.size ≤ 400 := fun s hs => by have := (HOK.out.write hzs Z (-1)).2 s hs; omega
          have HHH := fun Ah nh ch X h1 h2 => Lib.hid (lget_any Ah nh ch (flWrite fs Z (mk (bl ++ List.replicate kz 0)) (-1)) K X HIN.out h1 h2 hst2)
          rw [hro] at HHH
          have hnk : nk ≤ 1000000 := by have := HOK.out.1; have := fl.len; omega
          have HWR := fun X h => Lib.hid (lwrite_any Ak nk ck fs Z (mk (bl ++ List.replicate kz 0)) (-1) X h hnk)
          have e88 : (256 : Int) - (nb : Int) = (kz : Int) := by omega
          have HKZ := Lib.hid hkz
          obtain ⟨i0, hi0, hz0, hz1, hz2⟩ := info_parts info_u8
          clear hzs hro hst2 hnk hkz
          by_cases hlo : Z < 16 * K
          · go_wp2_with fail
            have f5d := f5_45.drew
            have a14d := a14_45.drew
            have o17d := o17_45.drew
            have fod : FlOK w45.drew Ak nk ck fs := fl_45
            have Bd := B45.drew
            have hq0 := Below.refl w45.drew.heap.size w45.drew
            refine wp_region_plan (fun w' => Row w' g5 28 [.slice Ak nk ck]) (.take 0 <| .take 1 <| .take 3 <| .take 5 <| .take 6 <| .take 7 <| .one 2 <| .one 4 <| .one 8 <| .one 9 <| .one 10 <| .take 11 <| .take 12 <| .take 13 <| .one 14 <| .done) (by kernel_rfl) (by kernel_rfl) (by kernel_rfl) (fun _ _ _ _ _ h => h) f5d ?_
            repeat (refine plan_take _ rfl ?_; (first | ((with_reducible refine wpQuiet_at ⟨some 81, _, _, _, _, _⟩ ?_); refine wpQuiet_valueG rfl _ (by intro _ hS; exact exec_loadFl _ _ rfl (g5) rfl Ak nk ck hS) (wpQuiet_nil ?_); simp only [Act.put, List.setIfInBounds_toArray, List.set_cons_zero, List.set_cons_succ]) | (go_big_quiet_step ((intros; rfl)); refine wpQuiet_nil ?_)))
            refine plan_one _ rfl fun K hK => ?_
            go_simp
            have ou1 := own_empty w45.drew 5 1 w45.drew.heap.size (Nat.le_refl _)
            have hu1 : Below w45.drew.heap.size w45.drew (w45.drew.alloc (.cells #[] 5)) := (Below.refl _ _).alloc (Nat.le_refl _) _
            have hqu1 := hq0.trans hu1
            refine hK _ _ (f5d.on hqu1) ?_
            clear hK K
            refine plan_one _ rfl fun K hK => ?_
            refine step_append_src rfl (.tmp 83) (.tmp 84) _ _ rfl (w45.drew.heap.size) 5 i0 _ 1 1 Tryd.underlying42 hi0 hz0 hz1 hz2 rfl _ _ _ rfl ou1 nb _ (Src.ofReads _ Tryd.underlying42 (hrb.on (Bd.trans (hqu1.mono Bd.size))) (bvs_one _)) (by unfold maxLen; omega) (by omega) hqu1.size ?_
            intro vu2 wu2 ou2 ku2 hu2
            rw [Nat.zero_add, List.nil_append] at ou2
            have hqu2 := hqu1.trans hu2
            refine hK _ _ (f5d.on hqu2) ?_
            clear hK K
            simp only [Act.put, List.setIfInBounds_toArray, List.set_cons_zero, List.set_cons_succ]
            refine plan_one _ rfl fun K hK => ?_
            refine step_append_zeros rfl (.tmp 85) (.tmp 88) _ _ rfl (w45.drew.heap.size) 5 i0 Tryd.underlying42 Tryd.underlying3 hi0 hz0 hz1 hz2 _ _ _ rfl ou2 kz rfl (by have := HKZ.out; omega) hqu2.size ?_
            intro vu3 wu3 ou3 ku3 hu3
            rw [show List.replicate kz (Value.int .u8 0) = bvs (List.replicate kz (0 : UInt8)) from by unfold bvs; rw [List.map_replicate]; rfl, ← bvs_append] at ou3
            obtain ⟨Az, cz, rfl, _, _, rz⟩ := own_form ou3
            have hqu3 := hqu2.trans hu3
            refine hK _ _ (f5d.on hqu3) ?_
            clear hK K
            simp only [Act.put, List.setIfInBounds_toArray, List.set_cons_zero, List.set_cons_succ]
            refine plan_one _ rfl fun K hK => ?_
            refine step_valueG (o := ⟨some 90, _, _, _, _, _⟩) rfl _ _ (by exact exec_string_of _ 42 9 5 _ rfl Tryd.underlying42 Tryd.underlying5 Tryd.underlying9 rfl rz) ?_
            refine hK _ _ (f5d.on hqu3) ?_
            clear hK K
            simp only [Act.put, List.setIfInBounds_toArray, List.set_cons_zero, List.set_cons_succ]
            refine plan_one _ rfl fun K hK => ?_
            go_simp
            refine (HWR _ (fod.on hqu3)).out.mono ?_
            rintro e wu4 ⟨Aw, nw, cw, rfl, fw, hu4⟩
            have hqu4 := hqu3.trans (hu4.mono hqu3.size)
            refine hK _ _ (f5d.on hqu4) ?_
            clear hK K
            repeat (refine plan_take _ rfl ?_; (first | ((with_reducible refine wpQuiet_at ⟨some 81, _, _, _, _, _⟩ ?_); refine wpQuiet_valueG rfl _ (by intro _ hS; exact exec_loadFl _ _ rfl (g5) rfl Ak nk ck hS) (wpQuiet_nil ?_); simp only [Act.put, List.setIfInBounds_toArray, List.set_cons_zero, List.set_cons_succ]) | (go_big_quiet_step ((intros; rfl)); refine wpQuiet_nil ?_)))
            refine plan_one _ rfl fun K hK => ?_
            have f5e := f5d.on hqu4
            have a14e := a14d.on hqu4
            have o17e := o17d.on hqu4
            have Be := (Bd.trans (hqu4.mono Bd.size))
            have lo17 := o17e.lt
            have la14 := a14e.lt
            have lf5e := f5e.lt
            refine step_store_all rfl _ _ _ rfl (w43.heap.size) rfl _ _ o17e ([.slice Aw nw cw]) rfl (slice_one _ _ _) rfl (by kernel_rfl) ?_
            intro wu5 o17f gu5
            have fwf := fl_kept fw gu5 (fun h0 => fl_ne fw h0 o17e)
            have f5f := f5e.kept gu5 (by simp; omega)
            have a14f := a14e.kept gu5 (by simp; omega)
            have Bf := below_kept Be gu5 Be.size (by rintro z hz; cases hz; omega)
            refine hK _ _ f5f ?_
            clear hK K
            refine plan_done ?_
            have HLW := Lib.hid (fun h0 => fl_lt fwf h0)
            have HHH := HHH Aw nw cw
            go_wp2_with ((with_reducible refine wpList_at ⟨some 95, _, _, _, _, _⟩ ?_); refine wpList_valueG rfl _ (by exact exec_loadFl _ _ rfl (w43.heap.size) rfl Aw nw cw o17f) ?_)
            go_wp2_with fail
            have l81f5 := f5f.lt
            have l81a14 := a14f.lt
            have l81o17 := o17f.lt
            have lB81 := Bf.size
            refine (HHH _ (hK.on Bf) fwf).out.mono ?_
            rintro e w81 ⟨rfl, h81⟩
            have hs81 := h81.size
            have B81 := Bf.trans (h81.mono Bf.size)
            have f5_81 := f5f.on h81
            have a14_81 := a14f.on h81
            have o17_81 := o17f.on h81
            have fo_81 := fwf.on h81
            go_wp2_with (first
              | (with_reducible refine wpList_alloc_row (o := ⟨some 18, _, _, _, _, _⟩) rfl _ rfl zeroO zero_so ?_; intro w82 c18_82 s82 g82; have k82 : Below w81.heap.size w81 w82 := grown_below g82 (Nat.le_refl _) (by simp); have B82 := B81.trans (k82.mono B81.size); have f5_82 := f5_81.on k82; have a14_82 := a14_81.on k82; have o17_82 := o17_81.on k82; clear f5_81 a14_81 o17_81)
              | ((with_reducible refine wpList_at ⟨none, .store _ (.tmp 18) _, _, _, _, _⟩ ?_); refine wpList_store_all rfl _ _ _ rfl (w81.heap.size) rfl _ _ c18_82 (S.cs) rfl (S.cs_one) rfl (by kernel_rfl) ?_; intro w83 c18_83 g83; have f5_83 := f5_82.kept g83 (by simp; omega); have a14_83 := a14_82.kept g83 (by simp; omega); have o17_83 := o17_82.kept g83 (by simp; omega); have B83 := below_kept B82 g83 B82.size (by rintro q hq; cases hq; omega); have sz83 := g83.size; clear f5_82 a14_82 o17_82))
            have l84f5 := f5_83.lt
            have l84a14 := a14_83.lt
            have l84o17 := o17_83.lt
            have l84c18 := c18_83.lt
            have lB84 := B83.size
            refine (HS _ (hK.on B83)).out.mono ?_
            rintro e w84 ⟨rfl, h84⟩
            have hs84 := h84.size
            have B84 := B83.trans (h84.mono B83.size)
            have f5_84 := f5_83.on h84
            have a14_84 := a14_83.on h84
            have o17_84 := o17_83.on h84
            have c18_84 := c18_83.on h84
            clear f5_83 a14_83 o17_83 c18_83
            go_wp2_with (first
              | ((with_reducible refine wpList_at ⟨some 111, _, _, _, _, _⟩ ?_); refine wpList_valueG rfl _ (by exact exec_loadO _ _ rfl (w41.heap.size) rfl S a14_84) ?_)
              | ((with_reducible refine wpList_at ⟨some 112, _, _, _, _, _⟩ ?_); refine wpList_valueG rfl _ (by exact exec_loadO _ _ rfl (w81.heap.size) rfl S c18_84) ?_)
              | ((with_reducible refine wpList_at ⟨some 113, _, _, _, _, _⟩ ?_); refine wpList_valueG rfl _ (by exact exec_eqlS _ _ _ rfl S rfl rfl) ?_))
            go_ret
            exact ⟨rfl, B84⟩
          · go_wp2_with fail
            refine (HFJ _).out.mono ?_
            rintro e _ ⟨rfl, rfl⟩
            go_wp2_with fail
            have f5d := f5_45.drew
            have a14d := a14_45.drew
            have o17d := o17_45.drew
            have fod : FlOK w45.drew Ak nk ck fs := fl_45
            have Bd := B45.drew
            have hq0 := Below.refl w45.drew.heap.size w45.drew
            refine wp_region_plan (fun w' => Row w' g5 28 [.slice Ak nk ck]) (.take 0 <| .take 1 <| .take 3 <| .take 5 <| .take 6 <| .take 7 <| .one 2 <| .one 4 <| .one 8 <| .one 9 <| .one 10 <| .take 11 <| .take 12 <| .take 13 <| .one 14 <| .done) (by kernel_rfl) (by kernel_rfl) (by kernel_rfl) (fun _ _ _ _ _ h => h) f5d ?_
            repeat (refine plan_take _ rfl ?_; (first | ((with_reducible refine wpQuiet_at ⟨some 81, _, _, _, _, _⟩ ?_); refine wpQuiet_valueG rfl _ (by intro _ hS; exact exec_loadFl _ _ rfl (g5) rfl Ak nk ck hS) (wpQuiet_nil ?_); simp only [Act.put, List.setIfInBounds_toArray, List.set_cons_zero, List.set_cons_succ]) | (go_big_quiet_step ((intros; rfl)); refine wpQuiet_nil ?_)))
            refine plan_one _ rfl fun K hK => ?_
            go_simp
            have ou6 := own_empty w45.drew 5 1 w45.drew.heap.size (Nat.le_refl _)
            have hu6 : Below w45.drew.heap.size w45.drew (w45.drew.alloc (.cells #[] 5)) := (Below.refl _ _).alloc (Nat.le_refl _) _
            have hqu6 := hq0.trans hu6
            refine hK _ _ (f5d.on hqu6) ?_
            clear hK K
            refine plan_one _ rfl fun K hK => ?_
            refine step_append_src rfl (.tmp 83) (.tmp 84) _ _ rfl (w45.drew.heap.size) 5 i0 _ 1 1 Tryd.underlying42 hi0 hz0 hz1 hz2 rfl _ _ _ rfl ou6 nb _ (Src.ofReads _ Tryd.underlying42 (hrb.on (Bd.trans (hqu6.mono Bd.size))) (bvs_one _)) (by unfold maxLen; omega) (by omega) hqu6.size ?_
            intro vu7 wu7 ou7 ku7 hu7
            rw [Nat.zero_add, List.nil_append] at ou7
            have hqu7 := hqu6.trans hu7
            refine hK _ _ (f5d.on hqu7) ?_
            clear hK K
            simp only [Act.put, List.setIfInBounds_toArray, List.set_cons_zero, List.set_cons_succ]
            refine plan_one _ rfl fun K hK => ?_
            refine step_append_zeros rfl (.tmp 85) (.tmp 88) _ _ rfl (w45.drew.heap.size) 5 i0 Tryd.underlying42 Tryd.underlying3 hi0 hz0 hz1 hz2 _ _ _ rfl ou7 kz rfl (by have := HKZ.out; omega) hqu7.size ?_
            intro vu8 wu8 ou8 ku8 hu8
            rw [show List.replicate kz (Value.int .u8 0) = bvs (List.replicate kz (0 : UInt8)) from by unfold bvs; rw [List.map_replicate]; rfl, ← bvs_append] at ou8
            obtain ⟨Az, cz, rfl, _, _, rz⟩ := own_form ou8
            have hqu8 := hqu7.trans hu8
            refine hK _ _ (f5d.on hqu8) ?_
            clear hK K
            simp only [Act.put, List.setIfInBounds_toArray, List.set_cons_zero, List.set_cons_succ]
            refine plan_one _ rfl fun K hK => ?_
            refine step_valueG (o := ⟨some 90, _, _, _, _, _⟩) rfl _ _ (by exact exec_string_of _ 42 9 5 _ rfl Tryd.underlying42 Tryd.underlying5 Tryd.underlying9 rfl rz) ?_
            refine hK _ _ (f5d.on hqu8) ?_
            clear hK K
            simp only [Act.put, List.setIfInBounds_toArray, List.set_cons_zero, List.set_cons_succ]
            refine plan_one _ rfl fun K hK => ?_
            go_simp
            refine (HWR _ (fod.on hqu8)).out.mono ?_
            rintro e wu9 ⟨Aw, nw, cw, rfl, fw, hu9⟩
            have hqu9 := hqu8.trans (hu9.mono hqu8.size)
            refine hK _ _ (f5d.on hqu9) ?_
            clear hK K
            repeat (refine plan_take _ rfl ?_; (first | ((with_reducible refine wpQuiet_at ⟨some 81, _, _, _, _, _⟩ ?_); refine wpQuiet_valueG rfl _ (by intro _ hS; exact exec_loadFl _ _ rfl (g5) rfl Ak nk ck hS) (wpQuiet_nil ?_); simp only [Act.put, List.setIfInBounds_toArray, List.set_cons_zero, List.set_cons_succ]) | (go_big_quiet_step ((intros; rfl)); refine wpQuiet_nil ?_)))
            refine plan_one _ rfl fun K hK => ?_
            have f5e := f5d.on hqu9
            have a14e := a14d.on hqu9
            have o17e := o17d.on hqu9
            have Be := (Bd.trans (hqu9.mono Bd.size))
            have lo17 := o17e.lt
            have la14 := a14e.lt
            have lf5e := f5e.lt
            refine step_store_all rfl _ _ _ rfl (w43.heap.size) rfl _ _ o17e ([.slice Aw nw cw]) rfl (slice_one _ _ _) rfl (by kernel_rfl) ?_
            intro wu10 o17f gu10
            have fwf := fl_kept fw gu10 (fun h0 => fl_ne fw h0 o17e)
            have f5f := f5e.kept gu10 (by simp; omega)
            have a14f := a14e.kept gu10 (by simp; omega)
            have Bf := below_kept Be gu10 Be.size (by rintro z hz; cases hz; omega)
            refine hK _ _ f5f ?_
            clear hK K
            refine plan_done ?_
            have HLW := Lib.hid (fun h0 => fl_lt fwf h0)
            have HHH := HHH Aw nw cw
            go_wp2_with ((with_reducible refine wpList_at ⟨some 95, _, _, _, _, _⟩ ?_); refine wpList_valueG rfl _ (by exact exec_loadFl _ _ rfl (w43.heap.size) rfl Aw nw cw o17f) ?_)
            go_wp2_with fail
            have l81f5 := f5f.lt
            have l81a14 := a14f.lt
            have l81o17 := o17f.lt
            have lB81 := Bf.size
            refine (HHH _ (hK.on Bf) fwf).out.mono ?_
            rintro e w81 ⟨rfl, h81⟩
            have hs81 := h81.size
            have B81 := Bf.trans (h81.mono Bf.size)
            have f5_81 := f5f.on h81
            have a14_81 := a14f.on h81
            have o17_81 := o17f.on h81
            have fo_81 := fwf.on h81
            go_wp2_with (first
              | (with_reducible refine wpList_alloc_row (o := ⟨some 18, _, _, _, _, _⟩) rfl _ rfl zeroO zero_so ?_; intro w82 c18_82 s82 g82; have k82 : Below w81.heap.size w81 w82 := grown_below g82 (Nat.le_refl _) (by simp); have B82 := B81.trans (k82.mono B81.size); have f5_82 := f5_81.on k82; have a14_82 := a14_81.on k82; have o17_82 := o17_81.on k82; clear f5_81 a14_81 o17_81)
              | ((with_reducible refine wpList_at ⟨none, .store _ (.tmp 18) _, _, _, _, _⟩ ?_); refine wpList_store_all rfl _ _ _ rfl (w81.heap.size) rfl _ _ c18_82 (S.cs) rfl (S.cs_one) rfl (by kernel_rfl) ?_; intro w83 c18_83 g83; have f5_83 := f5_82.kept g83 (by simp; omega); have a14_83 := a14_82.kept g83 (by simp; omega); have o17_83 := o17_82.kept g83 (by simp; omega); have B83 := below_kept B82 g83 B82.size (by rintro q hq; cases hq; omega); have sz83 := g83.size; clear f5_82 a14_82 o17_82))
            have l84f5 := f5_83.lt
            have l84a14 := a14_83.lt
            have l84o17 := o17_83.lt
            have l84c18 := c18_83.lt
            have lB84 := B83.size
            refine (HS _ (hK.on B83)).out.mono ?_
            rintro e w84 ⟨rfl, h84⟩
            have hs84 := h84.size
            have B84 := B83.trans (h84.mono B83.size)
            have f5_84 := f5_83.on h84
            have a14_84 := a14_83.on h84
            have o17_84 := o17_83.on h84
            have c18_84 := c18_83.on h84
            clear f5_83 a14_83 o17_83 c18_83
            go_wp2_with (first
              | ((with_reducible refine wpList_at ⟨some 111, _, _, _, _, _⟩ ?_); refine wpList_valueG rfl _ (by exact exec_loadO _ _ rfl (w41.heap.size) rfl S a14_84) ?_)
              | ((with_reducible refine wpList_at ⟨some 112, _, _, _, _, _⟩ ?_); refine wpList_valueG rfl _ (by exact exec_loadO _ _ rfl (w81.heap.size) rfl S c18_84) ?_)
              | ((with_reducible refine wpList_at ⟨some 113, _, _, _, _, _⟩ ?_); refine wpList_valueG rfl _ (by exact exec_eqlS _ _ _ rfl S rfl rfl) ?_))
            go_ret
            exact ⟨rfl, B84⟩
end Go.Proofs.YtfclifolniefpaaDoor
