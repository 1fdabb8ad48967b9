/-
  What the law file's updates returns: a contract by a walk. Conditions: the table of constants as laid; what the check gives.
-/
import Derived.Test.YtfclifolniefpaaDoorStY
import Derived.Test.YtfclifolniefpaaDoorSnG
import Derived.Lib.SliceRun
set_option linter.unusedSimpArgs false
set_option linter.unusedVariables false
namespace Go.Proofs.YtfclifolniefpaaDoor
open Go.RowKit

/-- The record that an update of a list is about. -/
def stRec (r : Int) : Int := (r.tmod 4 + 4).tmod 4
theorem stRec_in (r : Int) : stIn (stRec r) = true := by
  refine stIn_iff.2 ?_
  unfold stRec
  have h1 := Int.tmod_lt_of_pos r (show (0 : Int) < 4 by decide)
  have h2 : -4 < r.tmod 4 := by
    have := Int.tmod_lt_of_pos (-r) (show (0 : Int) < 4 by decide)
    rw [Int.neg_tmod] at this
    omega
  have h3 : 0 ≤ r.tmod 4 + 4 := by omega
  have h4 := Int.tmod_nonneg 4 h3
  have h5 := Int.tmod_lt_of_pos (r.tmod 4 + 4) (show (0 : Int) < 4 by decide)
  omega
theorem stRec_wrap (r : Int) : (wrap64 (r.tmod 4 + 4)).tmod 4 = stRec r := by
  have h1 := Int.tmod_lt_of_pos r (show (0 : Int) < 4 by decide)
  have h2 : -4 < r.tmod 4 := by
    have := Int.tmod_lt_of_pos (-r) (show (0 : Int) < 4 by decide)
    rw [Int.neg_tmod] at this
    omega
  rw [show wrap64 (r.tmod 4 + 4) = r.tmod 4 + 4 by unfold wrap64; omega]
  rfl
/-- An update whose content is short, as the machine holds it. -/
def UpB (u : StU) : Prop := u.s.size ≤ 2000 ∧ (-9223372036854775808 ≤ u.r ∧ u.r ≤ 9223372036854775807) ∧ (-9223372036854775808 ≤ u.c ∧ u.c ≤ 9223372036854775807) ∧ (-9223372036854775808 ≤ u.b ∧ u.b ≤ 9223372036854775807)
/-- A memory behind some updates. -/
def MemB (fs : List ByteArray) (k : Nat) : Prop := StOK fs ∧ ∀ q, stIn q = true → stSq fs q ≤ (k : Int)
theorem MemB.zero : MemB (flNew 128) 0 := ⟨StOK.zero, fun q h => by rw [sq_zero h]; omega⟩
theorem MemB.mono {fs : List ByteArray} {k j : Nat} (h : MemB fs k) (hj : k ≤ j) : MemB fs j := ⟨h.1, fun q hq => by have := h.2 q hq; omega⟩
theorem MemB.small {fs : List ByteArray} {k : Nat} (h : MemB fs k) : ∀ s ∈ fs, s.size ≤ 400 := fun s hs => by have := h.1.2 s hs; omega
def upd (u : StU) : StU := ⟨stRec u.r, u.s, u.c, u.b⟩
def upR (fs : List ByteArray) (u : StU) : StRun := stRun fs (stRec u.r) u.s u.c u.b
theorem MemB.run {fs : List ByteArray} {k : Nat} {u : StU} (h : MemB fs k) (hk : k ≤ 12) (hu : UpB u) : RunOK fs (stRec u.r) u.s (upR fs u) := run_ok h.1 (stRec_in _) hu.1 (by have := h.2 _ (stRec_in u.r); omega) u.c u.b
theorem MemB.step {fs : List ByteArray} {k : Nat} {u : StU} (h : MemB fs k) (hk : k ≤ 12) (hu : UpB u) : MemB (upR fs u).m (k + 1) := by
  have hR := h.run hk hu
  refine ⟨hR.ok, fun q hq => ?_⟩
  have := sq_step (stRec_in _) hq hR h.2
  omega
theorem run_pos {fs : List ByteArray} {rec : Int} {c : ByteArray} {R : StRun} (h : RunOK fs rec c R) : 0 < R.l.length := by
  obtain ⟨k, h1, h2⟩ := h.acc
  have := stAs_len fs rec c
  rw [h1, List.length_take]
  omega
/-- What a check gives. -/
def Chk (F : FuncId) : Prop := ∀ (fs : List ByteArray) (u : StU) (R : StRun) (A : Option Addr) (n c : Nat) (A' : Option Addr) (n' c' : Nat) (B : Addr) (m d : Nat) (W : World),
  MemB fs 12 → stIn u.r = true → u.s.size ≤ 2000 → RunOK fs u.r u.s R → Consts W → FlOK W A n c fs → FlOK W A' n' c' R.m → Reads W W.heap.size 4 (some B) m (acs R.l) → m ≤ d → R.l.length = m →
  Calls Tryd.prog F #[flv A n c, u.v, flv A' n' c', R.o.v, .bool R.w, .slice (some B) m d] W (GivesX (.bool true) W)
theorem rd_lt {w : World} {B s n : Nat} {A : Option Addr} {xs : List Value} (h : Reads w B s A n xs) (h0 : 0 < n) : ∀ ad, A = some ad → ad.block < B := by
  intro ad e'
  obtain ⟨ad', e2, hlt, _⟩ := h.2 h0
  rw [e'] at e2
  cases e2
  exact hlt
theorem rd_kept {w w' : World} {s n g : Nat} {A : Option Addr} {xs : List Value} (h : Reads w w.heap.size s A n xs) (hg : w.grownBy w' (some g)) (hne : 0 < n → ∀ ad, A = some ad → ad.block ≠ g) : Reads w' w'.heap.size s A n xs := by
  refine ⟨h.1, fun h0 => ?_⟩
  obtain ⟨ad, e, hlt, hc⟩ := h.2 h0
  refine ⟨ad, e, Nat.lt_of_lt_of_le hlt hg.size, fun j u hu => ?_⟩
  exact (World.cell?_of_block (hg.block _ (by rw [block_of_add]; exact hlt) (by rw [block_of_add]; intro h2; exact hne h0 ad e (Option.some.inj h2)))).trans (hc j u hu)
theorem exec_loadU {ρ : Operand → Value} {o : Oper} (w : World) (x : Operand) (ho : o.op = .load 30 x) (g : Nat) (hx : ρ x = .pointer (some ⟨g, 0, none⟩)) (a : StU) {e : TypeId} (hr : Row w g e a.cs) :
    (execOp ρ o).run Tryd.prog w = .ok (.value a.v) w := exec_load w _ x ho ⟨g, 0, none⟩ hx a.cs hr.cells _ Tryd.underlying30 rfl (by kernel_rfl)
set_option maxRecDepth 100000 in
set_option maxHeartbeats 4000000 in
theorem updates_any (F : FuncId) (hcf : ∀ args W, (callFunc F args).run Tryd.prog W = .ok (.enter F args) W) (hchk : Chk F) (A : Option Addr) (n d : Nat) (l : List StU) (w : World) (hK : Consts w) (hr : Reads w w.heap.size 4 A n (ucs l)) (hn : n ≤ 12) (hu : ∀ u ∈ l, UpB u) :
    Calls Tryd.prog 9 #[.slice A n d, .func (.func F) #[] #[]] w (GivesX (.bool true) w) := by
  have HLN := Lib.hid (hr.len_of (by decide) StU.cs_len)
  have HEL : ∀ k, k < n → ∃ (ad : Addr) (u : StU), A = some ad ∧ (ad.add (k * 4)).block < w.heap.size ∧ (∀ j v, u.cs[j]? = some v → w.cell? ((ad.add (k * 4)).add j) = some v) ∧ Hid (UpB u) := fun k hk => by
    obtain ⟨u, hui⟩ : ∃ u, l[k]? = some u := ⟨_, List.getElem?_eq_getElem (by rw [HLN.out]; omega)⟩
    obtain ⟨ad, e, hlta, hc⟩ := hr.elem StU.cs_len hui (by omega)
    exact ⟨ad, u, e, by rw [block_of_add]; exact hlta, hc, Lib.hid (hu u (List.mem_of_getElem? hui))⟩
  clear hr hu HLN
  have HP : ∀ (A : Option Addr) (m c : Nat) (fs : List ByteArray) (k : Nat) (u : StU) (W : World), Consts W → MemB fs k → k < 12 → UpB u → FlOK W A m c fs → Hid (Calls Tryd.prog 18 #[flv A m c, (upd u).v] W (GivesP (upR fs u) W)) := fun A m c fs k u W h1 h2 h3 h4 h5 => Lib.hid (lput_any A m c fs (stRec u.r) u.s u.c u.b W (stRec_in _) h1 h5 h2.small (by have := h5.len; have := h2.1.1; omega) h4.1 h4.2.2.1.1 h4.2.2.1.2 h4.2.2.2.1 h4.2.2.2.2)
  have HSR0 := fun r => Lib.hid (stRec_wrap r)
  have HN := Lib.hid hchk
  clear hchk
  go_enter Tryd.func9, Tryd.ntmps9
  go_wp2_with fail
  refine (lnew_any 128 w).mono ?_
  rintro e w1 ⟨A1, n1, c1, rfl, fl1, B1⟩
  have HL1 := Lib.hid (fun h0 => fl_lt fl1 h0)
  have hlB1 := B1.size
  unfold flv
  rw [show flNewE 128 = 0 from rfl]
  go_wp2_with (first
    | (with_reducible refine wpList_alloc_row (o := ⟨some 5, _, _, _, _, _⟩) rfl _ rfl [.slice none 0 0] (by kernel_rfl) ?_; intro w6 f5_6 s6 g6; have k6 : Below w1.heap.size w1 w6 := grown_below g6 (Nat.le_refl _) (by simp); have B6 := B1.trans (k6.mono B1.size); have fl_6 := fl1.on k6)
    | ((with_reducible refine wpList_at ⟨none, .store _ (.tmp 5) _, _, _, _, _⟩ ?_); refine wpList_store_all rfl _ _ _ rfl (w1.heap.size) rfl _ _ f5_6 ([.slice A1 n1 c1]) rfl (slice_one _ _ _) rfl (by kernel_rfl) ?_; intro w7 f5_7 g7; have fl_7 := fl_kept fl_6 g7 (fun h0 => fl_ne fl_6 h0 f5_6); have B7 := below_kept B6 g7 B6.size (by rintro q hq; cases hq; omega); have sz7 := g7.size; clear fl_6))
  go_loopg [21] n (fun g s21 wr => ∃ (k : Nat) (fs : List ByteArray) (Ak : Option Addr) (nk ck : Nat), Hid (k + g = n) ∧ k ≤ n ∧ s21 = .int .i64 (k : Int) ∧ Hid (MemB fs k) ∧ Row wr (w1.heap.size) 28 [.slice Ak nk ck] ∧ FlOK wr Ak nk ck fs ∧ Below w.heap.size w wr)
  case atStart => exact ⟨0, flNew 128, A1, n1, c1, by show _ = _; omega, by omega, rfl, Lib.hid MemB.zero, f5_7, fl_7, B7⟩
  case round =>
    obtain ⟨k, fs, Ak, nk, ck, HK, hk, rfl, HM, f5, fl, hB⟩ := hrel
    have lf5 := f5.lt
    have lB := hB.size
    by_cases hlt : k < n
    · obtain ⟨ad, u, rfl, hlta, hc, HUB⟩ := HEL k hlt
      have HCC := Lib.hid hc
      clear hc HEL
      have HSR := HSR0 u.r
      have HL0 := Lib.hid (fun h0 => fl_lt fl h0)
      have HPP := fun A m c W h1 h2 => HP A m c fs k u W h1 HM.out (by omega) HUB.out h2
      have HR := Lib.hid (HM.out.run (by omega) HUB.out)
      have HS := Lib.hid (HM.out.step (by omega) HUB.out)
      have HPOS := Lib.hid (run_pos HR.out)
      generalize hRR : upR fs u = R at *
      clear hRR
      go_wp2_with (first
        | ((with_reducible refine wpList_at ⟨some 24, _, _, _, _, _⟩ ?_); refine wpList_valueG rfl _ (by exact exec_load _ 30 _ rfl (ad.add (k * 4)) rfl u.cs (fun j v hv => (hB.cell (by rw [block_of_add]; exact hlta)).trans (HCC.out j v hv)) _ Tryd.underlying30 rfl (by kernel_rfl)) ?_)
        | (with_reducible refine wpList_alloc_row (o := ⟨some 8, _, _, _, _, _⟩) rfl _ rfl zeroU zero_up ?_; intro w21 u8_21 s21 g21; have k21 : Below wr.heap.size wr w21 := grown_below g21 (Nat.le_refl _) (by simp); have B21 := hB.trans (k21.mono hB.size); have f5_21 := f5.on k21; have fl_21 := fl.on k21)
        | ((with_reducible refine wpList_at ⟨none, .store _ (.tmp 8) _, _, _, _, _⟩ ?_); refine wpList_store_all rfl _ _ _ rfl (wr.heap.size) rfl _ _ u8_21 (u.cs) rfl (u.cs_one) rfl (by kernel_rfl) ?_; intro w22 u8_22 g22; have f5_22 := f5_21.kept g22 (by simp; omega); have fl_22 := fl_kept fl_21 g22 (fun h0 ad e' => by have := HL0.out h0 ad e'; omega); have B22 := below_kept B21 g22 B21.size (by rintro q hq; cases hq; omega); have sz22 := g22.size; clear f5_21 fl_21; have cu80 := u8_22.cell (j := 0) rfl; have cu81 := u8_22.cell (j := 1) rfl; have cu82 := u8_22.cell (j := 2) rfl; have cu83 := u8_22.cell (j := 3) rfl)
        | ((with_reducible refine wpList_at ⟨none, .store _ (.tmp 30) _, _, _, _, _⟩ ?_); refine wpList_store_elem rfl _ _ _ rfl (wr.heap.size) 0 rfl _ _ u8_22 (.int .i64 ((wrap64 (u.r.tmod 4 + 4)).tmod 4)) rfl rfl (by show 0 < 4; decide) (by kernel_rfl) ?_; intro w23 u8x_23 g23; have f5_23 := f5_22.kept g23 (by simp; omega); have fl_23 := fl_kept fl_22 g23 (fun h0 ad e' => by have := HL0.out h0 ad e'; omega); have u8_23 : Row w23 (wr.heap.size) _ ((upd u).cs) := (by have h := u8x_23; rw [HSR.out] at h; exact h); have B23 := below_kept B22 g23 B22.size (by rintro q hq; cases hq; omega); have sz23 := g23.size; clear f5_22 fl_22; have cu80 := u8_23.cell (j := 0) rfl; have cu81 := u8_23.cell (j := 1) rfl; have cu82 := u8_23.cell (j := 2) rfl; have cu83 := u8_23.cell (j := 3) rfl)
        | ((with_reducible refine wpList_at ⟨some 32, _, _, _, _, _⟩ ?_); refine wpList_valueG rfl _ (by exact exec_loadFl _ _ rfl (w1.heap.size) rfl Ak nk ck f5_23) ?_)
        | ((with_reducible refine wpList_at ⟨some 33, _, _, _, _, _⟩ ?_); refine wpList_valueG rfl _ (by exact exec_loadU _ _ rfl (wr.heap.size) rfl (upd u) u8_23) ?_))
      have l24f5 := f5_23.lt
      have l24u8 := u8_23.lt
      have lB24 := B23.size
      refine (HPP _ _ _ _ (hK.on B23) fl_23).out.mono ?_
      rintro e w24 ⟨A2, n2, c2, E2, m2, d2, rfl, fg24, hE2, hmd2, hm2, h24⟩
      have hs24 := h24.size
      have B24 := B23.trans (h24.mono B23.size)
      have f5_24 := f5_23.on h24
      have fl_24 := fl_23.on h24
      have u8_24 := u8_23.on h24
      clear f5_23 fl_23 u8_23
      have cu80 := u8_24.cell (j := 0) rfl
      have cu81 := u8_24.cell (j := 1) rfl
      have cu82 := u8_24.cell (j := 2) rfl
      have cu83 := u8_24.cell (j := 3) rfl
      obtain ⟨E2, rfl, _⟩ := hE2.2 (by have := HPOS.out; omega)
      have HL2 := Lib.hid (fun h0 => fl_lt fg24 h0)
      have HLE := Lib.hid (fun h0 => rd_lt hE2 h0)
      have HQ : ∀ W : World, (binOp .eql 34 (.slice (some E2) m2 d2) (.slice none 0 0)).run Tryd.prog W = .ok (.bool false) W := fun W => Lib.run_eql_slice_nil W _ _ (some E2) m2 d2 0 0 Tryd.underlying34
      unfold flv
      go_wp2_with (first
        | (with_reducible refine wpList_alloc_row (o := ⟨some 9, _, _, _, _, _⟩) rfl _ rfl [.slice none 0 0] (by kernel_rfl) ?_; intro w25 g9_25 s25 g25; have k25 : Below w24.heap.size w24 w25 := grown_below g25 (Nat.le_refl _) (by simp); have B25 := B24.trans (k25.mono B24.size); have f5_25 := f5_24.on k25; have fl_25 := fl_24.on k25; have u8_25 := u8_24.on k25; have fg_25 := fg24.on k25; have re_25 := hE2.on k25; clear f5_24 fl_24 u8_24; have cu80 := u8_25.cell (j := 0) rfl; have cu81 := u8_25.cell (j := 1) rfl; have cu82 := u8_25.cell (j := 2) rfl; have cu83 := u8_25.cell (j := 3) rfl)
        | (with_reducible refine wpList_alloc_row (o := ⟨some 10, _, _, _, _, _⟩) rfl _ rfl zeroO zero_so ?_; intro w26 o10_26 s26 g26; have k26 : Below w25.heap.size w25 w26 := grown_below g26 (Nat.le_refl _) (by simp); have B26 := B25.trans (k26.mono B25.size); have f5_26 := f5_25.on k26; have fl_26 := fl_25.on k26; have u8_26 := u8_25.on k26; have fg_26 := fg_25.on k26; have re_26 := re_25.on k26; have g9_26 := g9_25.on k26; clear f5_25 fl_25 u8_25 fg_25 re_25 g9_25; have cu80 := u8_26.cell (j := 0) rfl; have cu81 := u8_26.cell (j := 1) rfl; have cu82 := u8_26.cell (j := 2) rfl; have cu83 := u8_26.cell (j := 3) rfl)
        | ((with_reducible refine wpList_at ⟨none, .store _ (.tmp 9) _, _, _, _, _⟩ ?_); refine wpList_store_all rfl _ _ _ rfl (w24.heap.size) rfl _ _ g9_26 ([.slice A2 n2 c2]) rfl (slice_one _ _ _) rfl (by kernel_rfl) ?_; intro w27 g9_27 g27; have f5_27 := f5_26.kept g27 (by simp; omega); have fl_27 := fl_kept fl_26 g27 (fun h0 => fl_ne fl_26 h0 g9_26); have u8_27 := u8_26.kept g27 (by simp; omega); have fg_27 := fl_kept fg_26 g27 (fun h0 => fl_ne fg_26 h0 g9_26); have re_27 := rd_kept re_26 g27 (fun h0 ad e' => by have := HLE.out h0 ad e'; omega); have o10_27 := o10_26.kept g27 (by simp; omega); have B27 := below_kept B26 g27 B26.size (by rintro q hq; cases hq; omega); have sz27 := g27.size; clear f5_26 fl_26 u8_26 fg_26 re_26 o10_26; have cu80 := u8_27.cell (j := 0) rfl; have cu81 := u8_27.cell (j := 1) rfl; have cu82 := u8_27.cell (j := 2) rfl; have cu83 := u8_27.cell (j := 3) rfl)
        | ((with_reducible refine wpList_at ⟨none, .store _ (.tmp 10) _, _, _, _, _⟩ ?_); refine wpList_store_all rfl _ _ _ rfl (w25.heap.size) rfl _ _ o10_27 (R.o.cs) rfl (R.o.cs_one) rfl (by kernel_rfl) ?_; intro w28 o10_28 g28; have f5_28 := f5_27.kept g28 (by simp; omega); have fl_28 := fl_kept fl_27 g28 (fun h0 ad e' => by have := HL0.out h0 ad e'; omega); have u8_28 := u8_27.kept g28 (by simp; omega); have fg_28 := fl_kept fg_27 g28 (fun h0 ad e' => by have := HL2.out h0 ad e'; omega); have re_28 := rd_kept re_27 g28 (fun h0 ad e' => by have := HLE.out h0 ad e'; omega); have g9_28 := g9_27.kept g28 (by simp; omega); have B28 := below_kept B27 g28 B27.size (by rintro q hq; cases hq; omega); have sz28 := g28.size; clear f5_27 fl_27 u8_27 fg_27 re_27 g9_27; have cu80 := u8_28.cell (j := 0) rfl; have cu81 := u8_28.cell (j := 1) rfl; have cu82 := u8_28.cell (j := 2) rfl; have cu83 := u8_28.cell (j := 3) rfl)
        | ((with_reducible refine wpList_at ⟨some 43, _, _, _, _, _⟩ ?_); refine wpList_valueG rfl _ (by exact exec_loadFl _ _ rfl (w1.heap.size) rfl Ak nk ck f5_28) ?_)
        | ((with_reducible refine wpList_at ⟨some 44, _, _, _, _, _⟩ ?_); refine wpList_valueG rfl _ (by exact exec_loadU _ _ rfl (wr.heap.size) rfl (upd u) u8_28) ?_)
        | ((with_reducible refine wpList_at ⟨some 45, _, _, _, _, _⟩ ?_); refine wpList_valueG rfl _ (by exact exec_loadFl _ _ rfl (w24.heap.size) rfl A2 n2 c2 g9_28) ?_)
        | ((with_reducible refine wpList_at ⟨some 46, _, _, _, _, _⟩ ?_); refine wpList_valueG rfl _ (by exact exec_loadO _ _ rfl (w25.heap.size) rfl R.o o10_28) ?_))
      have l29f5 := f5_28.lt
      have l29u8 := u8_28.lt
      have l29g9 := g9_28.lt
      have l29o10 := o10_28.lt
      have lB29 := B28.size
      refine (HN.out fs (upd u) R Ak nk ck A2 n2 c2 E2 m2 d2 _ (HM.out.mono (by omega)) (stRec_in _) HUB.out.1 HR.out (hK.on B28) fl_28 fg_28 re_28 hmd2 hm2).mono ?_
      rintro e w29 ⟨rfl, h29⟩
      have hs29 := h29.size
      have B29 := B28.trans (h29.mono B28.size)
      have f5_29 := f5_28.on h29
      have fl_29 := fl_28.on h29
      have u8_29 := u8_28.on h29
      have fg_29 := fg_28.on h29
      have g9_29 := g9_28.on h29
      have o10_29 := o10_28.on h29
      clear f5_28 fl_28 u8_28 fg_28 g9_28 o10_28
      have cu80 := u8_29.cell (j := 0) rfl
      have cu81 := u8_29.cell (j := 1) rfl
      have cu82 := u8_29.cell (j := 2) rfl
      have cu83 := u8_29.cell (j := 3) rfl
      go_wp2_with (first
        | ((with_reducible refine wpList_at ⟨some 52, _, _, _, _, _⟩ ?_); refine wpList_valueG rfl _ (by exact exec_loadFl _ _ rfl (w24.heap.size) rfl A2 n2 c2 g9_29) ?_)
        | ((with_reducible refine wpList_at ⟨none, .store _ (.tmp 5) _, _, _, _, _⟩ ?_); refine wpList_store_all rfl _ _ _ rfl (w1.heap.size) rfl _ _ f5_29 ([.slice A2 n2 c2]) rfl (slice_one _ _ _) rfl (by kernel_rfl) ?_; intro w30 f5_30 g30; have u8_30 := u8_29.kept g30 (by simp; omega); have fg_30 := fl_kept fg_29 g30 (fun h0 => fl_ne fg_29 h0 f5_29); have g9_30 := g9_29.kept g30 (by simp; omega); have o10_30 := o10_29.kept g30 (by simp; omega); have B30 := below_kept B29 g30 B29.size (by rintro q hq; cases hq; omega); have sz30 := g30.size; clear u8_29 fg_29 g9_29 o10_29; have cu80 := u8_30.cell (j := 0) rfl; have cu81 := u8_30.cell (j := 1) rfl; have cu82 := u8_30.cell (j := 2) rfl; have cu83 := u8_30.cell (j := 3) rfl))
      go_roundg (gk - 1)
      case measure => have := HK.out; omega
      case rel => exact ⟨k + 1, R.m, A2, n2, c2, by have := HK.out; show _ = _; omega, by omega, by go_num, HS, f5_30, fg_30, B30⟩
    · obtain rfl : k = n := by omega
      clear HEL HP
      go_wp2_with fail
      go_ret
      exact ⟨rfl, hB⟩
end Go.Proofs.YtfclifolniefpaaDoor
