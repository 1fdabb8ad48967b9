/-
  The law file's sanity examples: a walk. No condition.
-/
import Derived.Test.YtliaapgnknbmbaaFuH
import Derived.Test.YtliaapgnknbmbaaFuN
import Derived.Test.YtliaapgnknbmbaaFuL
import Derived.Test.YtliaapgnknbmbaaFuV
import Derived.Test.YtliaapgnknbmbaaFuW
import Derived.Test.YtliaapgnknbmbaaBuild3
namespace Go.Proofs.Ytliaapgnknbmbaa
open Go.RowKit

def sF : List (List UInt8) := [[0, 0, 0, 0, 0, 0], []]
def sG : List (List UInt8) := [[2, 1, 0, 0, 0, 0], []]
def sH : List (List UInt8) := [[2, 1, 2, 0, 0, 0], []]
theorem s7_f : fuNew [2, 0] = sF := by decide +kernel
theorem s7_g : fuHits sF [⟨0, 0, false⟩, ⟨0, 1, true⟩, ⟨0, 1, true⟩] = sG := by decide +kernel
theorem s7_h : fuHits sG [⟨0, 2, false⟩] = sH := by decide +kernel
theorem s7_bits {ps : List Part} {bs : List (List UInt8)} (hb : bk ps = bs) (h : ∀ l ∈ bs, l.length % 3 = 0 ∧ l.length ≤ 1000) : ∀ p ∈ ps, p.l.length % 3 = 0 ∧ p.l.length ≤ 1000 := fun p hp => h p.l (by rw [← hb]; exact List.mem_map.2 ⟨p, hp, rfl⟩)
theorem s7_n {W : World} {A : Option Addr} {n c : Nat} {ps : List Part} {bs : List (List UInt8)} (h : FuOK W A n c ps) (hb : bk ps = bs) (hl : bs.length ≤ 100) : n ≤ 100 := by
  have h1 := h.1.len
  have h2 := bk_len ps
  rw [hb] at h2
  omega
theorem s7_l {ps : List Part} {bs : List (List UInt8)} (hb : bk ps = bs) (h : ∀ l ∈ bs, l.length ≤ 1000) : ∀ l ∈ bk ps, l.length ≤ 1000 := by rw [hb]; exact h
theorem s7_lit (W : World) (a b c : Int) (x y z : UInt8) (ha : bv x = .int .u8 a) (hb : bv y = .int .u8 b) (hc : bv z = .int .u8 c) :
    FuOK ((W.alloc (.cells #[.int .u8 a, .int .u8 b, .int .u8 c] 5)).alloc (.cells #[.slice (some ⟨W.heap.size, 0, none⟩) 3 3] 26)) (some ⟨W.heap.size + 1, 0, none⟩) 1 1 [⟨some ⟨W.heap.size, 0, none⟩, 3, 3, [x, y, z]⟩] := by
  have h1 : Row (W.alloc (.cells #[.int .u8 a, .int .u8 b, .int .u8 c] 5)) W.heap.size 5 (bvs [x, y, z]) := by
    have := row_alloc W 5 [.int .u8 a, .int .u8 b, .int .u8 c]
    rw [← ha, ← hb, ← hc] at this ⊢
    exact this
  generalize hV : W.alloc (.cells #[.int .u8 a, .int .u8 b, .int .u8 c] 5) = V at *
  have hs : V.heap.size = W.heap.size + 1 := by rw [← hV]; simp
  have hk : Below V.heap.size V (V.alloc (.cells #[.slice (some ⟨W.heap.size, 0, none⟩) 3 3] 26)) := (Below.refl _ _).alloc (Nat.le_refl _) _
  have h2 := row_alloc V 26 [.slice (some ⟨W.heap.size, 0, none⟩) 3 3]
  rw [hs] at h2
  refine ⟨⟨h2.reads rfl, fun p hp => ?_⟩, Nat.le_refl _, fun p hp => ?_⟩
  · simp only [List.mem_singleton] at hp
    subst hp
    exact ⟨(h1.on hk).reads rfl, Nat.le_refl _⟩
  · simp only [List.mem_singleton] at hp
    subst hp
    unfold maxLen
    show 3 ≤ _
    omega
theorem info_hit : (Try.prog.info? 47).map (fun i => (i.zero, i.size, i.bytes)) = some (some (.agg #[.int .i64 0, .int .i64 0, .bool false]), 3, 24) := by kernel_rfl
theorem s7_w0 (W : World) (A : Option Addr) (n c : Nat) (ps : List Part) (h : FuOK W A n c ps) (hb : bk ps = sF) : Calls Try.prog 18 #[fuv A n c, .int .i64 0] W (TellsI 2 W) := by
  have h0 := fwidth_any A n c ps 0 W h.1 h.2.2
  rw [hb, show fuWidth sF 0 = 2 by decide +kernel] at h0
  exact h0

theorem s7_w2 (W : World) (A : Option Addr) (n c : Nat) (ps : List Part) (h : FuOK W A n c ps) (hb : bk ps = sF) : Calls Try.prog 18 #[fuv A n c, .int .i64 2] W (TellsI (-1) W) := by
  have h0 := fwidth_any A n c ps 2 W h.1 h.2.2
  rw [hb, show fuWidth sF 2 = -1 by decide +kernel] at h0
  exact h0

theorem s7_lf (W : World) (A : Option Addr) (n c : Nat) (ps : List Part) (h : FuOK W A n c ps) (hb : bk ps = sF) : Calls Try.prog 20 #[fuv A n c, .int .i64 0] W (TellsI 0 W) := by
  have h0 := fleast_any A n c ps 0 W h.1 h.2.2
  rw [hb, show fuLevel sF 0 false = 0 by decide +kernel] at h0
  exact h0

theorem s7_mf (W : World) (A : Option Addr) (n c : Nat) (ps : List Part) (h : FuOK W A n c ps) (hb : bk ps = sF) : Calls Try.prog 22 #[fuv A n c, .int .i64 0] W (TellsI 0 W) := by
  have h0 := fmost_any A n c ps 0 W h.1 h.2.2
  rw [hb, show fuLevel sF 0 true = 0 by decide +kernel] at h0
  exact h0

theorem s7_lg (W : World) (A : Option Addr) (n c : Nat) (ps : List Part) (h : FuOK W A n c ps) (hb : bk ps = sG) : Calls Try.prog 20 #[fuv A n c, .int .i64 0] W (TellsI 0 W) := by
  have h0 := fleast_any A n c ps 0 W h.1 h.2.2
  rw [hb, show fuLevel sG 0 false = 0 by decide +kernel] at h0
  exact h0

theorem s7_mg (W : World) (A : Option Addr) (n c : Nat) (ps : List Part) (h : FuOK W A n c ps) (hb : bk ps = sG) : Calls Try.prog 22 #[fuv A n c, .int .i64 0] W (TellsI 1 W) := by
  have h0 := fmost_any A n c ps 0 W h.1 h.2.2
  rw [hb, show fuLevel sG 0 true = 1 by decide +kernel] at h0
  exact h0

theorem s7_lh (W : World) (A : Option Addr) (n c : Nat) (ps : List Part) (h : FuOK W A n c ps) (hb : bk ps = sH) : Calls Try.prog 20 #[fuv A n c, .int .i64 0] W (TellsI 1 W) := by
  have h0 := fleast_any A n c ps 0 W h.1 h.2.2
  rw [hb, show fuLevel sH 0 false = 1 by decide +kernel] at h0
  exact h0

theorem s7_r1 (W : World) (A : Option Addr) (n c : Nat) (ps : List Part) (h : FuOK W A n c ps) (hb : bk ps = sG) : Calls Try.prog 13 #[fuv A n c, .int .i64 0, .int .i64 1, .bool true] W (TellsII 1 0 W) := by
  have h0 := fread_any A n c ps 0 1 true W h.1
  rw [hb, show fuRead sG 0 1 true = 1 by decide +kernel, show fuErr sG 0 1 = 0 by decide +kernel] at h0
  exact h0

theorem s7_r2 (W : World) (A : Option Addr) (n c : Nat) (ps : List Part) (h : FuOK W A n c ps) (hb : bk ps = sG) : Calls Try.prog 13 #[fuv A n c, .int .i64 0, .int .i64 1, .bool false] W (TellsII 0 0 W) := by
  have h0 := fread_any A n c ps 0 1 false W h.1
  rw [hb, show fuRead sG 0 1 false = 0 by decide +kernel, show fuErr sG 0 1 = 0 by decide +kernel] at h0
  exact h0

theorem s7_r3 (W : World) (A : Option Addr) (n c : Nat) (ps : List Part) (h : FuOK W A n c ps) (hb : bk ps = sG) : Calls Try.prog 13 #[fuv A n c, .int .i64 1, .int .i64 0, .bool true] W (TellsII 0 1 W) := by
  have h0 := fread_any A n c ps 1 0 true W h.1
  rw [hb, show fuRead sG 1 0 true = 0 by decide +kernel, show fuErr sG 1 0 = 1 by decide +kernel] at h0
  exact h0

theorem s7_vh (W : World) (A : Option Addr) (n c : Nat) (ps : List Part) (h : FuOK W A n c ps) (hb : bk ps = sH) : Calls Try.prog 11 #[fuv A n c] W (TellsB true W) := by
  have h0 := fvalid_any A n c ps W h.1
  rw [hb, show fuValid sH = true by decide +kernel] at h0
  exact h0

theorem s7_sh (W : World) (A : Option Addr) (n c : Nat) (ps : List Part) (h : FuOK W A n c ps) (hb : bk ps = sH) : Calls Try.prog 24 #[fuv A n c] W (TellsB true W) := by
  have h0 := fsound_any A n c ps W h.1 (by have := h.1.len; have := bk_len ps; rw [hb] at this; have e : sH.length = 2 := rfl; omega) (s7_bits hb (by decide))
  rw [hb, show fuSound sH = true by decide +kernel] at h0
  exact h0

theorem s7_sx (W : World) (A : Option Addr) (n c : Nat) (ps : List Part) (h : FuOK W A n c ps) (hb : bk ps = [[3, 3, 0]]) : Calls Try.prog 24 #[fuv A n c] W (TellsB false W) := by
  have h0 := fsound_any A n c ps W h.1 (by have := h.1.len; have := bk_len ps; rw [hb] at this; have e : [([3, 3, 0] : List UInt8)].length = 1 := rfl; omega) (s7_bits hb (by decide))
  rw [hb, show fuSound [[3, 3, 0]] = false by decide +kernel] at h0
  exact h0

theorem s7_vx (W : World) (A : Option Addr) (n c : Nat) (ps : List Part) (h : FuOK W A n c ps) (hb : bk ps = [[4, 0, 0]]) : Calls Try.prog 11 #[fuv A n c] W (TellsB false W) := by
  have h0 := fvalid_any A n c ps W h.1
  rw [hb, show fuValid [[4, 0, 0]] = false by decide +kernel] at h0
  exact h0

set_option maxRecDepth 100000 in
set_option maxHeartbeats 4000000 in
theorem sanity7_any (w : World) : Calls Try.prog 10 #[] w (TellsB true w) := by
  obtain ⟨i0, hi0, hz0, hz1, hz2⟩ := info_parts info_hit
  go_enter Try.func10, Try.ntmps10
  go_wp2_with fail
  have k1 : Below w.heap.size w (w.alloc (.cells #[.int .i64 2, .int .i64 0] 3)) := (Below.refl _ _).alloc (Nat.le_refl _) _
  have B1 : Below w.heap.size w (w.alloc (.cells #[.int .i64 2, .int .i64 0] 3)) := k1
  refine (fnew_any (some ⟨w.heap.size, 0, none⟩) 2 2 [2, 0] _ ((row_alloc w 3 [.int .i64 2, .int .i64 0]).reads rfl) (by omega)).mono ?_
  rintro e w2 ⟨Af, nf, cf, psf, rfl, okf2, hbf, h2⟩
  have B2 := B1.trans (h2.mono B1.size)
  rw [s7_f] at hbf
  have HBF := Lib.hid hbf
  clear hbf
  unfold fuv
  go_wp2_with (first
    | (with_reducible refine wpList_alloc_row (o := ⟨some 1, _, _, _, _, _⟩) rfl _ rfl [.slice none 0 0] (by kernel_rfl) ?_; intro w3 r3 s3 g3)
    | ((with_reducible refine wpList_at ⟨none, .store _ (.tmp 1) _, _, _, _, _⟩ ?_); refine wpList_store_all rfl _ _ _ rfl w2.heap.size rfl _ _ r3 [.slice Af nf cf] rfl (slice_one _ _ _) rfl (by kernel_rfl) ?_; intro w4 rf_4 g4; have k4 : Below w2.heap.size w2 w4 := below_kept (grown_below g3 (Nat.le_refl _) (by simp)) g4 (Nat.le_of_lt s3) (by rintro q hq; cases hq; exact Nat.le_refl _); have B4 := B2.trans (k4.mono B2.size); have okf_4 := okf2.on k4; have crf := rf_4.cell (j := 0) rfl; clear r3 g3 g4))
  have k5 : Below w4.heap.size w4 (w4.alloc (.cells #[.int .i64 17] 3)) := (Below.refl _ _).alloc (Nat.le_refl _) _
  have B5 := B4.trans (k5.mono B4.size)
  have okf_5 := okf_4.on k5
  have rf_5 := rf_4.on k5
  clear okf_4 rf_4
  have crf := rf_5.cell (j := 0) rfl
  refine (fnew_any (some ⟨w4.heap.size, 0, none⟩) 1 1 [17] _ ((row_alloc w4 3 [.int .i64 17]).reads rfl) (by omega)).mono ?_
  rintro e w6 ⟨Ax, nx, cx, psx, rfl, okx6, hbx, h6⟩
  have B6 := B5.trans (h6.mono B5.size)
  have okf_6 := okf_5.on h6
  have rf_6 := rf_5.on h6
  clear okf_5 rf_5
  have crf := rf_6.cell (j := 0) rfl
  clear hbx okx6
  unfold fuv
  go_wp2_with (first
    | (with_reducible refine wpList_alloc_row (o := ⟨some 3, _, _, _, _, _⟩) rfl _ rfl [.slice none 0 0] (by kernel_rfl) ?_; intro w7 r7 s7 g7)
    | ((with_reducible refine wpList_at ⟨none, .store _ (.tmp 3) _, _, _, _, _⟩ ?_); refine wpList_store_all rfl _ _ _ rfl w6.heap.size rfl _ _ r7 [.slice Ax nx cx] rfl (slice_one _ _ _) rfl (by kernel_rfl) ?_; intro w8 rx_8 g8; have k8 : Below w6.heap.size w6 w8 := below_kept (grown_below g7 (Nat.le_refl _) (by simp)) g8 (Nat.le_of_lt s7) (by rintro q hq; cases hq; exact Nat.le_refl _); have B8 := B6.trans (k8.mono B6.size); have okf_8 := okf_6.on k8; have rf_8 := rf_6.on k8; clear okf_6 rf_6; have crf := rf_8.cell (j := 0) rfl; have crx := rx_8.cell (j := 0) rfl; clear r7 g7 g8)
    | (refine wpList_valueW (o := ⟨some 27, _, _, _, _, _⟩) rfl _ (by exact exec_slice3 _ 40 47 _ _ _ rfl Try.underlying40 i0 _ hi0 hz0 (hv ⟨0, 0, false⟩) (hv ⟨0, 1, true⟩) (hv ⟨0, 1, true⟩) 3 hz1 (by omega) (by omega) rfl rfl rfl rfl rfl rfl) ?_))
  have k9 : Below w8.heap.size w8 (w8.alloc (.cells (hv ⟨0, 0, false⟩ ++ (hv ⟨0, 1, true⟩ ++ hv ⟨0, 1, true⟩)).toArray 47)) := (Below.refl _ _).alloc (Nat.le_refl _) _
  have B9 := B8.trans (k9.mono B8.size)
  have okf_9 := okf_8.on k9
  have rf_9 := rf_8.on k9
  have rx_9 := rx_8.on k9
  clear okf_8 rf_8 rx_8
  have crf := rf_9.cell (j := 0) rfl
  have crx := rx_9.cell (j := 0) rfl
  refine (fhits_any Af nf cf psf (some ⟨w8.heap.size, 0, none⟩) 3 3 [⟨0, 0, false⟩, ⟨0, 1, true⟩, ⟨0, 1, true⟩] _ okf_9 (s7_n okf_9 HBF.out (by decide)) (s7_l HBF.out (by decide)) ((row_alloc w8 47 (hv ⟨0, 0, false⟩ ++ (hv ⟨0, 1, true⟩ ++ hv ⟨0, 1, true⟩))).reads rfl) (by omega)).mono ?_
  rintro e w10 ⟨Ag, ng, cg, psg, rfl, okg10, hbg, h10⟩
  have B10 := B9.trans (h10.mono B9.size)
  have okf_10 := okf_9.on h10
  have rf_10 := rf_9.on h10
  have rx_10 := rx_9.on h10
  clear okf_9 rf_9 rx_9
  have crf := rf_10.cell (j := 0) rfl
  have crx := rx_10.cell (j := 0) rfl
  rw [HBF.out, s7_g] at hbg
  have HBG := Lib.hid hbg
  clear hbg
  unfold fuv
  go_wp2_with (first
    | (with_reducible refine wpList_alloc_row (o := ⟨some 5, _, _, _, _, _⟩) rfl _ rfl [.slice none 0 0] (by kernel_rfl) ?_; intro w11 r11 s11 g11)
    | ((with_reducible refine wpList_at ⟨none, .store _ (.tmp 5) _, _, _, _, _⟩ ?_); refine wpList_store_all rfl _ _ _ rfl w10.heap.size rfl _ _ r11 [.slice Ag ng cg] rfl (slice_one _ _ _) rfl (by kernel_rfl) ?_; intro w12 rg_12 g12; have k12 : Below w10.heap.size w10 w12 := below_kept (grown_below g11 (Nat.le_refl _) (by simp)) g12 (Nat.le_of_lt s11) (by rintro q hq; cases hq; exact Nat.le_refl _); have B12 := B10.trans (k12.mono B10.size); have okf_12 := okf_10.on k12; have rf_12 := rf_10.on k12; have rx_12 := rx_10.on k12; have okg_12 := okg10.on k12; clear okf_10 rf_10 rx_10; have crf := rf_12.cell (j := 0) rfl; have crx := rx_12.cell (j := 0) rfl; have crg := rg_12.cell (j := 0) rfl; clear r11 g11 g12)
    | (refine wpList_valueW (o := ⟨some 31, _, _, _, _, _⟩) rfl _ (by exact exec_slice1 _ 40 47 _ rfl Try.underlying40 i0 _ hi0 hz0 (hv ⟨0, 2, false⟩) hz1 (by decide) (by decide) rfl) ?_))
  have k13 : Below w12.heap.size w12 (w12.alloc (.cells (hv ⟨0, 2, false⟩).toArray 47)) := (Below.refl _ _).alloc (Nat.le_refl _) _
  have B13 := B12.trans (k13.mono B12.size)
  have okf_13 := okf_12.on k13
  have rf_13 := rf_12.on k13
  have rx_13 := rx_12.on k13
  have okg_13 := okg_12.on k13
  have rg_13 := rg_12.on k13
  clear okf_12 rf_12 rx_12 okg_12 rg_12
  have crf := rf_13.cell (j := 0) rfl
  have crx := rx_13.cell (j := 0) rfl
  have crg := rg_13.cell (j := 0) rfl
  refine (fhits_any Ag ng cg psg (some ⟨w12.heap.size, 0, none⟩) 1 1 [⟨0, 2, false⟩] _ okg_13 (s7_n okg_13 HBG.out (by decide)) (s7_l HBG.out (by decide)) ((row_alloc w12 47 (hv ⟨0, 2, false⟩)).reads rfl) (by omega)).mono ?_
  rintro e w14 ⟨Ah, nh, ch, psh, rfl, okh14, hbh, h14⟩
  have B14 := B13.trans (h14.mono B13.size)
  have okf_14 := okf_13.on h14
  have rf_14 := rf_13.on h14
  have rx_14 := rx_13.on h14
  have okg_14 := okg_13.on h14
  have rg_14 := rg_13.on h14
  clear okf_13 rf_13 rx_13 okg_13 rg_13
  have crf := rf_14.cell (j := 0) rfl
  have crx := rx_14.cell (j := 0) rfl
  have crg := rg_14.cell (j := 0) rfl
  rw [HBG.out, s7_h] at hbh
  have HBH := Lib.hid hbh
  clear hbh
  unfold fuv
  go_wp2_with (first
    | (with_reducible refine wpList_alloc_row (o := ⟨some 6, _, _, _, _, _⟩) rfl _ rfl [.slice none 0 0] (by kernel_rfl) ?_; intro w15 r15 s15 g15)
    | ((with_reducible refine wpList_at ⟨none, .store _ (.tmp 6) _, _, _, _, _⟩ ?_); refine wpList_store_all rfl _ _ _ rfl w14.heap.size rfl _ _ r15 [.slice Ah nh ch] rfl (slice_one _ _ _) rfl (by kernel_rfl) ?_; intro w16 rh_16 g16; have k16 : Below w14.heap.size w14 w16 := below_kept (grown_below g15 (Nat.le_refl _) (by simp)) g16 (Nat.le_of_lt s15) (by rintro q hq; cases hq; exact Nat.le_refl _); have B16 := B14.trans (k16.mono B14.size); have okf_16 := okf_14.on k16; have rf_16 := rf_14.on k16; have rx_16 := rx_14.on k16; have okg_16 := okg_14.on k16; have rg_16 := rg_14.on k16; have okh_16 := okh14.on k16; clear okf_14 rf_14 rx_14 okg_14 rg_14; have crf := rf_16.cell (j := 0) rfl; have crx := rx_16.cell (j := 0) rfl; have crg := rg_16.cell (j := 0) rfl; have crh := rh_16.cell (j := 0) rfl; clear r15 g15 g16))
  refine (s7_r1 _ Ag ng cg psg okg_16 HBG.out).mono ?_
  rintro e w17 ⟨rfl, h17⟩
  have B17 := B16.trans (h17.mono B16.size)
  have okf_17 := okf_16.on h17
  have rf_17 := rf_16.on h17
  have rx_17 := rx_16.on h17
  have okg_17 := okg_16.on h17
  have rg_17 := rg_16.on h17
  have okh_17 := okh_16.on h17
  have rh_17 := rh_16.on h17
  clear okf_16 rf_16 rx_16 okg_16 rg_16 okh_16 rh_16
  have crf := rf_17.cell (j := 0) rfl
  have crx := rx_17.cell (j := 0) rfl
  have crg := rg_17.cell (j := 0) rfl
  have crh := rh_17.cell (j := 0) rfl
  go_wp2_with fail
  refine (s7_r2 _ Ag ng cg psg okg_17 HBG.out).mono ?_
  rintro e w18 ⟨rfl, h18⟩
  have B18 := B17.trans (h18.mono B17.size)
  have okf_18 := okf_17.on h18
  have rf_18 := rf_17.on h18
  have rx_18 := rx_17.on h18
  have okg_18 := okg_17.on h18
  have rg_18 := rg_17.on h18
  have okh_18 := okh_17.on h18
  have rh_18 := rh_17.on h18
  clear okf_17 rf_17 rx_17 okg_17 rg_17 okh_17 rh_17
  have crf := rf_18.cell (j := 0) rfl
  have crx := rx_18.cell (j := 0) rfl
  have crg := rg_18.cell (j := 0) rfl
  have crh := rh_18.cell (j := 0) rfl
  go_wp2_with fail
  refine (s7_r3 _ Ag ng cg psg okg_18 HBG.out).mono ?_
  rintro e w19 ⟨rfl, h19⟩
  have B19 := B18.trans (h19.mono B18.size)
  have okf_19 := okf_18.on h19
  have rf_19 := rf_18.on h19
  have rx_19 := rx_18.on h19
  have okg_19 := okg_18.on h19
  have rg_19 := rg_18.on h19
  have okh_19 := okh_18.on h19
  have rh_19 := rh_18.on h19
  clear okf_18 rf_18 rx_18 okg_18 rg_18 okh_18 rh_18
  have crf := rf_19.cell (j := 0) rfl
  have crx := rx_19.cell (j := 0) rfl
  have crg := rg_19.cell (j := 0) rfl
  have crh := rh_19.cell (j := 0) rfl
  go_wp2_with fail
  refine (s7_w0 _ Af nf cf psf okf_19 HBF.out).mono ?_
  rintro e w20 ⟨rfl, h20⟩
  have B20 := B19.trans (h20.mono B19.size)
  have okf_20 := okf_19.on h20
  have rf_20 := rf_19.on h20
  have rx_20 := rx_19.on h20
  have okg_20 := okg_19.on h20
  have rg_20 := rg_19.on h20
  have okh_20 := okh_19.on h20
  have rh_20 := rh_19.on h20
  clear okf_19 rf_19 rx_19 okg_19 rg_19 okh_19 rh_19
  have crf := rf_20.cell (j := 0) rfl
  have crx := rx_20.cell (j := 0) rfl
  have crg := rg_20.cell (j := 0) rfl
  have crh := rh_20.cell (j := 0) rfl
  go_wp2_with fail
  refine (s7_w2 _ Af nf cf psf okf_20 HBF.out).mono ?_
  rintro e w21 ⟨rfl, h21⟩
  have B21 := B20.trans (h21.mono B20.size)
  have okf_21 := okf_20.on h21
  have rf_21 := rf_20.on h21
  have rx_21 := rx_20.on h21
  have okg_21 := okg_20.on h21
  have rg_21 := rg_20.on h21
  have okh_21 := okh_20.on h21
  have rh_21 := rh_20.on h21
  clear okf_20 rf_20 rx_20 okg_20 rg_20 okh_20 rh_20
  have crf := rf_21.cell (j := 0) rfl
  have crx := rx_21.cell (j := 0) rfl
  have crg := rg_21.cell (j := 0) rfl
  have crh := rh_21.cell (j := 0) rfl
  go_wp2_with fail
  refine (s7_lf _ Af nf cf psf okf_21 HBF.out).mono ?_
  rintro e w22 ⟨rfl, h22⟩
  have B22 := B21.trans (h22.mono B21.size)
  have okf_22 := okf_21.on h22
  have rf_22 := rf_21.on h22
  have rx_22 := rx_21.on h22
  have okg_22 := okg_21.on h22
  have rg_22 := rg_21.on h22
  have okh_22 := okh_21.on h22
  have rh_22 := rh_21.on h22
  clear okf_21 rf_21 rx_21 okg_21 rg_21 okh_21 rh_21
  have crf := rf_22.cell (j := 0) rfl
  have crx := rx_22.cell (j := 0) rfl
  have crg := rg_22.cell (j := 0) rfl
  have crh := rh_22.cell (j := 0) rfl
  go_wp2_with fail
  refine (s7_mf _ Af nf cf psf okf_22 HBF.out).mono ?_
  rintro e w23 ⟨rfl, h23⟩
  have B23 := B22.trans (h23.mono B22.size)
  have okf_23 := okf_22.on h23
  have rf_23 := rf_22.on h23
  have rx_23 := rx_22.on h23
  have okg_23 := okg_22.on h23
  have rg_23 := rg_22.on h23
  have okh_23 := okh_22.on h23
  have rh_23 := rh_22.on h23
  clear okf_22 rf_22 rx_22 okg_22 rg_22 okh_22 rh_22
  have crf := rf_23.cell (j := 0) rfl
  have crx := rx_23.cell (j := 0) rfl
  have crg := rg_23.cell (j := 0) rfl
  have crh := rh_23.cell (j := 0) rfl
  go_wp2_with fail
  refine (s7_lg _ Ag ng cg psg okg_23 HBG.out).mono ?_
  rintro e w24 ⟨rfl, h24⟩
  have B24 := B23.trans (h24.mono B23.size)
  have okf_24 := okf_23.on h24
  have rf_24 := rf_23.on h24
  have rx_24 := rx_23.on h24
  have okg_24 := okg_23.on h24
  have rg_24 := rg_23.on h24
  have okh_24 := okh_23.on h24
  have rh_24 := rh_23.on h24
  clear okf_23 rf_23 rx_23 okg_23 rg_23 okh_23 rh_23
  have crf := rf_24.cell (j := 0) rfl
  have crx := rx_24.cell (j := 0) rfl
  have crg := rg_24.cell (j := 0) rfl
  have crh := rh_24.cell (j := 0) rfl
  go_wp2_with fail
  refine (s7_mg _ Ag ng cg psg okg_24 HBG.out).mono ?_
  rintro e w25 ⟨rfl, h25⟩
  have B25 := B24.trans (h25.mono B24.size)
  have okf_25 := okf_24.on h25
  have rf_25 := rf_24.on h25
  have rx_25 := rx_24.on h25
  have okg_25 := okg_24.on h25
  have rg_25 := rg_24.on h25
  have okh_25 := okh_24.on h25
  have rh_25 := rh_24.on h25
  clear okf_24 rf_24 rx_24 okg_24 rg_24 okh_24 rh_24
  have crf := rf_25.cell (j := 0) rfl
  have crx := rx_25.cell (j := 0) rfl
  have crg := rg_25.cell (j := 0) rfl
  have crh := rh_25.cell (j := 0) rfl
  go_wp2_with fail
  refine (s7_lh _ Ah nh ch psh okh_25 HBH.out).mono ?_
  rintro e w26 ⟨rfl, h26⟩
  have B26 := B25.trans (h26.mono B25.size)
  have okf_26 := okf_25.on h26
  have rf_26 := rf_25.on h26
  have rx_26 := rx_25.on h26
  have okg_26 := okg_25.on h26
  have rg_26 := rg_25.on h26
  have okh_26 := okh_25.on h26
  have rh_26 := rh_25.on h26
  clear okf_25 rf_25 rx_25 okg_25 rg_25 okh_25 rh_25
  have crf := rf_26.cell (j := 0) rfl
  have crx := rx_26.cell (j := 0) rfl
  have crg := rg_26.cell (j := 0) rfl
  have crh := rh_26.cell (j := 0) rfl
  go_wp2_with fail
  refine (s7_vh _ Ah nh ch psh okh_26 HBH.out).mono ?_
  rintro e w27 ⟨rfl, h27⟩
  have B27 := B26.trans (h27.mono B26.size)
  have okf_27 := okf_26.on h27
  have rf_27 := rf_26.on h27
  have rx_27 := rx_26.on h27
  have okg_27 := okg_26.on h27
  have rg_27 := rg_26.on h27
  have okh_27 := okh_26.on h27
  have rh_27 := rh_26.on h27
  clear okf_26 rf_26 rx_26 okg_26 rg_26 okh_26 rh_26
  have crf := rf_27.cell (j := 0) rfl
  have crx := rx_27.cell (j := 0) rfl
  have crg := rg_27.cell (j := 0) rfl
  have crh := rh_27.cell (j := 0) rfl
  go_wp2_with fail
  refine (s7_sh _ Ah nh ch psh okh_27 HBH.out).mono ?_
  rintro e w28 ⟨rfl, h28⟩
  have B28 := B27.trans (h28.mono B27.size)
  have okf_28 := okf_27.on h28
  have rf_28 := rf_27.on h28
  have rx_28 := rx_27.on h28
  have okg_28 := okg_27.on h28
  have rg_28 := rg_27.on h28
  have okh_28 := okh_27.on h28
  have rh_28 := rh_27.on h28
  clear okf_27 rf_27 rx_27 okg_27 rg_27 okh_27 rh_27
  have crf := rf_28.cell (j := 0) rfl
  have crx := rx_28.cell (j := 0) rfl
  have crg := rg_28.cell (j := 0) rfl
  have crh := rh_28.cell (j := 0) rfl
  go_wp2_with fail
  have k29 : Below w28.heap.size w28 (w28.alloc (.cells #[.int .u8 3, .int .u8 3, .int .u8 0] 5)) := (Below.refl _ _).alloc (Nat.le_refl _) _
  have B29 := B28.trans (k29.mono B28.size)
  have okf_29 := okf_28.on k29
  have rf_29 := rf_28.on k29
  have rx_29 := rx_28.on k29
  have okg_29 := okg_28.on k29
  have rg_29 := rg_28.on k29
  have okh_29 := okh_28.on k29
  have rh_29 := rh_28.on k29
  clear okf_28 rf_28 rx_28 okg_28 rg_28 okh_28 rh_28
  have crf := rf_29.cell (j := 0) rfl
  have crx := rx_29.cell (j := 0) rfl
  have crg := rg_29.cell (j := 0) rfl
  have crh := rh_29.cell (j := 0) rfl
  have k30 : Below (w28.alloc (.cells #[.int .u8 3, .int .u8 3, .int .u8 0] 5)).heap.size (w28.alloc (.cells #[.int .u8 3, .int .u8 3, .int .u8 0] 5)) ((w28.alloc (.cells #[.int .u8 3, .int .u8 3, .int .u8 0] 5)).alloc (.cells #[.slice (some ⟨w28.heap.size, 0, none⟩) 3 3] 26)) := (Below.refl _ _).alloc (Nat.le_refl _) _
  have B30 := B29.trans (k30.mono B29.size)
  have okf_30 := okf_29.on k30
  have rf_30 := rf_29.on k30
  have rx_30 := rx_29.on k30
  have okg_30 := okg_29.on k30
  have rg_30 := rg_29.on k30
  have okh_30 := okh_29.on k30
  have rh_30 := rh_29.on k30
  clear okf_29 rf_29 rx_29 okg_29 rg_29 okh_29 rh_29
  have crf := rf_30.cell (j := 0) rfl
  have crx := rx_30.cell (j := 0) rfl
  have crg := rg_30.cell (j := 0) rfl
  have crh := rh_30.cell (j := 0) rfl
  refine (s7_sx _ (some ⟨w28.heap.size + 1, 0, none⟩) 1 1 _ (s7_lit w28 3 3 0 3 3 0 rfl rfl rfl) rfl).mono ?_
  rintro e w31 ⟨rfl, h31⟩
  have B31 := B30.trans (h31.mono B30.size)
  have okf_31 := okf_30.on h31
  have rf_31 := rf_30.on h31
  have rx_31 := rx_30.on h31
  have okg_31 := okg_30.on h31
  have rg_31 := rg_30.on h31
  have okh_31 := okh_30.on h31
  have rh_31 := rh_30.on h31
  clear okf_30 rf_30 rx_30 okg_30 rg_30 okh_30 rh_30
  have crf := rf_31.cell (j := 0) rfl
  have crx := rx_31.cell (j := 0) rfl
  have crg := rg_31.cell (j := 0) rfl
  have crh := rh_31.cell (j := 0) rfl
  go_wp2_with fail
  have k32 : Below w31.heap.size w31 (w31.alloc (.cells #[.int .u8 4, .int .u8 0, .int .u8 0] 5)) := (Below.refl _ _).alloc (Nat.le_refl _) _
  have B32 := B31.trans (k32.mono B31.size)
  have okf_32 := okf_31.on k32
  have rf_32 := rf_31.on k32
  have rx_32 := rx_31.on k32
  have okg_32 := okg_31.on k32
  have rg_32 := rg_31.on k32
  have okh_32 := okh_31.on k32
  have rh_32 := rh_31.on k32
  clear okf_31 rf_31 rx_31 okg_31 rg_31 okh_31 rh_31
  have crf := rf_32.cell (j := 0) rfl
  have crx := rx_32.cell (j := 0) rfl
  have crg := rg_32.cell (j := 0) rfl
  have crh := rh_32.cell (j := 0) rfl
  have k33 : Below (w31.alloc (.cells #[.int .u8 4, .int .u8 0, .int .u8 0] 5)).heap.size (w31.alloc (.cells #[.int .u8 4, .int .u8 0, .int .u8 0] 5)) ((w31.alloc (.cells #[.int .u8 4, .int .u8 0, .int .u8 0] 5)).alloc (.cells #[.slice (some ⟨w31.heap.size, 0, none⟩) 3 3] 26)) := (Below.refl _ _).alloc (Nat.le_refl _) _
  have B33 := B32.trans (k33.mono B32.size)
  have okf_33 := okf_32.on k33
  have rf_33 := rf_32.on k33
  have rx_33 := rx_32.on k33
  have okg_33 := okg_32.on k33
  have rg_33 := rg_32.on k33
  have okh_33 := okh_32.on k33
  have rh_33 := rh_32.on k33
  clear okf_32 rf_32 rx_32 okg_32 rg_32 okh_32 rh_32
  have crf := rf_33.cell (j := 0) rfl
  have crx := rx_33.cell (j := 0) rfl
  have crg := rg_33.cell (j := 0) rfl
  have crh := rh_33.cell (j := 0) rfl
  refine (s7_vx _ (some ⟨w31.heap.size + 1, 0, none⟩) 1 1 _ (s7_lit w31 4 0 0 4 0 0 rfl rfl rfl) rfl).mono ?_
  rintro e w34 ⟨rfl, h34⟩
  have B34 := B33.trans (h34.mono B33.size)
  have okf_34 := okf_33.on h34
  have rf_34 := rf_33.on h34
  have rx_34 := rx_33.on h34
  have okg_34 := okg_33.on h34
  have rg_34 := rg_33.on h34
  have okh_34 := okh_33.on h34
  have rh_34 := rh_33.on h34
  clear okf_33 rf_33 rx_33 okg_33 rg_33 okh_33 rh_33
  have crf := rf_34.cell (j := 0) rfl
  have crx := rx_34.cell (j := 0) rfl
  have crg := rg_34.cell (j := 0) rfl
  have crh := rh_34.cell (j := 0) rfl
  go_wp2_with fail
  go_ret
  exact ⟨rfl, B34⟩
end Go.Proofs.Ytliaapgnknbmbaa
