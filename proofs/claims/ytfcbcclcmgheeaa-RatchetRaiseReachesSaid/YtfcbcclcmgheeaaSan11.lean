/-
  What the law file's sanity and few return: contracts by walks. No condition.
-/
import Derived.Test.YtfcbcclcmgheeaaRtY
set_option linter.unusedSimpArgs false
set_option linter.unusedVariables false
namespace Go.Proofs.Ytfcbcclcmgheeaa
open Go.RowKit

theorem RtRun.is {R : RtRun} {n e : Int} {d : Bool} {m : Nat} (h1 : R.n = n) (h2 : R.e = e) (h3 : R.done = d) (h4 : R.many = m) : R = ⟨R.f, n, e, d, m⟩ := by cases R; simp only at h1 h2 h3 h4; subst h1 h2 h3 h4; rfl
def s11A : List UInt8 := [2, 2, 2, 0, 2, 0, 0, 0, 0]
def s11B : List UInt8 := [3, 3, 0]
theorem s11_a : ∃ f, rtExec ⟨false, 0, []⟩ 3 (rtCells s11A false) = ⟨f, 1, 0, true, 9⟩ := ⟨_, RtRun.is (by decide +kernel) (by decide +kernel) (by decide +kernel) (by decide +kernel)⟩
theorem s11_b : ∃ f, rtExec ⟨true, 3, []⟩ 3 (rtCells s11A false) = ⟨f, 3, 0, true, 21⟩ := ⟨_, RtRun.is (by decide +kernel) (by decide +kernel) (by decide +kernel) (by decide +kernel)⟩
theorem s11_c : ∃ f m, rtExec ⟨true, 1, []⟩ 1 (rtCells s11B false) = ⟨f, 0, 12, true, m⟩ := ⟨_, _, RtRun.is (by decide +kernel) (by decide +kernel) (by decide +kernel) rfl⟩
theorem box9_row (w : World) (a b c d e f g h i : Int) (t : TypeId) : Row (w.alloc (.cells #[.int .u8 a, .int .u8 b, .int .u8 c, .int .u8 d, .int .u8 e, .int .u8 f, .int .u8 g, .int .u8 h, .int .u8 i] t)) w.heap.size t [.int .u8 a, .int .u8 b, .int .u8 c, .int .u8 d, .int .u8 e, .int .u8 f, .int .u8 g, .int .u8 h, .int .u8 i] := row_alloc w t [.int .u8 a, .int .u8 b, .int .u8 c, .int .u8 d, .int .u8 e, .int .u8 f, .int .u8 g, .int .u8 h, .int .u8 i]
theorem box3_row (w : World) (a b c : Int) (t : TypeId) : Row (w.alloc (.cells #[.int .u8 a, .int .u8 b, .int .u8 c] t)) w.heap.size t [.int .u8 a, .int .u8 b, .int .u8 c] := row_alloc w t [.int .u8 a, .int .u8 b, .int .u8 c]
theorem load_out {w : World} {g : Nat} {r : Rn} {ρ : Operand → Value} {o : Oper} (x : Operand) (ho : o.op = .load 30 x) (hx : ρ x = .pointer (some ⟨g, 1, none⟩)) {e : TypeId} (hr : Row w g e r.cs) :
    (execOp ρ o).run Try.prog w = .ok (.value (.agg r.o.cs.toArray)) w := exec_load w _ x ho ⟨g, 1, none⟩ hx r.o.cs (Row.part hr (pre := [.slice r.A r.n r.c]) (post := [.bool r.done, .int .i64 r.many, .bool r.bad]) rfl rfl) _ Try.underlying30 rfl (by kernel_rfl)
set_option maxRecDepth 100000 in
set_option maxHeartbeats 4000000 in
theorem san11_any (w : World) : Calls Try.prog 9 #[] w (GivesX (.bool true) w) := by
  obtain ⟨fA, hfA⟩ := s11_a
  obtain ⟨fB, hfB⟩ := s11_b
  obtain ⟨fC, mC, hfC⟩ := s11_c
  have HEQ : ∀ (w : World) (ρ : Operand → Value) (o : Oper) (x y : Operand) (a : RtO), o.op = .binOp .eql 30 x y 30 → ρ x = .agg a.cs.toArray → ρ y = .agg a.cs.toArray → (execOp ρ o).run Try.prog w = .ok (.value (.bool true)) w := fun w ρ o x y a h1 h2 h3 => by
    rw [← loEq_self a]; exact exec_eqlL w x y h1 a a h2 h3
  have hB0 : Below w.heap.size w w := Below.refl _ _
  go_enter Try.func9, Try.ntmps9
  go_wp2_with fail
  have baw : Below w.heap.size w (w.alloc (.cells #[.int .u8 2, .int .u8 2, .int .u8 2, .int .u8 0, .int .u8 2, .int .u8 0, .int .u8 0, .int .u8 0, .int .u8 0] 5)) := (Below.refl _ _).alloc (Nat.le_refl _) _
  have raw := box9_row w 2 2 2 0 2 0 0 0 0 5
  have saw := baw.size
  have B_aw := hB0.trans (baw.mono hB0.size)
  refine (cells11_any _ 9 9 s11A false _ (raw.reads rfl) (by omega)).mono ?_
  rintro e w1 ⟨A1, c1, p1, rfl, fa, hp1, hi1, h1⟩
  have B1 := B_aw.trans (h1.mono B_aw.size)
  have sz1 := h1.size
  have hnfa := fa.in_
  go_wp2_with (first
    | (with_reducible refine wpList_alloc_row (o := ⟨some 1, _, _, _, _, _⟩) rfl _ rfl zeroF zero_fu ?_; intro w2 r2 s2 g2)
    | ((with_reducible refine wpList_at ⟨none, .store _ (.tmp 1) _, _, _, _, _⟩ ?_); refine wpList_store_all rfl _ _ _ rfl w1.heap.size rfl _ _ r2 [.slice A1 1 c1] rfl (slice_one _ _ _) rfl (by kernel_rfl) ?_; intro w3 vfa_3 g3; have k3 : Below w1.heap.size w1 w3 := below_kept (grown_below g2 (Nat.le_refl _) (by simp)) g3 (Nat.le_of_lt s2) (by rintro q hq; cases hq; exact Nat.le_refl _); have B3 := B1.trans (k3.mono B1.size); have fa_3 := fa.on k3; clear r2 g2 g3; have s3 := vfa_3.lt)
    | ((with_reducible refine wpList_at ⟨some 16, _, _, _, _, _⟩ ?_); refine wpList_valueG rfl _ (by exact exec_loadF1 _ _ rfl (w1.heap.size) rfl A1 1 c1 vfa_3) ?_))
  have hx4 := exec_any (fun _ => True) A1 c1 p1 (rtCells s11A false) 3 (by omega) (rtCells_len _ _) (⟨false, 0, none, 0, 0⟩ : Se) [] _ fa_3 hp1 (by exact ⟨fun _ _ _ => trivial, fun _ _ _ _ _ => trivial⟩) Reads.nil_
  rw [show rtExec (Se.m (⟨false, 0, none, 0, 0⟩ : Se) []) 3 (rtCells s11A false) = ⟨fA, 1, 0, true, 9⟩ from hfA] at hx4
  refine (hx4).mono ?_
  rintro e w4 ⟨A4, n4, c4, p4, rfl, hk4, hb4, hi4, h4⟩
  have B4 := B3.trans (h4.mono B3.size)
  have fa_4 := fa_3.on h4
  have vfa_4 := vfa_3.on h4
  clear fa_3 vfa_3
  have sz4 := h4.size
  go_wp2_with (first
    | (with_reducible refine wpList_alloc_row (o := ⟨some 3, _, _, _, _, _⟩) rfl _ rfl zeroRN zero_rn ?_; intro w5 r5 s5 g5)
    | ((with_reducible refine wpList_at ⟨none, .store _ (.tmp 3) _, _, _, _, _⟩ ?_); refine wpList_store_all rfl _ _ _ rfl w4.heap.size rfl _ _ r5 ((⟨A4, n4, c4, ⟨1, 0⟩, true, ((9 : Nat) : Int), false⟩ : Rn).cs) rfl ((⟨A4, n4, c4, ⟨1, 0⟩, true, ((9 : Nat) : Int), false⟩ : Rn).cs_one) rfl (by kernel_rfl) ?_; intro w6 ra_6 g6; have k6 : Below w4.heap.size w4 w6 := below_kept (grown_below g5 (Nat.le_refl _) (by simp)) g6 (Nat.le_of_lt s5) (by rintro q hq; cases hq; exact Nat.le_refl _); have B6 := B4.trans (k6.mono B4.size); have fa_6 := fa_4.on k6; have vfa_6 := vfa_4.on k6; clear fa_4 vfa_4; clear r5 g5 g6; have s6 := ra_6.lt; have cra0 := ra_6.cell (j := 0) rfl; have cra1 := ra_6.cell (j := 1) rfl; have cra2 := ra_6.cell (j := 2) rfl; have cra3 := ra_6.cell (j := 3) rfl; have cra4 := ra_6.cell (j := 4) rfl; have cra5 := ra_6.cell (j := 5) rfl)
    | ((with_reducible refine wpList_at ⟨some 20, _, _, _, _, _⟩ ?_); refine wpList_valueG rfl _ (by exact exec_loadF1 _ _ rfl (w1.heap.size) rfl A1 1 c1 vfa_6) ?_))
  have hx7 := exec_any (fun _ => True) A1 c1 p1 (rtCells s11A false) 3 (by omega) (rtCells_len _ _) (⟨true, 3, none, 0, 0⟩ : Se) [] _ fa_6 hp1 (by exact ⟨fun _ _ _ => trivial, fun _ _ _ _ _ => trivial⟩) Reads.nil_
  rw [show rtExec (Se.m (⟨true, 3, none, 0, 0⟩ : Se) []) 3 (rtCells s11A false) = ⟨fB, 3, 0, true, 21⟩ from hfB] at hx7
  refine (hx7).mono ?_
  rintro e w7 ⟨A7, n7, c7, p7, rfl, hk7, hb7, hi7, h7⟩
  have B7 := B6.trans (h7.mono B6.size)
  have fa_7 := fa_6.on h7
  have vfa_7 := vfa_6.on h7
  have ra_7 := ra_6.on h7
  clear fa_6 vfa_6 ra_6
  have cra0 := ra_7.cell (j := 0) rfl
  have cra1 := ra_7.cell (j := 1) rfl
  have cra2 := ra_7.cell (j := 2) rfl
  have cra3 := ra_7.cell (j := 3) rfl
  have cra4 := ra_7.cell (j := 4) rfl
  have cra5 := ra_7.cell (j := 5) rfl
  have sz7 := h7.size
  go_wp2_with (first
    | (with_reducible refine wpList_alloc_row (o := ⟨some 4, _, _, _, _, _⟩) rfl _ rfl zeroRN zero_rn ?_; intro w8 r8 s8 g8)
    | ((with_reducible refine wpList_at ⟨none, .store _ (.tmp 4) _, _, _, _, _⟩ ?_); refine wpList_store_all rfl _ _ _ rfl w7.heap.size rfl _ _ r8 ((⟨A7, n7, c7, ⟨3, 0⟩, true, ((21 : Nat) : Int), false⟩ : Rn).cs) rfl ((⟨A7, n7, c7, ⟨3, 0⟩, true, ((21 : Nat) : Int), false⟩ : Rn).cs_one) rfl (by kernel_rfl) ?_; intro w9 rb_9 g9; have k9 : Below w7.heap.size w7 w9 := below_kept (grown_below g8 (Nat.le_refl _) (by simp)) g9 (Nat.le_of_lt s8) (by rintro q hq; cases hq; exact Nat.le_refl _); have B9 := B7.trans (k9.mono B7.size); have fa_9 := fa_7.on k9; have vfa_9 := vfa_7.on k9; have ra_9 := ra_7.on k9; clear fa_7 vfa_7 ra_7; have cra0 := ra_9.cell (j := 0) rfl; have cra1 := ra_9.cell (j := 1) rfl; have cra2 := ra_9.cell (j := 2) rfl; have cra3 := ra_9.cell (j := 3) rfl; have cra4 := ra_9.cell (j := 4) rfl; have cra5 := ra_9.cell (j := 5) rfl; clear r8 g8 g9; have s9 := rb_9.lt; have crb0 := rb_9.cell (j := 0) rfl; have crb1 := rb_9.cell (j := 1) rfl; have crb2 := rb_9.cell (j := 2) rfl; have crb3 := rb_9.cell (j := 3) rfl; have crb4 := rb_9.cell (j := 4) rfl; have crb5 := rb_9.cell (j := 5) rfl))
  have baw9 : Below w9.heap.size w9 (w9.alloc (.cells #[.int .u8 3, .int .u8 3, .int .u8 0] 5)) := (Below.refl _ _).alloc (Nat.le_refl _) _
  have raw9 := box3_row w9 3 3 0 5
  have saw9 := baw9.size
  have fa_aw9 := fa_9.on baw9
  have vfa_aw9 := vfa_9.on baw9
  have ra_aw9 := ra_9.on baw9
  have rb_aw9 := rb_9.on baw9
  have B_aw9 := B9.trans (baw9.mono B9.size)
  refine (cells11_any _ 3 3 s11B false _ (raw9.reads rfl) (by omega)).mono ?_
  rintro e w10 ⟨A10, c10, p10, rfl, fc, hp10, hi10, h10⟩
  have B10 := B_aw9.trans (h10.mono B_aw9.size)
  have fa_10 := fa_aw9.on h10
  have vfa_10 := vfa_aw9.on h10
  have ra_10 := ra_aw9.on h10
  have rb_10 := rb_aw9.on h10
  clear fa_aw9 vfa_aw9 ra_aw9 rb_aw9
  have cra0 := ra_10.cell (j := 0) rfl
  have cra1 := ra_10.cell (j := 1) rfl
  have cra2 := ra_10.cell (j := 2) rfl
  have cra3 := ra_10.cell (j := 3) rfl
  have cra4 := ra_10.cell (j := 4) rfl
  have cra5 := ra_10.cell (j := 5) rfl
  have crb0 := rb_10.cell (j := 0) rfl
  have crb1 := rb_10.cell (j := 1) rfl
  have crb2 := rb_10.cell (j := 2) rfl
  have crb3 := rb_10.cell (j := 3) rfl
  have crb4 := rb_10.cell (j := 4) rfl
  have crb5 := rb_10.cell (j := 5) rfl
  have sz10 := h10.size
  have hnfc := fc.in_
  go_wp2_with (first
    | (with_reducible refine wpList_alloc_row (o := ⟨some 5, _, _, _, _, _⟩) rfl _ rfl zeroF zero_fu ?_; intro w11 r11 s11 g11)
    | ((with_reducible refine wpList_at ⟨none, .store _ (.tmp 5) _, _, _, _, _⟩ ?_); refine wpList_store_all rfl _ _ _ rfl w10.heap.size rfl _ _ r11 [.slice A10 1 c10] rfl (slice_one _ _ _) rfl (by kernel_rfl) ?_; intro w12 vfc_12 g12; have k12 : Below w10.heap.size w10 w12 := below_kept (grown_below g11 (Nat.le_refl _) (by simp)) g12 (Nat.le_of_lt s11) (by rintro q hq; cases hq; exact Nat.le_refl _); have B12 := B10.trans (k12.mono B10.size); have fa_12 := fa_10.on k12; have vfa_12 := vfa_10.on k12; have ra_12 := ra_10.on k12; have rb_12 := rb_10.on k12; have fc_12 := fc.on k12; clear fa_10 vfa_10 ra_10 rb_10; have cra0 := ra_12.cell (j := 0) rfl; have cra1 := ra_12.cell (j := 1) rfl; have cra2 := ra_12.cell (j := 2) rfl; have cra3 := ra_12.cell (j := 3) rfl; have cra4 := ra_12.cell (j := 4) rfl; have cra5 := ra_12.cell (j := 5) rfl; have crb0 := rb_12.cell (j := 0) rfl; have crb1 := rb_12.cell (j := 1) rfl; have crb2 := rb_12.cell (j := 2) rfl; have crb3 := rb_12.cell (j := 3) rfl; have crb4 := rb_12.cell (j := 4) rfl; have crb5 := rb_12.cell (j := 5) rfl; clear r11 g11 g12; have s12 := vfc_12.lt)
    | ((with_reducible refine wpList_at ⟨some 29, _, _, _, _, _⟩ ?_); refine wpList_valueG rfl _ (by exact exec_loadF1 _ _ rfl (w10.heap.size) rfl A10 1 c10 vfc_12) ?_))
  have hx13 := exec_any (fun _ => True) A10 c10 p10 (rtCells s11B false) 1 (by omega) (rtCells_len _ _) (⟨true, 1, none, 0, 0⟩ : Se) [] _ fc_12 hp10 (by exact ⟨fun _ _ _ => trivial, fun _ _ _ _ _ => trivial⟩) Reads.nil_
  rw [show rtExec (Se.m (⟨true, 1, none, 0, 0⟩ : Se) []) 1 (rtCells s11B false) = ⟨fC, 0, 12, true, mC⟩ from hfC] at hx13
  refine (hx13).mono ?_
  rintro e w13 ⟨A13, n13, c13, p13, rfl, hk13, hb13, hi13, h13⟩
  have B13 := B12.trans (h13.mono B12.size)
  have fa_13 := fa_12.on h13
  have vfa_13 := vfa_12.on h13
  have ra_13 := ra_12.on h13
  have rb_13 := rb_12.on h13
  have fc_13 := fc_12.on h13
  have vfc_13 := vfc_12.on h13
  clear fa_12 vfa_12 ra_12 rb_12 fc_12 vfc_12
  have cra0 := ra_13.cell (j := 0) rfl
  have cra1 := ra_13.cell (j := 1) rfl
  have cra2 := ra_13.cell (j := 2) rfl
  have cra3 := ra_13.cell (j := 3) rfl
  have cra4 := ra_13.cell (j := 4) rfl
  have cra5 := ra_13.cell (j := 5) rfl
  have crb0 := rb_13.cell (j := 0) rfl
  have crb1 := rb_13.cell (j := 1) rfl
  have crb2 := rb_13.cell (j := 2) rfl
  have crb3 := rb_13.cell (j := 3) rfl
  have crb4 := rb_13.cell (j := 4) rfl
  have crb5 := rb_13.cell (j := 5) rfl
  have sz13 := h13.size
  go_wp2_with (first
    | (with_reducible refine wpList_alloc_row (o := ⟨some 7, _, _, _, _, _⟩) rfl _ rfl zeroRN zero_rn ?_; intro w14 r14 s14 g14)
    | ((with_reducible refine wpList_at ⟨none, .store _ (.tmp 7) _, _, _, _, _⟩ ?_); refine wpList_store_all rfl _ _ _ rfl w13.heap.size rfl _ _ r14 ((⟨A13, n13, c13, ⟨0, 12⟩, true, (mC : Int), false⟩ : Rn).cs) rfl ((⟨A13, n13, c13, ⟨0, 12⟩, true, (mC : Int), false⟩ : Rn).cs_one) rfl (by kernel_rfl) ?_; intro w15 rc_15 g15; have k15 : Below w13.heap.size w13 w15 := below_kept (grown_below g14 (Nat.le_refl _) (by simp)) g15 (Nat.le_of_lt s14) (by rintro q hq; cases hq; exact Nat.le_refl _); have B15 := B13.trans (k15.mono B13.size); have fa_15 := fa_13.on k15; have vfa_15 := vfa_13.on k15; have ra_15 := ra_13.on k15; have rb_15 := rb_13.on k15; have fc_15 := fc_13.on k15; have vfc_15 := vfc_13.on k15; clear fa_13 vfa_13 ra_13 rb_13 fc_13 vfc_13; have cra0 := ra_15.cell (j := 0) rfl; have cra1 := ra_15.cell (j := 1) rfl; have cra2 := ra_15.cell (j := 2) rfl; have cra3 := ra_15.cell (j := 3) rfl; have cra4 := ra_15.cell (j := 4) rfl; have cra5 := ra_15.cell (j := 5) rfl; have crb0 := rb_15.cell (j := 0) rfl; have crb1 := rb_15.cell (j := 1) rfl; have crb2 := rb_15.cell (j := 2) rfl; have crb3 := rb_15.cell (j := 3) rfl; have crb4 := rb_15.cell (j := 4) rfl; have crb5 := rb_15.cell (j := 5) rfl; clear r14 g14 g15; have s15 := rc_15.lt; have crc0 := rc_15.cell (j := 0) rfl; have crc1 := rc_15.cell (j := 1) rfl; have crc2 := rc_15.cell (j := 2) rfl; have crc3 := rc_15.cell (j := 3) rfl; have crc4 := rc_15.cell (j := 4) rfl; have crc5 := rc_15.cell (j := 5) rfl))
  have HLV := fun W => Lib.hid (rLevel_any 4 1 none 0 0 [] W (Nat.le_refl _) Reads.nil_)
  rw [show rtLvA 4 1 (rxs []) = (noAc, ⟨0, 1⟩, true) from rfl] at HLV
  refine ((HLV _).out).mono ?_
  rintro e w16 ⟨rfl, h16⟩
  have B16 := B15.trans (h16.mono B15.size)
  have fa_16 := fa_15.on h16
  have vfa_16 := vfa_15.on h16
  have ra_16 := ra_15.on h16
  have rb_16 := rb_15.on h16
  have fc_16 := fc_15.on h16
  have vfc_16 := vfc_15.on h16
  have rc_16 := rc_15.on h16
  clear fa_15 vfa_15 ra_15 rb_15 fc_15 vfc_15 rc_15
  have cra0 := ra_16.cell (j := 0) rfl
  have cra1 := ra_16.cell (j := 1) rfl
  have cra2 := ra_16.cell (j := 2) rfl
  have cra3 := ra_16.cell (j := 3) rfl
  have cra4 := ra_16.cell (j := 4) rfl
  have cra5 := ra_16.cell (j := 5) rfl
  have crb0 := rb_16.cell (j := 0) rfl
  have crb1 := rb_16.cell (j := 1) rfl
  have crb2 := rb_16.cell (j := 2) rfl
  have crb3 := rb_16.cell (j := 3) rfl
  have crb4 := rb_16.cell (j := 4) rfl
  have crb5 := rb_16.cell (j := 5) rfl
  have crc0 := rc_16.cell (j := 0) rfl
  have crc1 := rc_16.cell (j := 1) rfl
  have crc2 := rc_16.cell (j := 2) rfl
  have crc3 := rc_16.cell (j := 3) rfl
  have crc4 := rc_16.cell (j := 4) rfl
  have crc5 := rc_16.cell (j := 5) rfl
  have sz16 := h16.size
  go_wp2_with (first
    | (with_reducible refine wpList_alloc_row (o := ⟨some 8, _, _, _, _, _⟩) rfl _ rfl zeroA zero_ac ?_; intro w17 za_17 s17 g17; have k17 : Below w16.heap.size w16 w17 := grown_below g17 (Nat.le_refl _) (by simp); have B17 := B16.trans (k17.mono B16.size); have fa_17 := fa_16.on k17; have vfa_17 := vfa_16.on k17; have ra_17 := ra_16.on k17; have rb_17 := rb_16.on k17; have fc_17 := fc_16.on k17; have vfc_17 := vfc_16.on k17; have rc_17 := rc_16.on k17; clear fa_16 vfa_16 ra_16 rb_16 fc_16 vfc_16 rc_16; have cra0 := ra_17.cell (j := 0) rfl; have cra1 := ra_17.cell (j := 1) rfl; have cra2 := ra_17.cell (j := 2) rfl; have cra3 := ra_17.cell (j := 3) rfl; have cra4 := ra_17.cell (j := 4) rfl; have cra5 := ra_17.cell (j := 5) rfl; have crb0 := rb_17.cell (j := 0) rfl; have crb1 := rb_17.cell (j := 1) rfl; have crb2 := rb_17.cell (j := 2) rfl; have crb3 := rb_17.cell (j := 3) rfl; have crb4 := rb_17.cell (j := 4) rfl; have crb5 := rb_17.cell (j := 5) rfl; have crc0 := rc_17.cell (j := 0) rfl; have crc1 := rc_17.cell (j := 1) rfl; have crc2 := rc_17.cell (j := 2) rfl; have crc3 := rc_17.cell (j := 3) rfl; have crc4 := rc_17.cell (j := 4) rfl; have crc5 := rc_17.cell (j := 5) rfl)
    | (with_reducible refine wpList_alloc_row (o := ⟨some 9, _, _, _, _, _⟩) rfl _ rfl zeroLO zero_lo ?_; intro w18 zo_18 s18 g18; have k18 : Below w17.heap.size w17 w18 := grown_below g18 (Nat.le_refl _) (by simp); have B18 := B17.trans (k18.mono B17.size); have fa_18 := fa_17.on k18; have vfa_18 := vfa_17.on k18; have ra_18 := ra_17.on k18; have rb_18 := rb_17.on k18; have fc_18 := fc_17.on k18; have vfc_18 := vfc_17.on k18; have rc_18 := rc_17.on k18; have za_18 := za_17.on k18; clear fa_17 vfa_17 ra_17 rb_17 fc_17 vfc_17 rc_17 za_17; have cra0 := ra_18.cell (j := 0) rfl; have cra1 := ra_18.cell (j := 1) rfl; have cra2 := ra_18.cell (j := 2) rfl; have cra3 := ra_18.cell (j := 3) rfl; have cra4 := ra_18.cell (j := 4) rfl; have cra5 := ra_18.cell (j := 5) rfl; have crb0 := rb_18.cell (j := 0) rfl; have crb1 := rb_18.cell (j := 1) rfl; have crb2 := rb_18.cell (j := 2) rfl; have crb3 := rb_18.cell (j := 3) rfl; have crb4 := rb_18.cell (j := 4) rfl; have crb5 := rb_18.cell (j := 5) rfl; have crc0 := rc_18.cell (j := 0) rfl; have crc1 := rc_18.cell (j := 1) rfl; have crc2 := rc_18.cell (j := 2) rfl; have crc3 := rc_18.cell (j := 3) rfl; have crc4 := rc_18.cell (j := 4) rfl; have crc5 := rc_18.cell (j := 5) rfl)
    | ((with_reducible refine wpList_at ⟨none, .store _ (.tmp 8) _, _, _, _, _⟩ ?_); refine wpList_store_all rfl _ _ _ rfl (w16.heap.size) rfl _ _ za_18 (noAc.cs) rfl (noAc.cs_one) rfl (by kernel_rfl) ?_; intro w19 za_19 g19; have fa_19 := fa_18.apart hnfa g19 (Nat.not_lt.2 (by omega)); have vfa_19 := vfa_18.kept g19 (by simp; omega); have ra_19 := ra_18.kept g19 (by simp; omega); have rb_19 := rb_18.kept g19 (by simp; omega); have fc_19 := fc_18.apart hnfc g19 (Nat.not_lt.2 (by omega)); have vfc_19 := vfc_18.kept g19 (by simp; omega); have rc_19 := rc_18.kept g19 (by simp; omega); have zo_19 := zo_18.kept g19 (by simp; omega); have B19 := below_kept B18 g19 B18.size (by rintro q hq; cases hq; omega); have sz19 := g19.size; clear fa_18 vfa_18 ra_18 rb_18 fc_18 vfc_18 rc_18 zo_18; have cra0 := ra_19.cell (j := 0) rfl; have cra1 := ra_19.cell (j := 1) rfl; have cra2 := ra_19.cell (j := 2) rfl; have cra3 := ra_19.cell (j := 3) rfl; have cra4 := ra_19.cell (j := 4) rfl; have cra5 := ra_19.cell (j := 5) rfl; have crb0 := rb_19.cell (j := 0) rfl; have crb1 := rb_19.cell (j := 1) rfl; have crb2 := rb_19.cell (j := 2) rfl; have crb3 := rb_19.cell (j := 3) rfl; have crb4 := rb_19.cell (j := 4) rfl; have crb5 := rb_19.cell (j := 5) rfl; have crc0 := rc_19.cell (j := 0) rfl; have crc1 := rc_19.cell (j := 1) rfl; have crc2 := rc_19.cell (j := 2) rfl; have crc3 := rc_19.cell (j := 3) rfl; have crc4 := rc_19.cell (j := 4) rfl; have crc5 := rc_19.cell (j := 5) rfl)
    | ((with_reducible refine wpList_at ⟨none, .store _ (.tmp 9) _, _, _, _, _⟩ ?_); refine wpList_store_all rfl _ _ _ rfl (w17.heap.size) rfl _ _ zo_19 ((⟨0, 1⟩ : RtO).cs) rfl ((⟨0, 1⟩ : RtO).cs_one) rfl (by kernel_rfl) ?_; intro w20 zo_20 g20; have fa_20 := fa_19.apart hnfa g20 (Nat.not_lt.2 (by omega)); have vfa_20 := vfa_19.kept g20 (by simp; omega); have ra_20 := ra_19.kept g20 (by simp; omega); have rb_20 := rb_19.kept g20 (by simp; omega); have fc_20 := fc_19.apart hnfc g20 (Nat.not_lt.2 (by omega)); have vfc_20 := vfc_19.kept g20 (by simp; omega); have rc_20 := rc_19.kept g20 (by simp; omega); have za_20 := za_19.kept g20 (by simp; omega); have B20 := below_kept B19 g20 B19.size (by rintro q hq; cases hq; omega); have sz20 := g20.size; clear fa_19 vfa_19 ra_19 rb_19 fc_19 vfc_19 rc_19 za_19; have cra0 := ra_20.cell (j := 0) rfl; have cra1 := ra_20.cell (j := 1) rfl; have cra2 := ra_20.cell (j := 2) rfl; have cra3 := ra_20.cell (j := 3) rfl; have cra4 := ra_20.cell (j := 4) rfl; have cra5 := ra_20.cell (j := 5) rfl; have crb0 := rb_20.cell (j := 0) rfl; have crb1 := rb_20.cell (j := 1) rfl; have crb2 := rb_20.cell (j := 2) rfl; have crb3 := rb_20.cell (j := 3) rfl; have crb4 := rb_20.cell (j := 4) rfl; have crb5 := rb_20.cell (j := 5) rfl; have crc0 := rc_20.cell (j := 0) rfl; have crc1 := rc_20.cell (j := 1) rfl; have crc2 := rc_20.cell (j := 2) rfl; have crc3 := rc_20.cell (j := 3) rfl; have crc4 := rc_20.cell (j := 4) rfl; have crc5 := rc_20.cell (j := 5) rfl; have czo0 := zo_20.cell (j := 0) rfl; have czo1 := zo_20.cell (j := 1) rfl)
    | ((with_reducible refine wpList_at ⟨some 46, _, _, _, _, _⟩ ?_); refine wpList_valueG rfl _ (by exact load_out _ rfl rfl ra_20) ?_)
    | ((with_reducible refine wpList_at ⟨some 48, _, _, _, _, _⟩ ?_); refine wpList_valueG rfl _ (by exact HEQ _ _ _ _ _ (⟨1, 0⟩ : RtO) rfl rfl rfl) ?_)
    | ((with_reducible refine wpList_at ⟨some 61, _, _, _, _, _⟩ ?_); refine wpList_valueG rfl _ (by exact load_out _ rfl rfl rb_20) ?_)
    | ((with_reducible refine wpList_at ⟨some 63, _, _, _, _, _⟩ ?_); refine wpList_valueG rfl _ (by exact HEQ _ _ _ _ _ (⟨3, 0⟩ : RtO) rfl rfl rfl) ?_)
    | ((with_reducible refine wpList_at ⟨some 76, _, _, _, _, _⟩ ?_); refine wpList_valueG rfl _ (by exact load_out _ rfl rfl rc_20) ?_)
    | ((with_reducible refine wpList_at ⟨some 78, _, _, _, _, _⟩ ?_); refine wpList_valueG rfl _ (by exact HEQ _ _ _ _ _ (⟨0, 12⟩ : RtO) rfl rfl rfl) ?_))
  go_ret
  exact ⟨rfl, B20⟩
end Go.Proofs.Ytfcbcclcmgheeaa
