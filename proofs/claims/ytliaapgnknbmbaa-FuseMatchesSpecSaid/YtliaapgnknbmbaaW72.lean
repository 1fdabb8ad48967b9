/-
  FuseNew's walk. No condition but a bounded length.
-/
import Derived.Test.YtliaapgnknbmbaaSan7
import Derived.Test.YtliaapgnknbmbaaFuM2
import Derived.Test.YtliaapgnknbmbaaFuRN
import Derived.Test.YtliaapgnknbmbaaFuRS
namespace Go.Proofs.Ytliaapgnknbmbaa
open Go.RowKit

theorem same_true (W : World) (A B : Option Addr) (n c m d : Nat) (ps qs : List Part) (h : FuOK W A n c ps) (g : FuOK W B m d qs) (hb : bk ps = bk qs) (hn : n ≤ 1000000) :
    Calls Try.prog 17 #[fuv A n c, fuv B m d] W (TellsB true W) := by
  have h0 := rsame_any A B n c m d ps qs W h.1 g.1 (by omega) h.2.2
  rw [show (bk ps == bk qs) = true by rw [hb]; simp] at h0
  exact h0
theorem fuok_n {W : World} {A : Option Addr} {n c : Nat} {ps : List Part} (h : FuOK W A n c ps) {bs : List (List UInt8)} (hb : bk ps = bs) {m : Nat} (hm : bs.length ≤ m) : n ≤ m := by
  have h1 := h.1.len
  have h2 := bk_len ps
  rw [hb] at h2
  omega
theorem fuNew_len (bits : List Int) : (fuNew bits).length ≤ 4 := by
  have := valid_len (fuNew_valid bits)
  exact this

set_option maxRecDepth 100000 in
set_option maxHeartbeats 4000000 in
theorem walk72 (A : Option Addr) (n c : Nat) (bits : List Int) (w : World) (hr : Reads w w.heap.size 1 A n (ivz bits)) :
    Calls Try.prog 4 #[.slice A n c] w (TellsB true w) := by
  have HSA := fun W => sanity7_any W
  by_cases h20 : 20 < n
  · skip
    go_enter Try.func4, Try.ntmps4
    go_wp2_with fail
    refine (HSA _).mono ?_
    rintro e w1 ⟨rfl, h1⟩
    have B1 : Below w.heap.size w w1 := h1
    have rd_1 := hr.on h1
    go_wp2_with fail
    go_ret
    exact ⟨rfl, B1⟩
  · have HF1 := fun W hW => Lib.hid (fnew_any A n c bits W hW (by omega))
    have HF2 := fun W hW => Lib.hid (rnew_any A n c bits W hW (by omega))
    have HV := fun W A n c ps (h : FuOK W A n c ps) (hb : bk ps = fuNew bits) => Lib.hid (show Calls Try.prog 11 #[fuv A n c] W (TellsB true W) by
      have h0 := fvalid_any A n c ps W h.1
      rw [hb, fuNew_valid bits] at h0
      exact h0)
    unfold fuv at HV
    have HEE : Hid (fuNewE bits = fuNewE bits) := Lib.hid rfl
    generalize fuNewE bits = E at *
    go_enter Try.func4, Try.ntmps4
    go_wp2_with fail
    refine ((HF1 _ hr).out).mono ?_
    rintro e w1 ⟨A1, n1, c1', ps1, rfl, ok11, hb1, h1⟩
    have B1 : Below w.heap.size w w1 := h1
    have rd_1 := hr.on h1
    have HB1 := Lib.hid hb1
    clear hb1
    unfold fuv
    go_wp2_with (first
      | (with_reducible refine wpList_alloc_row (o := ⟨some 3, _, _, _, _, _⟩) rfl _ rfl [.slice none 0 0] (by kernel_rfl) ?_; intro w2 r2 s2 g2)
      | ((with_reducible refine wpList_at ⟨none, .store _ (.tmp 3) _, _, _, _, _⟩ ?_); refine wpList_store_all rfl _ _ _ rfl w1.heap.size rfl _ _ r2 [.slice A1 n1 c1'] rfl (slice_one _ _ _) rfl (by kernel_rfl) ?_; intro w3 r1_3 g3; have k3 : Below w1.heap.size w1 w3 := below_kept (grown_below g2 (Nat.le_refl _) (by simp)) g3 (Nat.le_of_lt s2) (by rintro q hq; cases hq; exact Nat.le_refl _); have B3 := B1.trans (k3.mono B1.size); have rd_3 := rd_1.on k3; have ok1_3 := ok11.on k3; clear rd_1; have cr1 := r1_3.cell (j := 0) rfl; clear r2 g2 g3))
    refine ((HF2 _ rd_3).out).mono ?_
    rintro e w4 ⟨A2, n2, c2', ps2, rfl, ok24, hb2, h4⟩
    have B4 := B3.trans (h4.mono B3.size)
    have rd_4 := rd_3.on h4
    have ok1_4 := ok1_3.on h4
    have r1_4 := r1_3.on h4
    clear rd_3 ok1_3 r1_3
    have cr1 := r1_4.cell (j := 0) rfl
    have HB2 := Lib.hid hb2
    clear hb2
    unfold fuv
    go_wp2_with (first
      | (with_reducible refine wpList_alloc_row (o := ⟨some 5, _, _, _, _, _⟩) rfl _ rfl [.slice none 0 0] (by kernel_rfl) ?_; intro w5 r5 s5 g5)
      | ((with_reducible refine wpList_at ⟨none, .store _ (.tmp 5) _, _, _, _, _⟩ ?_); refine wpList_store_all rfl _ _ _ rfl w4.heap.size rfl _ _ r5 [.slice A2 n2 c2'] rfl (slice_one _ _ _) rfl (by kernel_rfl) ?_; intro w6 r2_6 g6; have k6 : Below w4.heap.size w4 w6 := below_kept (grown_below g5 (Nat.le_refl _) (by simp)) g6 (Nat.le_of_lt s5) (by rintro q hq; cases hq; exact Nat.le_refl _); have B6 := B4.trans (k6.mono B4.size); have rd_6 := rd_4.on k6; have ok1_6 := ok1_4.on k6; have r1_6 := r1_4.on k6; have ok2_6 := ok24.on k6; clear rd_4 ok1_4 r1_4; have cr1 := r1_6.cell (j := 0) rfl; have cr2 := r2_6.cell (j := 0) rfl; clear r5 g5 g6))
    refine (HSA _).mono ?_
    rintro e w7 ⟨rfl, h7⟩
    have B7 := B6.trans (h7.mono B6.size)
    have rd_7 := rd_6.on h7
    have ok1_7 := ok1_6.on h7
    have r1_7 := r1_6.on h7
    have ok2_7 := ok2_6.on h7
    have r2_7 := r2_6.on h7
    clear rd_6 ok1_6 r1_6 ok2_6 r2_6
    have cr1 := r1_7.cell (j := 0) rfl
    have cr2 := r2_7.cell (j := 0) rfl
    go_wp2_with fail
    refine (same_true _ A1 A2 n1 c1' n2 c2' ps1 ps2 ok1_7 ok2_7 (by rw [HB1.out, HB2.out]) (by have := fuok_n ok1_7 HB1.out (fuNew_len bits); omega)).mono ?_
    rintro e w8 ⟨rfl, h8⟩
    have B8 := B7.trans (h8.mono B7.size)
    have rd_8 := rd_7.on h8
    have ok1_8 := ok1_7.on h8
    have r1_8 := r1_7.on h8
    have ok2_8 := ok2_7.on h8
    have r2_8 := r2_7.on h8
    clear rd_7 ok1_7 r1_7 ok2_7 r2_7
    have cr1 := r1_8.cell (j := 0) rfl
    have cr2 := r2_8.cell (j := 0) rfl
    go_wp2_with fail
    refine ((HV _ A1 n1 c1' ps1 ok1_8 HB1.out).out).mono ?_
    rintro e w9 ⟨rfl, h9⟩
    have B9 := B8.trans (h9.mono B8.size)
    have rd_9 := rd_8.on h9
    have ok1_9 := ok1_8.on h9
    have r1_9 := r1_8.on h9
    have ok2_9 := ok2_8.on h9
    have r2_9 := r2_8.on h9
    clear rd_8 ok1_8 r1_8 ok2_8 r2_8
    have cr1 := r1_9.cell (j := 0) rfl
    have cr2 := r2_9.cell (j := 0) rfl
    go_wp2_with fail
    go_ret
    exact ⟨rfl, B9⟩
end Go.Proofs.Ytliaapgnknbmbaa
