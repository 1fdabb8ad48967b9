/-
  WotsDigits's walk. Condition: the table of constants as laid.
-/
import Derived.Test.YtojdondipkbjhaaDoorSan4
namespace Go.Proofs.YtojdondipkbjhaaDoor
open Go.RowKit

theorem bvs_set (l : List UInt8) (k : Nat) (b : UInt8) : bvs (l.set k b) = (bvs l).set k (.int .u8 (b.toNat : Int)) := by
  unfold bvs
  rw [List.map_set]
  rfl
/-- The bytes that the first k digits have filled. -/
def backK (msg : List UInt8) (k : Nat) : List UInt8 := (List.range 16).map fun i => UInt8.ofNat ((msg.getD i 0).toNat / 4 ^ (4 * (i + 1) - k))
theorem backK_len (msg : List UInt8) (k : Nat) : (backK msg k).length = 16 := by simp [backK]
theorem backK_at (msg : List UInt8) (k : Nat) {i : Nat} (hi : i < 16) : (backK msg k)[i]? = some (UInt8.ofNat ((msg.getD i 0).toNat / 4 ^ (4 * (i + 1) - k))) := by simp [backK, hi]
theorem backK_zero (msg : List UInt8) : backK msg 0 = List.replicate 16 0 := by
  refine List.ext_getElem? fun i => ?_
  by_cases hi : i < 16
  · rw [backK_at msg 0 hi, List.getElem?_replicate, if_pos hi]
    have hb := (msg.getD i 0).toNat_lt
    have h4 : 4 ^ 4 ≤ 4 ^ (4 * (i + 1) - 0) := Nat.pow_le_pow_right (by omega) (by omega)
    rw [Nat.div_eq_of_lt (by omega)]
    rfl
  · rw [List.getElem?_eq_none (by rw [backK_len]; omega), List.getElem?_eq_none (by simp; omega)]
theorem backK_end (msg : List UInt8) (hm : msg.length = 16) : backK msg 64 = msg := by
  refine List.ext_getElem? fun i => ?_
  by_cases hi : i < 16
  · rw [backK_at msg 64 hi, show 4 * (i + 1) - 64 = 0 by omega, Nat.pow_zero, Nat.div_one, List.getD_eq_getElem?_getD, List.getElem?_eq_getElem (by omega)]
    simp
  · rw [List.getElem?_eq_none (by rw [backK_len]; omega), List.getElem?_eq_none (by omega)]
theorem backK_old (msg : List UInt8) (k : Nat) (hk : k < 64) : (backK msg k)[k / 4]? = some (UInt8.ofNat ((msg.getD (k / 4) 0).toNat / 4 ^ (4 - k % 4))) := by
  rw [backK_at msg k (by omega), show 4 * (k / 4 + 1) - k = 4 - k % 4 by omega]
theorem backK_set (msg : List UInt8) (k : Nat) : (backK msg k).set (k / 4) (UInt8.ofNat ((msg.getD (k / 4) 0).toNat / 4 ^ (3 - k % 4))) = backK msg (k + 1) := by
  refine List.ext_getElem? fun i => ?_
  by_cases hi : i < 16
  · rw [List.getElem?_set, backK_at msg (k + 1) hi]
    by_cases h : k / 4 = i
    · subst h
      rw [if_pos rfl, if_pos (by rw [backK_len]; omega), show 4 * (k / 4 + 1) - (k + 1) = 3 - k % 4 by omega]
    · rw [if_neg h, backK_at msg k hi]
      have hb := (msg.getD i 0).toNat_lt
      by_cases h2 : i < k / 4
      · rw [show 4 * (i + 1) - k = 0 by omega, show 4 * (i + 1) - (k + 1) = 0 by omega]
      · have h4 : 4 ^ 4 ≤ 4 ^ (4 * (i + 1) - k) := Nat.pow_le_pow_right (by omega) (by omega)
        have h5 : 4 ^ 4 ≤ 4 ^ (4 * (i + 1) - (k + 1)) := Nat.pow_le_pow_right (by omega) (by omega)
        rw [Nat.div_eq_of_lt (by omega), Nat.div_eq_of_lt (by omega)]
  · rw [List.getElem?_eq_none (by rw [List.length_set, backK_len]; omega), List.getElem?_eq_none (by rw [backK_len]; omega)]
/-- Two bits more. -/
theorem back_step (b e : Nat) : b / 4 ^ (e + 1) * 4 + b / 4 ^ e % 4 = b / 4 ^ e := by
  rw [Nat.pow_succ, ← Nat.div_div_eq_div_mul]
  omega
theorem or_two (x d : Nat) (hd : d < 4) : x * 4 ||| d = x * 4 + d := by
  have := Nat.two_pow_add_eq_or_of_lt (i := 2) (b := d) (by omega) x
  rw [show 2 ^ 2 * x = x * 4 by omega] at this
  exact this.symm
/-- The checksum out of the last digits. -/
def chkK (msg : List UInt8) : Nat → Nat
  | 0 => 0
  | j + 1 => 4 * chkK msg j + wD msg (64 + j)
theorem chkK_four (msg : List UInt8) : chkK msg 4 = wSum msg 64 := by
  have h := wD_check msg
  have e : chkK msg 4 = 4 * (4 * (4 * (4 * 0 + wD msg 64) + wD msg 65) + wD msg 66) + wD msg 67 := rfl
  omega
theorem chkK_pow (msg : List UInt8) (j : Nat) : chkK msg j + 1 ≤ 4 ^ j := by
  induction j with
  | zero => exact Nat.le_refl _
  | succ j ih =>
    have := wD_le msg (64 + j)
    rw [chkK, Nat.pow_succ]
    omega
theorem chkK_le (msg : List UInt8) (j : Nat) (hj : j ≤ 4) : chkK msg j ≤ 10000 := by
  have h := chkK_pow msg j
  have h4 : 4 ^ j ≤ 4 ^ 4 := Nat.pow_le_pow_right (by omega) hj
  omega

set_option maxRecDepth 100000 in
set_option maxHeartbeats 2000000 in
theorem walkDg (msg : List UInt8) (hm : msg.length = 16) (w : World) (hK : Consts w) :
    Calls Tryd.prog 5 #[.agg (bvs msg).toArray] w fun e w' => e = .returned (.bool true) ∧ Below w.heap.size w w' := by
  have HM := Lib.hid hm
  have HBE := Lib.hid (backK_end msg hm)
  have HB0 : Hid (bvs (backK msg 0) = zeros16) := by show _ = _; rw [backK_zero]; kernel_rfl
  have HBL := fun k => Lib.hid (backK_len msg k)
  have HDG := fun W => Lib.hid (digits_any msg hm W)
  have HDL := Lib.hid (wDigs_len msg)
  have HDA := fun k hk => Lib.hid (wDigs_at msg (k := k) hk)
  have HC4 := Lib.hid (chkK_four msg)
  generalize wDigs msg = DS at *
  clear hm
  go_enter Tryd.func5, Tryd.ntmps5
  go_wp2_with (first
    | (with_reducible refine wpList_box_row (o := ⟨some 1, _, _, _, _, _⟩) rfl _ _ rfl (bvs msg) rfl ?_; intro w1 hrow1 hs1 hg1)
    | (with_reducible refine wpList_load_all (o := ⟨some 9, _, _, _, _, _⟩) rfl _ _ rfl w.heap.size rfl _ _ hrow1 _ Tryd.underlying23 rfl (b16_size _ HM.out) ?_))
  have hb1 : Below w.heap.size w w1 := grown_below hg1 (Nat.le_refl _) (by simp)
  clear hg1
  refine (HDG _).out.mono ?_
  rintro e w2 ⟨v2, rfl, ⟨_, hown2⟩, hb2⟩
  obtain ⟨A2, c2, rfl, hc2, _, hr2⟩ := own_form hown2
  rw [HDL.out] at hc2 hr2 ⊢
  have hrow2 := hrow1.on hb2
  have hlt2 := hrow2.lt
  have B2 := hb1.trans (hb2.mono hb1.size)
  clear hown2 hrow1
  go_wp2_with (with_reducible refine wpList_alloc_row (o := ⟨some 4, _, _, _, _, _⟩) rfl _ rfl zeros16 zero_b16 ?_; intro w3 hrow3 hs3 hg3)
  have hb3 : Below w2.heap.size w2 w3 := grown_below hg3 (Nat.le_refl _) (by simp)
  rw [← HB0.out] at hrow3
  clear hg3
  go_loopg [5, 6, 16] 68 (fun g a b s wr => ∃ k : Nat, s = .int .i64 (k : Int) ∧ a = .int .i64 (wSum msg (min k 64) : Int) ∧ b = .int .i64 (chkK msg (k - 64) : Int) ∧ k ≤ 68 ∧ 68 ≤ g + k ∧ Row wr w2.heap.size 23 (bvs (backK msg (min k 64))) ∧ Below w2.heap.size w2 wr)
  case atStart => exact ⟨0, rfl, rfl, rfl, by omega, by omega, hrow3, hb3⟩
  case round =>
    obtain ⟨k, rfl, rfl, rfl, hk, hg, hrow, hbr⟩ := hrel
    have hz := hbr.size
    by_cases hlt : k < 68
    · obtain ⟨al, u, rfl, hal, hu, hcu2⟩ := hr2.at_ hlt
      have hcu := (hbr.cell (p := al.add k) (by rw [block_of_add]; exact hal)).trans hcu2
      rw [nvs_get (HDA k hlt).out] at hu
      obtain rfl : Value.int .i64 (wD msg k : Int) = u := by simpa using hu
      have hdl := wD_le msg k
      have hsl := wSum_le msg (min k 64)
      have hcl := chkK_le msg (k - 64) (by omega)
      clear hcu2 hu
      by_cases h64 : k < 64
      · rw [show min k 64 = k by omega] at hrow hsl ⊢
        rw [show k - 64 = 0 by omega] at hcl ⊢
        have HW : Hid (wSum msg (k + 1) = wSum msg k + (3 - wD msg k)) := by show _ = _; rw [wSum, wD_lo msg h64]
        have HD : Hid (wD msg k = (msg.getD (k / 4) 0).toNat / 4 ^ (3 - k % 4) % 4) := by show _ = _; rw [wD_lo msg h64]; rfl
        have HOL := Lib.hid (backK_old msg k h64)
        have HST := Lib.hid (backK_set msg k)
        have hbb := (msg.getD (k / 4) 0).toNat_lt
        have HTW : Hid ((msg.getD (k / 4) 0).toNat / 4 ^ (4 - k % 4) * 4 + (msg.getD (k / 4) 0).toNat / 4 ^ (3 - k % 4) % 4 = (msg.getD (k / 4) 0).toNat / 4 ^ (3 - k % 4)) := by
          have e := back_step (msg.getD (k / 4) 0).toNat (3 - k % 4)
          rw [show 3 - k % 4 + 1 = 4 - k % 4 by omega] at e
          exact e
        have hyb : (msg.getD (k / 4) 0).toNat / 4 ^ (3 - k % 4) < 256 := Nat.lt_of_le_of_lt (Nat.div_le_self _ _) hbb
        generalize (msg.getD (k / 4) 0).toNat / 4 ^ (4 - k % 4) = x at *
        generalize (msg.getD (k / 4) 0).toNat / 4 ^ (3 - k % 4) = y at *
        have hx : x < 64 := by have := HTW.out; omega
        have hcb : wr.cell? ⟨w2.heap.size, k / 4, none⟩ = some (.int .u8 (x : Int)) := by
          have h := hrow.cell (bvs_get HOL.out)
          rw [UInt8.toNat_ofNat', Nat.mod_eq_of_lt (show x < 2 ^ 8 by omega)] at h
          exact h
        have hk16 : k / 4 < 16 := by omega
        generalize wD msg k = dk at *
        have HC0 : Hid (chkK msg 0 = 0) := rfl
        generalize chkK msg 0 = c0 at *
        generalize wSum msg k = sk at *
        have HOR : Hid (bits .or .u8 ((x : Int) * 4) (dk : Int) = (y : Int)) := by
          show _ = _
          have e := u8_or_nat (x * 4) dk (by omega) (by omega)
          rw [or_two x dk (by omega), HD.out, HTW.out] at e
          rw [HD.out]
          exact e
        have HYV : Hid ((UInt8.ofNat y).toNat = y) := by show _ = _; rw [UInt8.toNat_ofNat', Nat.mod_eq_of_lt (show y < 2 ^ 8 by omega)]
        have hd0 : decide ((dk : Int) < 0) = false := decide_eq_false (by omega)
        have hd3 : decide ((3 : Int) < (dk : Int)) = false := decide_eq_false (by omega)
        have hkt : decide ((k : Int) < 64) = true := decide_eq_true (by omega)
        clear hbb hyb
        have HBLk := HBL k
        go_wp2_with (refine wpList_at ⟨none, .store 5 _ _, _, _, _, _⟩ ?_; refine wpList_store_elem rfl _ _ _ rfl w2.heap.size (k / 4) rfl _ _ hrow (.int .u8 (bits .or .u8 ((x : Int) * 4) (dk : Int))) rfl rfl (by rw [bvs_length, HBLk.out]; exact hk16) (by kernel_rfl) ?_; intro w4 hrow4 hg4)
        have hrow5 : Row w4 w2.heap.size 23 (bvs (backK msg (k + 1))) := by
          rw [← HST.out, bvs_set, HYV.out, ← HOR.out]
          exact hrow4
        have hwk := HW.out
        go_roundg (gk - 1)
        case measure => omega
        case rel =>
          refine ⟨k + 1, by go_num, ?_, ?_, by omega, by omega, ?_, below_kept hbr hg4 hz (by rintro k hk; cases hk; exact Nat.le_refl _)⟩
          · rw [show min (k + 1) 64 = k + 1 by omega, HW.out]; go_num
          · rw [show k + 1 - 64 = 0 by omega, HC0.out]; rfl
          · rw [show min (k + 1) 64 = k + 1 by omega]; exact hrow5
      · rw [show min k 64 = 64 by omega] at hrow hsl ⊢
        obtain ⟨j, rfl⟩ : ∃ j, k = 64 + j := ⟨k - 64, by omega⟩
        rw [show 64 + j - 64 = j by omega] at hcl ⊢
        have HCJ : Hid (chkK msg (j + 1) = 4 * chkK msg j + wD msg (64 + j)) := rfl
        generalize wD msg (64 + j) = dk at *
        generalize chkK msg j = cj at *
        generalize hsk : wSum msg 64 = sk at *
        have HSK := Lib.hid hsk
        clear hsk
        have hd0 : decide ((dk : Int) < 0) = false := decide_eq_false (by omega)
        have hd3 : decide ((3 : Int) < (dk : Int)) = false := decide_eq_false (by omega)
        have hkt : decide (((64 + j : Nat) : Int) < 64) = false := decide_eq_false (by omega)
        generalize hk : 64 + j = k at *
        have HKJ := Lib.hid hk
        clear hk
        go_wp2_with fail
        go_roundg (gk - 1)
        case measure => omega
        case rel =>
          have hkj := HKJ.out
          refine ⟨k + 1, by go_num, ?_, ?_, by omega, by omega, ?_, hbr⟩
          · rw [show min (k + 1) 64 = 64 by omega, HSK.out]
          · rw [show k + 1 - 64 = j + 1 by omega, HCJ.out]; go_num
          · rw [show min (k + 1) 64 = 64 by omega]; exact hrow
    · obtain rfl : k = 68 := by omega
      rw [show min 68 64 = 64 from rfl, HBE.out] at hrow
      rw [show min 68 64 = 64 from rfl, show 68 - 64 = 4 from rfl, HC4.out]
      generalize wSum msg 64 = sk at *
      have hrm := hrow2.on hbr
      have Br := B2.trans (hbr.mono B2.size)
      go_wp2_with fail
      refine (san4_any _ (hK.on Br)).mono ?_
      rintro e w4 ⟨rfl, hb4⟩
      have hrow4 := hrow.on hb4
      have hrm4 := hrm.on hb4
      go_wp2_with (first
        | (refine wpList_valueG (o := ⟨some 56, _, _, _, _, _⟩) rfl _ (by exact exec_load16 _ _ rfl _ rfl msg HM.out hrow4.cells) ?_)
        | (refine wpList_valueG (o := ⟨some 57, _, _, _, _, _⟩) rfl _ (by exact exec_load16 _ _ rfl _ rfl msg HM.out hrm4.cells) ?_)
        | (refine wpList_valueG (o := ⟨some 58, _, _, _, _, _⟩) rfl _ (by exact exec_eql16 _ _ _ rfl msg msg HM.out HM.out rfl rfl) ?_))
      go_ret
      exact ⟨rfl, Br.trans (hb4.mono Br.size)⟩
end Go.Proofs.YtojdondipkbjhaaDoor
