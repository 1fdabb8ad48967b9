/-
  What wire.GetInt, getLength, GetBytes return: contracts by walks.
-/
import Derived.Test.YtooiedomcdmefaaSame
namespace Go.Proofs.Ytooiedomcdmefaa
open Go.RowKit

/-- P1.2, byte by byte: place i, the number u of what was read. -/
def getIntGo : Nat → Nat → List UInt8 → Int × Nat × Int
  | _, _, [] => (0, 0, 6)
  | i, u, c :: t =>
    if i = 9 ∧ 1 < c.toNat then (0, 0, 7)
    else if 128 ≤ c.toNat then getIntGo (i + 1) (u + c.toNat % 128 * 2 ^ (7 * i)) t
    else if c.toNat = 0 ∧ 0 < i then (0, 0, 7)
    else (unzz (u + c.toNat % 128 * 2 ^ (7 * i)), i + 1, 0)
def getInt (l : List UInt8) : Int × Nat × Int := getIntGo 0 0 l

/-- Three integers come back; the world is as it was. -/
def Rets (r : Int × Nat × Int) (w : World) (e : Ending) (w' : World) : Prop := e = .returned (.tuple #[.int .i64 r.1, .int .i64 (r.2.1 : Int), .int .i64 r.2.2]) ∧ w = w'

theorem unzz_even (u : Nat) (h : u % 2 = 0) : unzz u = (u : Int) / 2 := by unfold unzz; rw [if_pos h]; omega
theorem unzz_odd (u : Nat) (h : ¬ u % 2 = 0) : unzz u = -((u : Int) / 2) - 1 := by unfold unzz; rw [if_neg h]; omega

set_option maxRecDepth 100000 in
set_option maxHeartbeats 400000 in
theorem unzigzag_any (u : Nat) (w : World) (h : u < 18446744073709551616) : Calls Try.prog 34 #[.int .u64 (u : Int)] w fun e w' => e = .returned (.int .i64 (unzz u)) ∧ w = w' := by
  have hb := u64_and1 u h
  have hn := i64_not_any ((u : Int) / 2) (by omega) (by omega)
  by_cases h2 : u % 2 = 0
  · have ht : (bits BinOp.and IntKind.u64 (u : Int) 1 == 0) = true := by rw [hb]; simp; omega
    have HU := Lib.hid (unzz_even u h2)
    clear hb hn
    go_enter Try.func34, Try.ntmps34
    go_wp2
    go_ret
    exact ⟨by rw [HU.out]; rfl, rfl⟩
  · have ht : (bits BinOp.and IntKind.u64 (u : Int) 1 == 0) = false := by rw [hb]; simp; omega
    have HU := Lib.hid (unzz_odd u h2)
    have HN := Lib.hid hn
    clear hb hn
    go_enter Try.func34, Try.ntmps34
    go_wp2
    go_ret
    exact ⟨by rw [HU.out, ← HN.out]; rfl, rfl⟩

/-- One group more. -/
theorem group_or (x b j : Nat) (hx : x < 2 ^ (7 * j)) (hb : b < 256) (hj : j ≤ 8 ∨ j = 9 ∧ b ≤ 1) :
    x + b % 128 * 2 ^ (7 * j) < 2 ^ (7 * (j + 1)) ∧ x + b % 128 * 2 ^ (7 * j) < 18446744073709551616 ∧
      bits .or .u64 (x : Int) (IntKind.u64.wrap (IntKind.u64.wrap (bits .and .u8 (b : Int) 127) * 2 ^ (7 * j))) = ((x + b % 128 * 2 ^ (7 * j) : Nat) : Int) := by
  have hm : b % 128 < 128 := by omega
  have hp : 2 ^ (7 * (j + 1)) = 128 * 2 ^ (7 * j) := by rw [show 7 * (j + 1) = 7 + 7 * j from by omega, Nat.pow_add]
  have h1 : b % 128 * 2 ^ (7 * j) ≤ 127 * 2 ^ (7 * j) := Nat.mul_le_mul_right _ (by omega)
  have h64 : x + b % 128 * 2 ^ (7 * j) < 18446744073709551616 := by
    rcases hj with hj | ⟨rfl, hb1⟩
    · have h2 : 2 ^ (7 * j) ≤ 2 ^ 56 := Nat.pow_le_pow_right (by decide) (by omega)
      omega
    · have h2 : b % 128 * 2 ^ (7 * 9) ≤ 1 * 2 ^ (7 * 9) := Nat.mul_le_mul_right _ (by omega)
      omega
  refine ⟨by omega, h64, ?_⟩
  have e2 : ((b % 128 : Nat) : Int) * 2 ^ (7 * j) = ((b % 128 * 2 ^ (7 * j) : Nat) : Int) := by push_cast; rfl
  rw [u8_and127 b hb, IntWalk.u64_in ((b % 128 : Nat) : Int) (by omega), e2, IntWalk.u64_in _ (by omega), u64_or_comm]
  have h := u64_or_join (b % 128 * 2 ^ (7 * j)) x (7 * j) (Nat.mul_mod_left _ _) hx (by omega)
  rw [h, Nat.add_comm]

theorem drop_cons {α : Type} {l : List α} {j : Nat} {b : α} (h : l[j]? = some b) : l.drop j = b :: l.drop (j + 1) := by
  rw [List.getElem?_eq_some_iff] at h
  obtain ⟨h1, h2⟩ := h
  rw [← h2]; exact List.drop_eq_getElem_cons h1

set_option maxRecDepth 100000 in
set_option maxHeartbeats 4000000 in
theorem getInt_any (A : Option Addr) (c : Nat) (l : List UInt8) (n : Nat) (w : World) (C : Nat) (hl : Reads w C 1 A n (bvs l)) (hn : n ≤ 1000000000000) :
    Calls Try.prog 21 #[.slice A n c] w (Rets (getInt l) w) := by
  have HL := Lib.hid hl.bytes_len
  go_enter Try.func21, Try.ntmps21
  go_wp2_with fail
  go_loopg [5, 10] n (fun g u i wr => ∃ (j x : Nat), Hid (j + g = n) ∧ j ≤ n ∧ j ≤ 9 ∧ Hid (x < 2 ^ (7 * j)) ∧ i = .int .i64 j ∧ u = .int .u64 x ∧ w = wr ∧ Hid (getInt l = getIntGo j x (l.drop j)))
  case atStart => exact ⟨0, 0, by show _ = _; omega, by omega, by omega, by show _ < _; omega, rfl, rfl, rfl, rfl⟩
  case round =>
    obtain ⟨j, x, HJ, hj, hj9, HX, rfl, rfl, rfl, HG⟩ := hrel
    by_cases hlt : j < n
    · obtain ⟨ad, b, rfl, _, hb, hcb⟩ := hl.byte_at hlt
      have hbb : b.toNat < 256 := UInt8.toNat_lt b
      have HD := Lib.hid (drop_cons hb)
      clear hb
      by_cases h9 : j = 9 ∧ 1 < b.toNat
      · have HE : Hid (getInt l = (0, 0, 7)) := by show _ = _; rw [HG.out, HD.out]; unfold getIntGo; rw [if_pos h9]
        have t1 : 9 ≤ j := by omega
        have t2 : (1 : Int) < (b.toNat : Int) := by omega
        clear h9
        go_wp2_with fail
        go_ret3
        exact ⟨by rw [HE.out]; rfl, rfl⟩
      · obtain ⟨g1, g2, g3⟩ := group_or x b.toNat j HX.out hbb (by omega)
        obtain ⟨y, hy⟩ : ∃ y : Nat, y = x + b.toNat % 128 * 2 ^ (7 * j) := ⟨_, rfl⟩
        rw [← hy] at g1 g2 g3
        have HY := Lib.hid hy
        have G1 := Lib.hid g1
        have G2 := Lib.hid g2
        clear hy g1 g2
        by_cases hc : 128 ≤ b.toNat
        · have hj8 : j ≤ 8 := by omega
          have HE : Hid (getInt l = getIntGo (j + 1) y (l.drop (j + 1))) := by show _ = _; rw [HG.out, HD.out, getIntGo, if_neg h9, if_pos hc, HY.out]
          clear h9
          go_wp2_with fail
          go_roundg (gk - 1)
          case measure => have := HJ.out; omega
          case rel => exact ⟨j + 1, y, by have := HJ.out; show _ = _; omega, by omega, by omega, G1, by go_num, rfl, rfl, HE⟩
        · by_cases h0 : b.toNat = 0 ∧ 0 < j
          · have HE : Hid (getInt l = (0, 0, 7)) := by show _ = _; rw [HG.out, HD.out, getIntGo, if_neg h9, if_neg hc, if_pos h0]
            have t1 : b.toNat ≤ 0 := by omega
            have t2 : 0 < j := by omega
            clear h9 h0
            by_cases t3 : 9 ≤ j
            · have t5 : ((j : Int) == 9) = true := by simp; omega
              go_wp2_with fail
              go_ret3
              exact ⟨by rw [HE.out]; rfl, rfl⟩
            · have t5 : ((j : Int) == 9) = false := by simp; omega
              go_wp2_with fail
              go_ret3
              exact ⟨by rw [HE.out]; rfl, rfl⟩
          · have HE : Hid (getInt l = (unzz y, j + 1, 0)) := by show _ = _; rw [HG.out, HD.out, getIntGo, if_neg h9, if_neg hc, if_neg h0, HY.out]
            have t0 : j ≤ 8 ∨ b.toNat ≤ 1 := by omega
            have T0 := Lib.hid t0
            have H0 := Lib.hid h0
            clear h9 h0 t0
            by_cases t1 : b.toNat ≤ 0
            · have t2 : j ≤ 0 := by have := H0.out; omega
              go_wp2_with fail
              refine (unzigzag_any y _ G2.out).mono ?_
              rintro e w1 ⟨rfl, rfl⟩
              go_wp2_with fail
              go_ret3
              exact ⟨by rw [HE.out]; rfl, rfl⟩
            · by_cases t3 : 9 ≤ j
              · have t4 : b.toNat ≤ 1 := by have := T0.out; omega
                have t5 : ((j : Int) == 9) = true := by simp; omega
                go_wp2_with fail
                refine (unzigzag_any y _ G2.out).mono ?_
                rintro e w1 ⟨rfl, rfl⟩
                go_wp2_with fail
                go_ret3
                exact ⟨by rw [HE.out]; rfl, rfl⟩
              · go_wp2_with fail
                refine (unzigzag_any y _ G2.out).mono ?_
                rintro e w1 ⟨rfl, rfl⟩
                go_wp2_with fail
                go_ret3
                exact ⟨by rw [HE.out]; rfl, rfl⟩
    · have hjn : n ≤ j := by omega
      have HE : Hid (getInt l = (0, 0, 6)) := by show _ = _; rw [HG.out, List.drop_of_length_le (by rw [HL.out]; omega)]; rfl
      go_wp2_with fail
      go_ret3
      exact ⟨by rw [HE.out]; rfl, rfl⟩
end Go.Proofs.Ytooiedomcdmefaa
