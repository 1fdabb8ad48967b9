/-
  What sha.Stream, sha.MAC and the reference's MAC's second half return: contracts by walks.
-/
import Derived.Test.YtdgflobdnkopbaaDoorMacM
import Derived.Test.YtdgflobdnkopbaaDoorBase
namespace Go.Proofs.YtdgflobdnkopbaaDoor
open Go.RowKit

theorem encInt_le (n : Int) (h1 : -9223372036854775808 ≤ n) (h2 : n ≤ 9223372036854775807) : (encInt n).length ≤ 10 := leb_le10 (zz n) (zz_lt n h1 h2)
theorem slice32_to (W : World) (ad : Addr) (p : Nat) (hp : p ≤ 32) : (Instr.sliceAt 48 (.pointer (some ad)) none (some (.int .i64 (p : Int))) none).run Tryd.prog W = .ok (.slice (some ad) p 32) W := by
  have HAL : Tryd.prog.arrayLen 48 = 32 := by kernel_rfl
  rw [run_sliceAt_array_h W 48 ad (by kernel_rfl) .i64 (p : Int) (by omega) (by rw [HAL]; omega), HAL]
  have hs : (sizeOf (Tryd.prog.elem 48)).run Tryd.prog W = .ok 1 W := by kernel_rfl
  rw [hs]
  simp [slicedAt, Result.andThen, Addr.add]
theorem stream_step (key : List UInt8) (k q p : Nat) (hk : 32 * k ≤ q) (hp : p = min 32 (q - 32 * k)) :
    (streamK key (k + 1)).take q = streamK key k ++ (hmac key (encInt (k : Int))).take p := by
  rw [streamK, List.take_append, streamK_len, List.take_of_length_le (by rw [streamK_len]; exact hk)]
  congr 1
  rw [hp]
  by_cases h : 32 ≤ q - 32 * k
  · rw [Nat.min_eq_left h, List.take_of_length_le (by rw [hmac_len]; exact h), List.take_of_length_le (by rw [hmac_len]; exact Nat.le_refl _)]
  · rw [Nat.min_eq_right (by omega)]

set_option maxRecDepth 100000 in
set_option maxHeartbeats 2000000 in
theorem stream_any (Ak : Option Addr) (ck : Nat) (key : List UInt8) (nk : Nat) (n : Int) (w : World) (hK : Consts w) (hrk : Reads w w.heap.size 1 Ak nk (bvs key)) (hck : nk ≤ ck) (hnk : nk ≤ 50000) (hn1 : -9223372036854775808 ≤ n) (hn2 : n ≤ 100000) :
    Calls Tryd.prog 26 #[.slice Ak nk ck, .int .i64 n] w (Gives (stream key n.toNat) w) := by
  obtain ⟨i0, hi0, hz0, hz1, hz2⟩ := info_parts info_u8
  obtain ⟨q, hq⟩ : ∃ q, q = n.toNat := ⟨_, rfl⟩
  obtain ⟨M, hM⟩ : ∃ M, M = (q + 31) / 32 := ⟨_, rfl⟩
  rw [← hq]
  have HQ : Hid ((0 ≤ n ∧ (q : Int) = n) ∨ (n < 0 ∧ q = 0)) := by show _ ∨ _; omega
  have HM := Lib.hid hM
  have HST : Hid (stream key q = (streamK key M).take q) := by show _ = _; rw [hM]; rfl
  clear hq hM
  go_enter Tryd.func26, Tryd.ntmps26
  go_wp2_with fail
  go_loopg [5, 6] M (fun g s5 s6 wr => ∃ k : Nat, Hid (k + g = M) ∧ k ≤ M ∧ s6 = .int .i64 (k : Int) ∧ wr.ownsRow w.heap.size 5 1 s5 (min (32 * k) q) (bvs ((streamK key k).take q)) ∧ Below w.heap.size w wr)
  case atStart => exact ⟨0, by show _ = _; omega, by omega, rfl, by rw [show min (32 * 0) q = 0 by omega, streamK, List.take_nil]; exact World.ownsRow_nil _ _ _ _, Below.refl _ _⟩
  case round =>
    obtain ⟨k, HK, hk, rfl, hown, hbel⟩ := hrel
    by_cases hlt : k < M
    · have hq1 : 32 * k < q := by have := HM.out; omega
      have hqn : (q : Int) = n := by rcases HQ.out with h | h <;> omega
      have e0 : (streamK key k).take q = streamK key k := List.take_of_length_le (by rw [streamK_len]; omega)
      rw [Nat.min_eq_left (by omega), e0] at hown
      clear e0
      obtain ⟨A5, c5, rfl, hc5, hm5, hr5⟩ := own_form hown
      have hkr := hrk.on hbel
      have hKr := hK.on hbel
      have HE := Lib.hid (encInt_le (k : Int) (by omega) (by omega))
      have HHL := Lib.hid (hmac_len key (encInt (k : Int)))
      subst hqn
      go_wp2_with fail
      refine (int_any (k : Int) _ (by omega) (by omega)).mono ?_
      rintro e w1 ⟨v1, rfl, hown1, hb1⟩
      obtain ⟨A1, c1, rfl, hc1, _, hr1⟩ := own_form hown1
      have hb1' : Below w.heap.size w w1 := hbel.trans (hb1.mono hbel.size)
      go_wp2_with fail
      refine (hmac_any Ak A1 ck c1 key (encInt (k : Int)) nk _ w1 (hKr.on hb1) (hkr.on hb1) hck hnk hr1 hc1 (by have := HE.out; omega)).mono ?_
      rintro e w2 ⟨rfl, hb2⟩
      have hb2' : Below w.heap.size w w2 := hb1'.trans (hb2.mono hb1'.size)
      have hown2 := own_below (own_below hown hb1) hb2
      obtain ⟨p, hp⟩ : ∃ p, p = min 32 (q - 32 * k) := ⟨_, rfl⟩
      have HS := Lib.hid (stream_step key k q p (by omega) hp)
      have hS2 : (32 ≤ q - 32 * k ∧ p = 32) ∨ (q - 32 * k < 32 ∧ p = q - 32 * k) := by omega
      clear hp hown hown1
      generalize hmac key (encInt (k : Int)) = hb at *
      have hp32 : p ≤ 32 := by omega
      have HP2 : Hid (32 * k + p = min (32 * (k + 1)) q) := by show _ = _; omega
      have HLT : Hid ((hb.take p).length = p) := by show _ = _; rw [List.length_take, HHL.out]; omega
      rcases hS2 with ⟨hS3, rfl⟩ | ⟨hS3, hS4⟩
      · go_wp2_with (first
          | (with_reducible refine wpList_alloc_row (o := ⟨some 7, _, _, _, _, _⟩) rfl _ rfl zeros32 zero_b32 ?_; intro w8 hrow8 hs8 hg8; have hown8 := own_below hown2 (grown_below hg8 (Nat.le_refl _) (by simp)))
          | (with_reducible refine wpList_at ⟨none, .store 48 _ _, _, _, _, _⟩ ?_; refine wpList_store_all rfl _ _ _ rfl w2.heap.size rfl _ _ hrow8 (bvs hb) rfl (bvs_one _) (b32_zeros _ HHL.out) (b32_size _ HHL.out) ?_; intro w9 hrow9 hg9; have hb29 : Below w2.heap.size w2 w9 := below_kept (grown_below hg8 (Nat.le_refl _) (by simp)) hg9 (by omega) (by rintro k hk; cases hk; omega); have hown9 := own_below hown2 hb29; have hrd9 := (hrow9.reads (size := 1) (n := 32) (by rw [bvs_length, HHL.out])).take (k := 32) (Nat.le_refl _); have hb9 := hb2'.trans (hb29.mono hb2'.size))
          | (at_builtin; refine wpList_append_src _ rfl (.tmp 18) (.tmp 24) _ _ rfl w.heap.size 5 i0 _ 1 1 Tryd.underlying34 hi0 hz0 hz1 hz2 rfl _ _ _ rfl hown9 32 _ (Src.ofReads _ Tryd.underlying34 hrd9 (fun u hu => bvs_one _ u (List.mem_of_mem_take hu))) (by unfold maxLen; omega) (by omega) hb9.size ?_; intro v3 w3 hown3 hb3))
        go_roundg (gk - 1)
        case measure => have := HK.out; omega
        case rel =>
          refine ⟨k + 1, by have := HK.out; show _ = _; omega, by omega, by go_num, ?_, hb9.trans hb3⟩
          rw [HS.out, bvs_append, ← HP2.out, show bvs (hb.take 32) = (bvs hb).take 32 from List.map_take ..]
          exact hown3
      · have hqk : (q : Int) - 32 * (k : Int) = (p : Int) := by omega
        have hp31 : p < 32 := by omega
        have hsl := fun W : World => slice32_to W ⟨w2.heap.size, 0, none⟩ p hp32
        clear hS3 hS4
        go_wp2_with (first
          | (with_reducible refine wpList_alloc_row (o := ⟨some 7, _, _, _, _, _⟩) rfl _ rfl zeros32 zero_b32 ?_; intro w8 hrow8 hs8 hg8; have hown8 := own_below hown2 (grown_below hg8 (Nat.le_refl _) (by simp)))
          | (with_reducible refine wpList_at ⟨none, .store 48 _ _, _, _, _, _⟩ ?_; refine wpList_store_all rfl _ _ _ rfl w2.heap.size rfl _ _ hrow8 (bvs hb) rfl (bvs_one _) (b32_zeros _ HHL.out) (b32_size _ HHL.out) ?_; intro w9 hrow9 hg9; have hb29 : Below w2.heap.size w2 w9 := below_kept (grown_below hg8 (Nat.le_refl _) (by simp)) hg9 (by omega) (by rintro k hk; cases hk; omega); have hown9 := own_below hown2 hb29; have hrd9 := (hrow9.reads (size := 1) (n := 32) (by rw [bvs_length, HHL.out])).take (k := p) hp32; have hb9 := hb2'.trans (hb29.mono hb2'.size))
          | (at_builtin; refine wpList_append_src _ rfl (.tmp 18) (.tmp 24) _ _ rfl w.heap.size 5 i0 _ 1 1 Tryd.underlying34 hi0 hz0 hz1 hz2 rfl _ _ _ rfl hown9 p _ (Src.ofReads _ Tryd.underlying34 hrd9 (fun u hu => bvs_one _ u (List.mem_of_mem_take hu))) (by unfold maxLen; omega) (by omega) hb9.size ?_; intro v3 w3 hown3 hb3))
        go_roundg (gk - 1)
        case measure => have := HK.out; omega
        case rel =>
          refine ⟨k + 1, by have := HK.out; show _ = _; omega, by omega, by go_num, ?_, hb9.trans hb3⟩
          rw [HS.out, bvs_append, ← HP2.out, show bvs (hb.take p) = (bvs hb).take p from List.map_take ..]
          rw [Nat.mul_one] at hown3
          exact hown3
    · have hkM : k = M := by omega
      have hmin : min (32 * k) q = q := by have := HM.out; omega
      rw [hmin] at hown
      have HKM := Lib.hid hkM
      have HQL : Hid ((stream key q).length = q) := Lib.hid (stream_len key q)
      clear hkM hmin
      obtain ⟨A5, c5, rfl, hc5, hm5, hr5⟩ := own_form hown
      have hnq : ¬ ((q : Int) < n) := by rcases HQ.out with h | h <;> omega
      go_wp2_with fail
      go_ret
      refine ⟨_, rfl, ?_, hbel⟩
      rw [HKM.out, ← HST.out] at hown
      exact own_len hown HQL.out.symm
end Go.Proofs.YtdgflobdnkopbaaDoor

/-
  What the reference's Stream returns: a contract by a walk. Condition: bounded lengths.
-/
namespace Go.Proofs.YtdgflobdnkopbaaDoor
open Go.RowKit

/-- A slice that reads as the bytes l; nothing that was there has changed. -/
def GivesR (l : List UInt8) (n : Nat) (w : World) (e : Ending) (w' : World) : Prop :=
  ∃ A c, e = .returned (.slice A n c) ∧ n ≤ c ∧ Reads w' w'.heap.size 1 A n (bvs l) ∧ Below w.heap.size w w'

set_option maxRecDepth 100000 in
set_option maxHeartbeats 2000000 in
theorem refStream_any (Ak : Option Addr) (ck : Nat) (key : List UInt8) (nk : Nat) (n : Int) (q : Nat) (w : World) (hq : q = n.toNat) (hrk : Reads w w.heap.size 1 Ak nk (bvs key)) (hck : nk ≤ ck) (hnk : nk ≤ 50000) (hn1 : -9223372036854775808 ≤ n) (hn2 : n ≤ 100000) :
    Calls Tryd.prog 32 #[.slice Ak nk ck, .int .i64 n] w (GivesR (stream key q) q w) := by
  obtain ⟨i0, hi0, hz0, hz1, hz2⟩ := info_parts info_u8
  obtain ⟨M, hM⟩ : ∃ M, M = (q + 31) / 32 := ⟨_, rfl⟩
  have HQ : Hid ((0 ≤ n ∧ (q : Int) = n) ∨ (n < 0 ∧ q = 0)) := by show _ ∨ _; omega
  have HM := Lib.hid hM
  have HST : Hid (stream key q = (streamK key M).take q) := by show _ = _; rw [hM]; rfl
  clear hq hM
  go_enter Tryd.func32, Tryd.ntmps32
  go_wp2_with fail
  go_loopg [5, 6] M (fun g s5 s6 wr => ∃ k : Nat, Hid (k + g = M) ∧ k ≤ M ∧ s6 = .int .i64 (k : Int) ∧ wr.ownsRow w.heap.size 5 1 s5 (32 * k) (bvs (streamK key k)) ∧ Below w.heap.size w wr)
  case atStart => exact ⟨0, by show _ = _; omega, by omega, rfl, World.ownsRow_nil _ _ _ _, Below.refl _ _⟩
  case round =>
    obtain ⟨k, HK, hk, rfl, hown, hbel⟩ := hrel
    obtain ⟨A5, c5, rfl, hc5, hm5, hr5⟩ := own_form hown
    by_cases hlt : k < M
    · have hq1 : 32 * k < q := by have := HM.out; omega
      have hqn : (q : Int) = n := by rcases HQ.out with h | h <;> omega
      have hkr := hrk.on hbel
      have HE := Lib.hid (encInt_le (k : Int) (by omega) (by omega))
      have HHL := Lib.hid (hmac_len key (encInt (k : Int)))
      have HS : Hid (streamK key (k + 1) = streamK key k ++ hmac key (encInt (k : Int))) := rfl
      subst hqn
      go_wp2_with fail
      refine (refInt_any (k : Int) _ (by omega) (by omega)).mono ?_
      rintro e w1 ⟨v1, rfl, hown1, hb1⟩
      obtain ⟨A1, c1, rfl, hc1, _, hr1⟩ := own_form hown1
      have hb1' : Below w.heap.size w w1 := hbel.trans (hb1.mono hbel.size)
      go_wp2_with fail
      refine (refHmac_any Ak A1 ck c1 key (encInt (k : Int)) nk _ w1 (hkr.on hb1) hck hnk hr1 hc1 (by have := HE.out; omega)).mono ?_
      rintro e w2 ⟨rfl, hb2⟩
      have hb2' : Below w.heap.size w w2 := hb1'.trans (hb2.mono hb1'.size)
      have hown2 := own_below (own_below hown hb1) hb2
      clear hown hown1
      generalize hmac key (encInt (k : Int)) = hb at *
      go_wp2_with fail
      refine (refAll_any hb HHL.out w2).mono ?_
      rintro e w3 ⟨v3, rfl, hown3, hb3⟩
      have hown3 := own_len hown3 HHL.out
      obtain ⟨A3, c3, rfl, hc3, _, hr3⟩ := own_form hown3
      have hown23 := own_below hown2 hb3
      have hb3' := hb2'.trans (hb3.mono hb2'.size)
      clear hown2 hown3
      go_wp2_with (at_builtin; refine wpList_append_src _ rfl (.tmp 13) (.tmp 18) _ _ rfl w.heap.size 5 i0 _ 1 1 Tryd.underlying34 hi0 hz0 hz1 hz2 rfl _ _ _ rfl hown23 32 _ (Src.ofReads _ Tryd.underlying34 hr3 (bvs_one _)) (by unfold maxLen; omega) (by omega) hb3'.size ?_; intro v4 w4 hown4 hb4)
      go_roundg (gk - 1)
      case measure => have := HK.out; omega
      case rel =>
        refine ⟨k + 1, by have := HK.out; show _ = _; omega, by omega, by go_num, ?_, hb3'.trans hb4⟩
        rw [HS.out, bvs_append, show 32 * (k + 1) = 32 * k + 32 by omega]
        exact hown4
    · have hkM : k = M := by omega
      have hqk : q ≤ 32 * k := by have := HM.out; omega
      have hrq := hr5.take (k := q) hqk
      rw [Nat.mul_one, show (bvs (streamK key k)).take q = bvs ((streamK key k).take q) from (List.map_take ..).symm, hkM, ← HST.out] at hrq
      have HKM := Lib.hid hkM
      clear hkM
      have hnq : ¬ (32 * (k : Int) < n) := by rcases HQ.out with h | h <;> omega
      by_cases hneg : n < 0
      · have hq0 : q = 0 := by rcases HQ.out with h | h <;> omega
        subst hq0
        go_wp2_with fail
        go_ret
        exact ⟨_, _, rfl, by omega, hrq, hbel⟩
      · have hqn : (q : Int) = n := by rcases HQ.out with h | h <;> omega
        subst hqn
        go_wp2_with fail
        go_ret
        exact ⟨_, _, rfl, by omega, hrq, hbel⟩

end Go.Proofs.YtdgflobdnkopbaaDoor
