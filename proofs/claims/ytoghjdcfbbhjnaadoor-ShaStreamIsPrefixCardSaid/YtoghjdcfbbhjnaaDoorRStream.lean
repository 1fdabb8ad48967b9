/-
  What the reference's Stream and Same return: contracts by walks. Condition: bounded lengths.
-/
import Derived.Test.YtoghjdcfbbhjnaaDoorStream
import Derived.Test.YtoghjdcfbbhjnaaDoorRHmac
import Derived.Test.YtoghjdcfbbhjnaaDoorConv
namespace Go.Proofs.YtoghjdcfbbhjnaaDoor
open Go.RowKit

/-- A slice that reads as the bytes l; nothing that was there has changed. -/
def GivesR (l : List UInt8) (n : Nat) (w : World) (e : Ending) (w' : World) : Prop :=
  ∃ A c, e = .returned (.slice A n c) ∧ n ≤ c ∧ Reads w' w'.heap.size 1 A n (bvs l) ∧ Below w.heap.size w w'

set_option maxRecDepth 100000 in
set_option maxHeartbeats 2000000 in
theorem refStream_any (Ak : Option Addr) (ck : Nat) (key : List UInt8) (nk : Nat) (n : Int) (q : Nat) (w : World) (hq : q = n.toNat) (hrk : Reads w w.heap.size 1 Ak nk (bvs key)) (hck : nk ≤ ck) (hnk : nk ≤ 50000) (hn1 : -9223372036854775808 ≤ n) (hn2 : n ≤ 100000) :
    Calls Tryd.prog 23 #[.slice Ak nk ck, .int .i64 n] w (GivesR (stream key q) q w) := by
  obtain ⟨i0, hi0, hz0, hz1, hz2⟩ := info_parts info_u8
  obtain ⟨M, hM⟩ : ∃ M, M = (q + 31) / 32 := ⟨_, rfl⟩
  have HQ : Hid ((0 ≤ n ∧ (q : Int) = n) ∨ (n < 0 ∧ q = 0)) := by show _ ∨ _; omega
  have HM := Lib.hid hM
  have HST : Hid (stream key q = (streamK key M).take q) := by show _ = _; rw [hM]; rfl
  clear hq hM
  go_enter Tryd.func23, Tryd.ntmps23
  go_wp2_with fail
  go_loopg [5, 6] M (fun g s5 s6 wr => ∃ k : Nat, Hid (k + g = M) ∧ k ≤ M ∧ s6 = .int .i64 (k : Int) ∧ wr.ownsRow w.heap.size 5 1 s5 (32 * k) (bvs (streamK key k)) ∧ Below w.heap.size w wr)
  case atStart => exact ⟨0, by show _ = _; omega, by omega, rfl, World.ownsRow_nil _ _ _ _, Below.refl _ _⟩
  case round =>
    obtain ⟨k, HK, hk, rfl, hown, hbel⟩ := hrel
    obtain ⟨A5, c5, rfl, hc5, hm5, hr5⟩ := own_form hown
    by_cases hlt : k < M
    · have hq1 : 32 * k < q := by have := HM.out; omega
      have hqn : (q : Int) = n := by rcases HQ.out with h | h <;> omega
      have hkr := hrk.on hbel
      have HE := Lib.hid (encInt_le (k : Int) (by omega) (by omega))
      have HHL := Lib.hid (hmac_len key (encInt (k : Int)))
      have HS : Hid (streamK key (k + 1) = streamK key k ++ hmac key (encInt (k : Int))) := rfl
      subst hqn
      go_wp2_with fail
      refine (refInt_any (k : Int) _ (by omega) (by omega)).mono ?_
      rintro e w1 ⟨v1, rfl, hown1, hb1⟩
      obtain ⟨A1, c1, rfl, hc1, _, hr1⟩ := own_form hown1
      have hb1' : Below w.heap.size w w1 := hbel.trans (hb1.mono hbel.size)
      go_wp2_with fail
      refine (refHmac_any Ak A1 ck c1 key (encInt (k : Int)) nk _ w1 (hkr.on hb1) hck hnk hr1 hc1 (by have := HE.out; omega)).mono ?_
      rintro e w2 ⟨rfl, hb2⟩
      have hb2' : Below w.heap.size w w2 := hb1'.trans (hb2.mono hb1'.size)
      have hown2 := own_below (own_below hown hb1) hb2
      clear hown hown1
      generalize hmac key (encInt (k : Int)) = hb at *
      go_wp2_with fail
      refine (refAll_any hb HHL.out w2).mono ?_
      rintro e w3 ⟨v3, rfl, hown3, hb3⟩
      have hown3 := own_len hown3 HHL.out
      obtain ⟨A3, c3, rfl, hc3, _, hr3⟩ := own_form hown3
      have hown23 := own_below hown2 hb3
      have hb3' := hb2'.trans (hb3.mono hb2'.size)
      clear hown2 hown3
      go_wp2_with (at_builtin; refine wpList_append_src _ rfl (.tmp 13) (.tmp 18) _ _ rfl w.heap.size 5 i0 _ 1 1 Tryd.underlying22 hi0 hz0 hz1 hz2 rfl _ _ _ rfl hown23 32 _ (Src.ofReads _ Tryd.underlying22 hr3 (bvs_one _)) (by unfold maxLen; omega) (by omega) hb3'.size ?_; intro v4 w4 hown4 hb4)
      go_roundg (gk - 1)
      case measure => have := HK.out; omega
      case rel =>
        refine ⟨k + 1, by have := HK.out; show _ = _; omega, by omega, by go_num, ?_, hb3'.trans hb4⟩
        rw [HS.out, bvs_append, show 32 * (k + 1) = 32 * k + 32 by omega]
        exact hown4
    · have hkM : k = M := by omega
      have hqk : q ≤ 32 * k := by have := HM.out; omega
      have hrq := hr5.take (k := q) hqk
      rw [Nat.mul_one, show (bvs (streamK key k)).take q = bvs ((streamK key k).take q) from (List.map_take ..).symm, hkM, ← HST.out] at hrq
      have HKM := Lib.hid hkM
      clear hkM
      have hnq : ¬ (32 * (k : Int) < n) := by rcases HQ.out with h | h <;> omega
      by_cases hneg : n < 0
      · have hq0 : q = 0 := by rcases HQ.out with h | h <;> omega
        subst hq0
        go_wp2_with fail
        go_ret
        exact ⟨_, _, rfl, by omega, hrq, hbel⟩
      · have hqn : (q : Int) = n := by rcases HQ.out with h | h <;> omega
        subst hqn
        go_wp2_with fail
        go_ret
        exact ⟨_, _, rfl, by omega, hrq, hbel⟩

set_option maxRecDepth 100000 in
theorem same_any (A B : Option Addr) (n m c d : Nat) (l : List UInt8) (w : World) (h1 : Reads w w.heap.size 1 A n (bvs l)) (h2 : Reads w w.heap.size 1 B m (bvs l)) :
    Calls Tryd.prog 22 #[.slice A n c, .slice B m d] w fun e w' => e = .returned (.bool true) ∧ w = w' := by
  go_enter Tryd.func22, Tryd.ntmps22
  go_wp2_with (first
    | (refine wpList_valueW (o := ⟨some 6, _, _, _, _, _⟩) rfl _ (by exact exec_string_of _ _ _ _ _ rfl Tryd.underlying22 Tryd.underlying5 Tryd.underlying9 rfl h1) ?_)
    | (refine wpList_valueW (o := ⟨some 8, _, _, _, _, _⟩) rfl _ (by exact exec_string_of _ _ _ _ _ rfl Tryd.underlying22 Tryd.underlying5 Tryd.underlying9 rfl h2) ?_))
  go_ret
  exact ⟨rfl, rfl⟩
end Go.Proofs.YtoghjdcfbbhjnaaDoor
