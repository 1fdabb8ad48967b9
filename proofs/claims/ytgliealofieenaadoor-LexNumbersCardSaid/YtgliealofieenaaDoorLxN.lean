/-
  What decimal of the law file returns: a contract by a walk. For numbers below 10^9.
-/
import Derived.Test.YtgliealofieenaaDoorLxW
set_option linter.unusedSimpArgs false
set_option linter.unusedVariables false
namespace Go.Proofs.YtgliealofieenaaDoor
open Go.RowKit

theorem dg_val (n : Nat) : Value.int .u8 (48 + (n : Int) % 10) = bv (dg n) := by
  unfold bv
  rw [dg_nat]
  congr 1
theorem dg_reads (n : Nat) (w : World) (t : TypeId) : Reads (w.alloc (.cells #[.int .u8 (48 + (n : Int) % 10)] t)) (w.alloc (.cells #[.int .u8 (48 + (n : Int) % 10)] t)).heap.size 1 (some ⟨w.heap.size, 0, none⟩) 1 (bvs [dg n]) := by
  rw [dg_val]
  exact (row_alloc w t [bv (dg n)]).reads rfl
theorem exec_dg {ρ : Operand → Value} {o : Oper} (n : Nat) (w : World) (x : Operand) (ho : o.op = .convert 46 9 x) (hx : ρ x = .slice (some ⟨w.heap.size, 0, none⟩) 1 1) :
    (execOp ρ o).run Tryd.prog (w.alloc (.cells #[.int .u8 (48 + (n : Int) % 10)] 5)) = .ok (.value (.string (mk [dg n]))) (w.alloc (.cells #[.int .u8 (48 + (n : Int) % 10)] 5)) :=
  exec_string_of _ 46 9 5 x ho Tryd.underlying46 Tryd.underlying5 Tryd.underlying9 hx (dg_reads n w _)
set_option maxRecDepth 100000 in
set_option maxHeartbeats 4000000 in
theorem decimal_any (x : Nat) (w : World) (hx : x < 1000000000) : Calls Tryd.prog 17 #[.int .i64 (x : Int)] w (TellsS (mk (dec 20 x)) w) := by
  unfold TellsS
  obtain ⟨D, hD⟩ : ∃ D, D = mk (dec 20 x) := ⟨_, rfl⟩
  have HDD := Lib.hid hD
  rw [← hD]
  clear hD
  have Hms : ∀ n, Hid ((mk [dg n]).size = 1) := fun n => Lib.hid rfl
  go_enter Tryd.func17, Tryd.ntmps17
  go_wp2_with ((with_reducible refine wpList_at ⟨some 10, _, _, _, _, _⟩ ?_); refine wpList_valueG rfl _ (by exact exec_dg x w _ rfl rfl) ?_)
  go_loopg [0, 3, 4] 20 (fun g s0 s3 s4 wr => ∃ (m k : Nat) (y : ByteArray) (r : List UInt8), Hid (k + g = 20) ∧ k ≤ 20 ∧ m < 1000000000 ∧ s0 = .int .i64 (m : Int) ∧ s3 = .string y ∧ s4 = .int .i64 (k : Int) ∧ y.size ≤ k + 1 ∧ Hid (tl y = dg m :: r) ∧ Hid (dec 20 x = dec (20 - k) m ++ r) ∧ Below w.heap.size w wr)
  case atStart => exact ⟨x, 0, mk [dg x], [], by show _ = _; omega, by omega, hx, rfl, rfl, rfl, by rw [(Hms x).out]; omega, Lib.hid (tl_mk _), Lib.hid (by simp), (Below.refl _ _).alloc (Nat.le_refl _) _⟩
  case round =>
    obtain ⟨m, k, y, r, HK, hk, hm, rfl, rfl, rfl, hys, HY, HR, hB⟩ := hrel
    have HEND : Hid (dec (20 - k) m = [dg m] → y = D) := Lib.hid fun h => by
      rw [HDD.out, HR.out, h]
      refine ba_ext ?_
      rw [HY.out, tl_mk]
      rfl
    by_cases hk20 : k < 20
    · have q1 : decide ((k : Int) < 20) = true := decide_eq_true (by omega)
      by_cases h9 : m ≤ 9
      · have q2 : decide ((9 : Int) < (m : Int)) = false := decide_eq_false (by omega)
        have HE := Lib.hid (HEND.out (dec_small h9))
        go_wp2_with fail
        go_ret
        exact ⟨by rw [← HE.out]; rfl, hB⟩
      · have q2 : decide ((9 : Int) < (m : Int)) = true := decide_eq_true (by omega)
        have hdb := dec_big (f := 19 - k) h9
        have hs0 : (mk [dg (m / 10)] ++ y : ByteArray).size = y.size + 1 := by rw [← tl_len, tl_app, List.length_append, tl_mk, tl_len]; simp; omega
        have HS0 := Lib.hid hs0
        have HY2 : Hid (tl (mk [dg (m / 10)] ++ y) = dg (m / 10) :: dg m :: r) := Lib.hid (by rw [tl_app, tl_mk, HY.out]; rfl)
        have HR2 : Hid (dec 20 x = dec (20 - (k + 1)) (m / 10) ++ (dg m :: r)) := Lib.hid (by rw [HR.out, show 20 - k = (19 - k) + 1 by omega, hdb, List.append_assoc, show 20 - (k + 1) = 19 - k by omega]; rfl)
        have hm1 := (Hms (m / 10)).out
        have hms : (mk [dg (m / 10)]).size ≤ 1 := by rw [hm1]; exact Nat.le_refl _
        clear hdb hs0 hm1
        go_wp2_with ((with_reducible refine wpList_at ⟨some 26, _, _, _, _, _⟩ ?_); refine wpList_valueG rfl _ (by exact exec_dg (m / 10) wr _ rfl rfl) ?_)
        go_roundg (gk - 1)
        case measure => have := HK.out; omega
        case rel => exact ⟨m / 10, k + 1, mk [dg (m / 10)] ++ y, dg m :: r, by have := HK.out; show _ = _; omega, by omega, by omega, by first | rfl | go_num, rfl, by go_num, by rw [HS0.out]; omega, HY2, HR2, hB.alloc hB.size _⟩
    · have q1 : decide ((k : Int) < 20) = false := decide_eq_false (by omega)
      obtain rfl : k = 20 := by omega
      have HE := Lib.hid (HEND.out rfl)
      go_wp2_with fail
      go_ret
      exact ⟨by rw [← HE.out]; rfl, hB⟩
end Go.Proofs.YtgliealofieenaaDoor
