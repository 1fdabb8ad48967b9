/-
  What the reference's number, Same, Alike and Show return: contracts by walks. No condition but bounded lengths.
-/
import Derived.Test.YtgliealofieenaaDoorLxE
set_option linter.unusedSimpArgs false
set_option linter.unusedVariables false
namespace Go.Proofs.YtgliealofieenaaDoor
open Go.RowKit

def numR (l : List UInt8) : Int := if numOK l = true then numV l else -1
set_option maxRecDepth 100000 in
set_option maxHeartbeats 8000000 in
theorem rnumber_any (s : ByteArray) (w : World) (hs : s.size ≤ 9223372036854775807) (h0 : 0 < s.size) (hd : ∀ c ∈ tl s, lxDig (bz c) = true) :
    Calls Tryd.prog 22 #[.string s] w (TellsN (numR (tl s)) w) := by
  have HD := Lib.hid hd
  have HLEN := Lib.hid (tl_len s)
  clear hd
  by_cases h5 : 5 < s.size
  · have q : decide ((5 : Int) < (s.size : Int)) = true := decide_eq_true (by omega)
    have HL : Hid (numR (tl s) = -1) := Lib.hid (by unfold numR; rw [numOK_long (by unfold numLong; rw [HLEN.out, decide_eq_true h5]; rfl), if_neg (by decide)])
    generalize numR (tl s) = V at *
    go_enter Tryd.func22, Tryd.ntmps22
    go_wp2_with fail
    go_ret
    exact ⟨by rw [HL.out]; rfl, rfl⟩
  · have q : decide ((5 : Int) < (s.size : Int)) = false := decide_eq_false (by omega)
    obtain ⟨c0, hc0⟩ : ∃ c, (tl s)[0]? = some c := ⟨_, tl_get h0⟩
    have HC0 := Lib.hid hc0
    have HLG : Hid (numLong (tl s) = (decide (1 < s.size) && (c0 == 48))) := Lib.hid (by
      unfold numLong
      rw [HLEN.out, decide_eq_false h5, Bool.false_or, List.head?_eq_getElem?, hc0]
      rfl)
    have HCE : Hid (((c0.toNat : Int) == 48) = (c0 == 48)) := Lib.hid (by
      rw [Bool.eq_iff_iff, beq_iff_eq, beq_iff_eq]
      constructor
      · intro e; exact UInt8.toNat_inj.1 (by rw [show (48 : UInt8).toNat = 48 from rfl]; omega)
      · rintro rfl; rfl)
    clear hc0
    have HOKF : Hid (∀ v : Int, numLong (tl s) = false → v = numV (tl s) → numR (tl s) = if v < 65536 then v else -1) := Lib.hid (by
      rintro v hl rfl
      unfold numR
      rw [numOK_end hl (List.all_eq_true.2 HD.out)]
      by_cases hq : numV (tl s) < 65536
      · rw [decide_eq_true hq, if_pos rfl, if_pos hq]
      · rw [decide_eq_false hq, if_neg (by decide), if_neg hq])
    have HNR : Hid (numLong (tl s) = true → numR (tl s) = -1) := Lib.hid fun h => by unfold numR; rw [numOK_long h, if_neg (by decide)]
    generalize numR (tl s) = V at *
    by_cases h48 : (c0 == 48) = true
    · have q2 : ((c0.toNat : Int) == 48) = true := by rw [HCE.out]; exact h48
      by_cases h1 : 1 < s.size
      · have q3 : decide ((1 : Int) < (s.size : Int)) = true := decide_eq_true (by omega)
        have HZ := Lib.hid (HNR.out (by rw [HLG.out, decide_eq_true h1, h48]; rfl))
        clear h48
        go_enter Tryd.func22, Tryd.ntmps22
        go_wp2_with ((with_reducible refine wpList_at ⟨some 10, _, _, _, _, _⟩ ?_); refine wpList_valueG rfl _ (by exact exec_idxS _ _ _ _ rfl Tryd.underlying9 s rfl .i64 0 rfl c0 HC0.out _ rfl) ?_)
        go_ret
        exact ⟨by rw [HZ.out]; rfl, rfl⟩
      · have q3 : decide ((1 : Int) < (s.size : Int)) = false := decide_eq_false (by omega)
        have HLF := Lib.hid (show numLong (tl s) = false by rw [HLG.out, decide_eq_false h1]; rfl)
        clear h48
        go_enter Tryd.func22, Tryd.ntmps22
        go_wp2_with ((with_reducible refine wpList_at ⟨some 10, _, _, _, _, _⟩ ?_); refine wpList_valueG rfl _ (by exact exec_idxS _ _ _ _ rfl Tryd.underlying9 s rfl .i64 0 rfl c0 HC0.out _ rfl) ?_)
        go_loopg [3, 4] s.size (fun g s3 s4 wr => ∃ (i : Nat) (v : Int), Hid (i + g = s.size) ∧ i ≤ s.size ∧ s4 = .int .i64 (i : Int) ∧ s3 = .int .i64 v ∧ Hid (v = numV ((tl s).take i)) ∧ 0 ≤ v ∧ v < 100000 ∧ wr = w)
        case atStart => exact ⟨0, 0, by show _ = _; omega, by omega, rfl, rfl, Lib.hid rfl, by omega, by omega, rfl⟩
        case round =>
          obtain ⟨i, v, HI, hi, rfl, rfl, HV, hv0, hv1, rfl⟩ := hrel
          by_cases hlt : i < s.size
          · obtain ⟨c, hc⟩ : ∃ c, (tl s)[i]? = some c := ⟨_, tl_get hlt⟩
            have HC := Lib.hid hc
            have hb := lxDig_iff.1 (HD.out c (List.mem_of_getElem? hc))
            unfold bz at hb
            have HV2 : Hid (10 * v + (c.toNat : Int) - 48 = numV ((tl s).take (i + 1))) := Lib.hid (by rw [take_snocD hc, numV_snoc, ← HV.out]; unfold bz; omega)
            have hsm := numV_small (w := (tl s).take (i + 1)) (fun x hx => HD.out x (List.mem_of_mem_take hx)) (by rw [List.length_take]; omega)
            rw [← HV2.out] at hsm
            have hq : decide ((i : Int) < (s.size : Int)) = true := decide_eq_true (by omega)
            have hq2 : decide (i < s.size) = true := decide_eq_true hlt
            clear hc
            go_wp2_with ((with_reducible refine wpList_at ⟨some 28, _, _, _, _, _⟩ ?_); refine wpList_valueG rfl _ (by exact exec_idxS _ _ _ _ rfl Tryd.underlying9 s rfl .i64 i rfl c HC.out _ rfl) ?_)
            go_roundg (gk - 1)
            case measure => have := HI.out; omega
            case rel => exact ⟨i + 1, 10 * v + (c.toNat : Int) - 48, by have := HI.out; show _ = _; omega, by omega, by go_num, by first | rfl | go_num, HV2, hsm.1, hsm.2, rfl⟩
          · obtain rfl : i = s.size := by omega
            have HE := Lib.hid (HOKF.out v HLF.out (by rw [HV.out, List.take_of_length_le (by rw [HLEN.out]; exact Nat.le_refl _)]))
            have hq : decide ((s.size : Int) < (s.size : Int)) = false := decide_eq_false (by omega)
            have hq2 : decide (s.size < s.size) = false := decide_eq_false hlt
            by_cases hbig : v < 65536
            · have q9 : decide ((65535 : Int) < v) = false := decide_eq_false (by omega)
              have HZ := Lib.hid (show V = v by rw [HE.out, if_pos hbig])
              go_wp2_with fail
              go_ret
              exact ⟨by rw [HZ.out]; rfl, rfl⟩
            · have q9 : decide ((65535 : Int) < v) = true := decide_eq_true (by omega)
              have HZ := Lib.hid (show V = -1 by rw [HE.out, if_neg hbig])
              go_wp2_with fail
              go_ret
              exact ⟨by rw [HZ.out]; rfl, rfl⟩
    · have q2 : ((c0.toNat : Int) == 48) = false := by rw [HCE.out]; exact not_of h48
      have HLF := Lib.hid (show numLong (tl s) = false by rw [HLG.out, not_of h48, Bool.and_false])
      clear h48
      go_enter Tryd.func22, Tryd.ntmps22
      go_wp2_with ((with_reducible refine wpList_at ⟨some 10, _, _, _, _, _⟩ ?_); refine wpList_valueG rfl _ (by exact exec_idxS _ _ _ _ rfl Tryd.underlying9 s rfl .i64 0 rfl c0 HC0.out _ rfl) ?_)
      go_loopg [3, 4] s.size (fun g s3 s4 wr => ∃ (i : Nat) (v : Int), Hid (i + g = s.size) ∧ i ≤ s.size ∧ s4 = .int .i64 (i : Int) ∧ s3 = .int .i64 v ∧ Hid (v = numV ((tl s).take i)) ∧ 0 ≤ v ∧ v < 100000 ∧ wr = w)
      case atStart => exact ⟨0, 0, by show _ = _; omega, by omega, rfl, rfl, Lib.hid rfl, by omega, by omega, rfl⟩
      case round =>
        obtain ⟨i, v, HI, hi, rfl, rfl, HV, hv0, hv1, rfl⟩ := hrel
        by_cases hlt : i < s.size
        · obtain ⟨c, hc⟩ : ∃ c, (tl s)[i]? = some c := ⟨_, tl_get hlt⟩
          have HC := Lib.hid hc
          have hb := lxDig_iff.1 (HD.out c (List.mem_of_getElem? hc))
          unfold bz at hb
          have HV2 : Hid (10 * v + (c.toNat : Int) - 48 = numV ((tl s).take (i + 1))) := Lib.hid (by rw [take_snocD hc, numV_snoc, ← HV.out]; unfold bz; omega)
          have hsm := numV_small (w := (tl s).take (i + 1)) (fun x hx => HD.out x (List.mem_of_mem_take hx)) (by rw [List.length_take]; omega)
          rw [← HV2.out] at hsm
          have hq : decide ((i : Int) < (s.size : Int)) = true := decide_eq_true (by omega)
          have hq2 : decide (i < s.size) = true := decide_eq_true hlt
          clear hc
          go_wp2_with ((with_reducible refine wpList_at ⟨some 28, _, _, _, _, _⟩ ?_); refine wpList_valueG rfl _ (by exact exec_idxS _ _ _ _ rfl Tryd.underlying9 s rfl .i64 i rfl c HC.out _ rfl) ?_)
          go_roundg (gk - 1)
          case measure => have := HI.out; omega
          case rel => exact ⟨i + 1, 10 * v + (c.toNat : Int) - 48, by have := HI.out; show _ = _; omega, by omega, by go_num, by first | rfl | go_num, HV2, hsm.1, hsm.2, rfl⟩
        · obtain rfl : i = s.size := by omega
          have HE := Lib.hid (HOKF.out v HLF.out (by rw [HV.out, List.take_of_length_le (by rw [HLEN.out]; exact Nat.le_refl _)]))
          have hq : decide ((s.size : Int) < (s.size : Int)) = false := decide_eq_false (by omega)
          have hq2 : decide (s.size < s.size) = false := decide_eq_false hlt
          by_cases hbig : v < 65536
          · have q9 : decide ((65535 : Int) < v) = false := decide_eq_false (by omega)
            have HZ := Lib.hid (show V = v by rw [HE.out, if_pos hbig])
            go_wp2_with fail
            go_ret
            exact ⟨by rw [HZ.out]; rfl, rfl⟩
          · have q9 : decide ((65535 : Int) < v) = true := decide_eq_true (by omega)
            have HZ := Lib.hid (show V = -1 by rw [HE.out, if_neg hbig])
            go_wp2_with fail
            go_ret
            exact ⟨by rw [HZ.out]; rfl, rfl⟩
end Go.Proofs.YtgliealofieenaaDoor
