/-
  What the reference's sign, number, Show, Same and Alike return: contracts by walks. No condition but bounded lengths.
-/
import Derived.Test.YtgliealofieenaaDoorLxD
set_option linter.unusedSimpArgs false
set_option linter.unusedVariables false
namespace Go.Proofs.YtgliealofieenaaDoor
open Go.RowKit

/-! ## The reference -/
theorem rn_toList (m : ByteArray) : m.toList = tl m := by rw [ByteArray.toList_eq]; rfl
def ssz (l : List UInt8) : Int := (sgn l : Int)
set_option maxRecDepth 100000 in
set_option maxHeartbeats 8000000 in
theorem rsign_any (s : ByteArray) (p : Nat) (w : World) (hs : s.size ≤ 9223372036854775000) (hp : p < s.size) :
    Calls Tryd.prog 21 #[.string s, .int .i64 (p : Int)] w (TellsN (sgn ((tl s).drop p)) w) := by
  obtain ⟨a, ha⟩ : ∃ a, (tl s)[p]? = some a := ⟨_, tl_get hp⟩
  have HA := Lib.hid ha
  have hlt := (List.getElem?_eq_some_iff.1 ha)
  obtain ⟨hl, he⟩ := hlt
  have HD : Hid ((tl s).drop p = a :: (tl s).drop (p + 1)) := Lib.hid (by rw [List.drop_eq_getElem_cons hl, he])
  have HLEN := Lib.hid (tl_len s)
  clear he
  by_cases h2 : p + 2 ≤ s.size
  · obtain ⟨b, hb⟩ : ∃ b, (tl s)[p + 1]? = some b := ⟨_, tl_get (by omega)⟩
    have hlb := (List.getElem?_eq_some_iff.1 hb)
    obtain ⟨hl2, he2⟩ := hlb
    have HD2 : Hid ((tl s).drop p = a :: b :: (tl s).drop (p + 2)) := Lib.hid (by rw [HD.out, List.drop_eq_getElem_cons hl2, he2])
    have HT : Hid ((s.extract p (p + 2)).toList = [a, b]) := Lib.hid (by
      rw [rn_toList, tl_extract, HD2.out, show p + 2 - p = 2 by omega]; rfl)
    have q : decide ((p : Int) + 2 ≤ (s.size : Int)) = true := decide_eq_true (by omega)
    have qn : decide (p + 2 ≤ s.size) = true := decide_eq_true h2
    clear hb he2 ha
    by_cases htw : two a b = true
    · have HS : Hid (sgn ((tl s).drop p) = 2) := Lib.hid (by rw [HD2.out, sgn_two, if_pos htw])
      generalize sgn ((tl s).drop p) = V at *
      obtain rfl := HS.out
      have hsp := two_iff.1 htw
      clear htw
      rcases hsp with ⟨rfl, rfl⟩ | ⟨rfl, rfl⟩ | ⟨rfl, rfl⟩ | ⟨rfl, rfl⟩
      · have hT := HT.out
        have t0 : ((s.extract p (p + 2)).toList == [61, 61]) = true := by rw [HT.out]; decide
        clear hT
        go_enter Tryd.func21, Tryd.ntmps21
        go_wp2_with fail
        go_ret
        exact ⟨rfl, rfl⟩
      · have hT := HT.out
        have t0 : ((s.extract p (p + 2)).toList == [61, 61]) = false := by rw [HT.out]; decide
        have t1 : ((s.extract p (p + 2)).toList == [38, 38]) = true := by rw [HT.out]; decide
        clear hT
        go_enter Tryd.func21, Tryd.ntmps21
        go_wp2_with fail
        go_ret
        exact ⟨rfl, rfl⟩
      · have hT := HT.out
        have t0 : ((s.extract p (p + 2)).toList == [61, 61]) = false := by rw [HT.out]; decide
        have t1 : ((s.extract p (p + 2)).toList == [38, 38]) = false := by rw [HT.out]; decide
        have t2 : ((s.extract p (p + 2)).toList == [124, 124]) = true := by rw [HT.out]; decide
        clear hT
        go_enter Tryd.func21, Tryd.ntmps21
        go_wp2_with fail
        go_ret
        exact ⟨rfl, rfl⟩
      · have hT := HT.out
        have t0 : ((s.extract p (p + 2)).toList == [61, 61]) = false := by rw [HT.out]; decide
        have t1 : ((s.extract p (p + 2)).toList == [38, 38]) = false := by rw [HT.out]; decide
        have t2 : ((s.extract p (p + 2)).toList == [124, 124]) = false := by rw [HT.out]; decide
        have t3 : ((s.extract p (p + 2)).toList == [62, 61]) = true := by rw [HT.out]; decide
        clear hT
        go_enter Tryd.func21, Tryd.ntmps21
        go_wp2_with fail
        go_ret
        exact ⟨rfl, rfl⟩
    · have hno := mt two_iff.2 htw
      have t0 : ((s.extract p (p + 2)).toList == [61, 61]) = false := by rw [HT.out, beq_eq_false_iff_ne]; intro e; injection e with e1 e2; injection e2 with e2 _; exact hno (by subst e1 e2; simp)
      have t1 : ((s.extract p (p + 2)).toList == [38, 38]) = false := by rw [HT.out, beq_eq_false_iff_ne]; intro e; injection e with e1 e2; injection e2 with e2 _; exact hno (by subst e1 e2; simp)
      have t2 : ((s.extract p (p + 2)).toList == [124, 124]) = false := by rw [HT.out, beq_eq_false_iff_ne]; intro e; injection e with e1 e2; injection e2 with e2 _; exact hno (by subst e1 e2; simp)
      have t3 : ((s.extract p (p + 2)).toList == [62, 61]) = false := by rw [HT.out, beq_eq_false_iff_ne]; intro e; injection e with e1 e2; injection e2 with e2 _; exact hno (by subst e1 e2; simp)
      have HV : Hid (sgn ((tl s).drop p) = if one a = true then 1 else 0) := Lib.hid (by rw [HD2.out, sgn_two, if_neg htw])
      clear htw hno
      generalize sgn ((tl s).drop p) = V at *
      by_cases ho : one a = true
      · have HS := Lib.hid (show V = 1 by rw [HV.out, if_pos ho])
        obtain rfl := HS.out
        have hsp := one_iff.1 ho
        clear ho HV
        rcases hsp with rfl | rfl | rfl | rfl | rfl | rfl | rfl | rfl | rfl | rfl | rfl
        · go_enter Tryd.func21, Tryd.ntmps21
          go_wp2_with ((with_reducible refine wpList_at ⟨some 24, _, _, _, _, _⟩ ?_); refine wpList_valueG rfl _ (by exact exec_idxS _ _ _ _ rfl Tryd.underlying9 s rfl .i64 p rfl 123 HA.out 123 rfl) ?_)
          go_ret
          exact ⟨rfl, rfl⟩
        · go_enter Tryd.func21, Tryd.ntmps21
          go_wp2_with ((with_reducible refine wpList_at ⟨some 24, _, _, _, _, _⟩ ?_); refine wpList_valueG rfl _ (by exact exec_idxS _ _ _ _ rfl Tryd.underlying9 s rfl .i64 p rfl 125 HA.out 125 rfl) ?_)
          go_ret
          exact ⟨rfl, rfl⟩
        · go_enter Tryd.func21, Tryd.ntmps21
          go_wp2_with ((with_reducible refine wpList_at ⟨some 24, _, _, _, _, _⟩ ?_); refine wpList_valueG rfl _ (by exact exec_idxS _ _ _ _ rfl Tryd.underlying9 s rfl .i64 p rfl 40 HA.out 40 rfl) ?_)
          go_ret
          exact ⟨rfl, rfl⟩
        · go_enter Tryd.func21, Tryd.ntmps21
          go_wp2_with ((with_reducible refine wpList_at ⟨some 24, _, _, _, _, _⟩ ?_); refine wpList_valueG rfl _ (by exact exec_idxS _ _ _ _ rfl Tryd.underlying9 s rfl .i64 p rfl 41 HA.out 41 rfl) ?_)
          go_ret
          exact ⟨rfl, rfl⟩
        · go_enter Tryd.func21, Tryd.ntmps21
          go_wp2_with ((with_reducible refine wpList_at ⟨some 24, _, _, _, _, _⟩ ?_); refine wpList_valueG rfl _ (by exact exec_idxS _ _ _ _ rfl Tryd.underlying9 s rfl .i64 p rfl 59 HA.out 59 rfl) ?_)
          go_ret
          exact ⟨rfl, rfl⟩
        · go_enter Tryd.func21, Tryd.ntmps21
          go_wp2_with ((with_reducible refine wpList_at ⟨some 24, _, _, _, _, _⟩ ?_); refine wpList_valueG rfl _ (by exact exec_idxS _ _ _ _ rfl Tryd.underlying9 s rfl .i64 p rfl 61 HA.out 61 rfl) ?_)
          go_ret
          exact ⟨rfl, rfl⟩
        · go_enter Tryd.func21, Tryd.ntmps21
          go_wp2_with ((with_reducible refine wpList_at ⟨some 24, _, _, _, _, _⟩ ?_); refine wpList_valueG rfl _ (by exact exec_idxS _ _ _ _ rfl Tryd.underlying9 s rfl .i64 p rfl 43 HA.out 43 rfl) ?_)
          go_ret
          exact ⟨rfl, rfl⟩
        · go_enter Tryd.func21, Tryd.ntmps21
          go_wp2_with ((with_reducible refine wpList_at ⟨some 24, _, _, _, _, _⟩ ?_); refine wpList_valueG rfl _ (by exact exec_idxS _ _ _ _ rfl Tryd.underlying9 s rfl .i64 p rfl 45 HA.out 45 rfl) ?_)
          go_ret
          exact ⟨rfl, rfl⟩
        · go_enter Tryd.func21, Tryd.ntmps21
          go_wp2_with ((with_reducible refine wpList_at ⟨some 24, _, _, _, _, _⟩ ?_); refine wpList_valueG rfl _ (by exact exec_idxS _ _ _ _ rfl Tryd.underlying9 s rfl .i64 p rfl 42 HA.out 42 rfl) ?_)
          go_ret
          exact ⟨rfl, rfl⟩
        · go_enter Tryd.func21, Tryd.ntmps21
          go_wp2_with ((with_reducible refine wpList_at ⟨some 24, _, _, _, _, _⟩ ?_); refine wpList_valueG rfl _ (by exact exec_idxS _ _ _ _ rfl Tryd.underlying9 s rfl .i64 p rfl 60 HA.out 60 rfl) ?_)
          go_ret
          exact ⟨rfl, rfl⟩
        · go_enter Tryd.func21, Tryd.ntmps21
          go_wp2_with ((with_reducible refine wpList_at ⟨some 24, _, _, _, _, _⟩ ?_); refine wpList_valueG rfl _ (by exact exec_idxS _ _ _ _ rfl Tryd.underlying9 s rfl .i64 p rfl 33 HA.out 33 rfl) ?_)
          go_ret
          exact ⟨rfl, rfl⟩
      · have HS := Lib.hid (show V = 0 by rw [HV.out, if_neg ho])
        obtain rfl := HS.out
        have hno2 := mt one_iff.2 ho
        have o123 : ((a.toNat : Int) == 123) = false := by rw [beq_eq_false_iff_ne]; intro e; have e1 : a = 123 := UInt8.toNat_inj.1 (by rw [show (123 : UInt8).toNat = 123 from rfl]; omega); exact hno2 (by subst e1; simp)
        have o125 : ((a.toNat : Int) == 125) = false := by rw [beq_eq_false_iff_ne]; intro e; have e1 : a = 125 := UInt8.toNat_inj.1 (by rw [show (125 : UInt8).toNat = 125 from rfl]; omega); exact hno2 (by subst e1; simp)
        have o40 : ((a.toNat : Int) == 40) = false := by rw [beq_eq_false_iff_ne]; intro e; have e1 : a = 40 := UInt8.toNat_inj.1 (by rw [show (40 : UInt8).toNat = 40 from rfl]; omega); exact hno2 (by subst e1; simp)
        have o41 : ((a.toNat : Int) == 41) = false := by rw [beq_eq_false_iff_ne]; intro e; have e1 : a = 41 := UInt8.toNat_inj.1 (by rw [show (41 : UInt8).toNat = 41 from rfl]; omega); exact hno2 (by subst e1; simp)
        have o59 : ((a.toNat : Int) == 59) = false := by rw [beq_eq_false_iff_ne]; intro e; have e1 : a = 59 := UInt8.toNat_inj.1 (by rw [show (59 : UInt8).toNat = 59 from rfl]; omega); exact hno2 (by subst e1; simp)
        have o61 : ((a.toNat : Int) == 61) = false := by rw [beq_eq_false_iff_ne]; intro e; have e1 : a = 61 := UInt8.toNat_inj.1 (by rw [show (61 : UInt8).toNat = 61 from rfl]; omega); exact hno2 (by subst e1; simp)
        have o43 : ((a.toNat : Int) == 43) = false := by rw [beq_eq_false_iff_ne]; intro e; have e1 : a = 43 := UInt8.toNat_inj.1 (by rw [show (43 : UInt8).toNat = 43 from rfl]; omega); exact hno2 (by subst e1; simp)
        have o45 : ((a.toNat : Int) == 45) = false := by rw [beq_eq_false_iff_ne]; intro e; have e1 : a = 45 := UInt8.toNat_inj.1 (by rw [show (45 : UInt8).toNat = 45 from rfl]; omega); exact hno2 (by subst e1; simp)
        have o42 : ((a.toNat : Int) == 42) = false := by rw [beq_eq_false_iff_ne]; intro e; have e1 : a = 42 := UInt8.toNat_inj.1 (by rw [show (42 : UInt8).toNat = 42 from rfl]; omega); exact hno2 (by subst e1; simp)
        have o60 : ((a.toNat : Int) == 60) = false := by rw [beq_eq_false_iff_ne]; intro e; have e1 : a = 60 := UInt8.toNat_inj.1 (by rw [show (60 : UInt8).toNat = 60 from rfl]; omega); exact hno2 (by subst e1; simp)
        have o33 : ((a.toNat : Int) == 33) = false := by rw [beq_eq_false_iff_ne]; intro e; have e1 : a = 33 := UInt8.toNat_inj.1 (by rw [show (33 : UInt8).toNat = 33 from rfl]; omega); exact hno2 (by subst e1; simp)
        clear ho HV hno2
        go_enter Tryd.func21, Tryd.ntmps21
        go_wp2_with ((with_reducible refine wpList_at ⟨some 24, _, _, _, _, _⟩ ?_); refine wpList_valueG rfl _ (by exact exec_idxS _ _ _ _ rfl Tryd.underlying9 s rfl .i64 p rfl a HA.out _ rfl) ?_)
        go_ret
        exact ⟨rfl, rfl⟩
  · have q : decide ((p : Int) + 2 ≤ (s.size : Int)) = false := decide_eq_false (by omega)
    have qn : decide (p + 2 ≤ s.size) = false := decide_eq_false h2
    have HV : Hid (sgn ((tl s).drop p) = if one a = true then 1 else 0) := Lib.hid (by rw [HD.out, List.drop_of_length_le (by rw [HLEN.out]; omega), sgn_one])
    clear ha
    generalize sgn ((tl s).drop p) = V at *
    by_cases ho : one a = true
    · have HS := Lib.hid (show V = 1 by rw [HV.out, if_pos ho])
      obtain rfl := HS.out
      have hsp := one_iff.1 ho
      clear ho HV
      rcases hsp with rfl | rfl | rfl | rfl | rfl | rfl | rfl | rfl | rfl | rfl | rfl
      · go_enter Tryd.func21, Tryd.ntmps21
        go_wp2_with ((with_reducible refine wpList_at ⟨some 24, _, _, _, _, _⟩ ?_); refine wpList_valueG rfl _ (by exact exec_idxS _ _ _ _ rfl Tryd.underlying9 s rfl .i64 p rfl 123 HA.out 123 rfl) ?_)
        go_ret
        exact ⟨rfl, rfl⟩
      · go_enter Tryd.func21, Tryd.ntmps21
        go_wp2_with ((with_reducible refine wpList_at ⟨some 24, _, _, _, _, _⟩ ?_); refine wpList_valueG rfl _ (by exact exec_idxS _ _ _ _ rfl Tryd.underlying9 s rfl .i64 p rfl 125 HA.out 125 rfl) ?_)
        go_ret
        exact ⟨rfl, rfl⟩
      · go_enter Tryd.func21, Tryd.ntmps21
        go_wp2_with ((with_reducible refine wpList_at ⟨some 24, _, _, _, _, _⟩ ?_); refine wpList_valueG rfl _ (by exact exec_idxS _ _ _ _ rfl Tryd.underlying9 s rfl .i64 p rfl 40 HA.out 40 rfl) ?_)
        go_ret
        exact ⟨rfl, rfl⟩
      · go_enter Tryd.func21, Tryd.ntmps21
        go_wp2_with ((with_reducible refine wpList_at ⟨some 24, _, _, _, _, _⟩ ?_); refine wpList_valueG rfl _ (by exact exec_idxS _ _ _ _ rfl Tryd.underlying9 s rfl .i64 p rfl 41 HA.out 41 rfl) ?_)
        go_ret
        exact ⟨rfl, rfl⟩
      · go_enter Tryd.func21, Tryd.ntmps21
        go_wp2_with ((with_reducible refine wpList_at ⟨some 24, _, _, _, _, _⟩ ?_); refine wpList_valueG rfl _ (by exact exec_idxS _ _ _ _ rfl Tryd.underlying9 s rfl .i64 p rfl 59 HA.out 59 rfl) ?_)
        go_ret
        exact ⟨rfl, rfl⟩
      · go_enter Tryd.func21, Tryd.ntmps21
        go_wp2_with ((with_reducible refine wpList_at ⟨some 24, _, _, _, _, _⟩ ?_); refine wpList_valueG rfl _ (by exact exec_idxS _ _ _ _ rfl Tryd.underlying9 s rfl .i64 p rfl 61 HA.out 61 rfl) ?_)
        go_ret
        exact ⟨rfl, rfl⟩
      · go_enter Tryd.func21, Tryd.ntmps21
        go_wp2_with ((with_reducible refine wpList_at ⟨some 24, _, _, _, _, _⟩ ?_); refine wpList_valueG rfl _ (by exact exec_idxS _ _ _ _ rfl Tryd.underlying9 s rfl .i64 p rfl 43 HA.out 43 rfl) ?_)
        go_ret
        exact ⟨rfl, rfl⟩
      · go_enter Tryd.func21, Tryd.ntmps21
        go_wp2_with ((with_reducible refine wpList_at ⟨some 24, _, _, _, _, _⟩ ?_); refine wpList_valueG rfl _ (by exact exec_idxS _ _ _ _ rfl Tryd.underlying9 s rfl .i64 p rfl 45 HA.out 45 rfl) ?_)
        go_ret
        exact ⟨rfl, rfl⟩
      · go_enter Tryd.func21, Tryd.ntmps21
        go_wp2_with ((with_reducible refine wpList_at ⟨some 24, _, _, _, _, _⟩ ?_); refine wpList_valueG rfl _ (by exact exec_idxS _ _ _ _ rfl Tryd.underlying9 s rfl .i64 p rfl 42 HA.out 42 rfl) ?_)
        go_ret
        exact ⟨rfl, rfl⟩
      · go_enter Tryd.func21, Tryd.ntmps21
        go_wp2_with ((with_reducible refine wpList_at ⟨some 24, _, _, _, _, _⟩ ?_); refine wpList_valueG rfl _ (by exact exec_idxS _ _ _ _ rfl Tryd.underlying9 s rfl .i64 p rfl 60 HA.out 60 rfl) ?_)
        go_ret
        exact ⟨rfl, rfl⟩
      · go_enter Tryd.func21, Tryd.ntmps21
        go_wp2_with ((with_reducible refine wpList_at ⟨some 24, _, _, _, _, _⟩ ?_); refine wpList_valueG rfl _ (by exact exec_idxS _ _ _ _ rfl Tryd.underlying9 s rfl .i64 p rfl 33 HA.out 33 rfl) ?_)
        go_ret
        exact ⟨rfl, rfl⟩
    · have HS := Lib.hid (show V = 0 by rw [HV.out, if_neg ho])
      obtain rfl := HS.out
      have hno2 := mt one_iff.2 ho
      have o123 : ((a.toNat : Int) == 123) = false := by rw [beq_eq_false_iff_ne]; intro e; have e1 : a = 123 := UInt8.toNat_inj.1 (by rw [show (123 : UInt8).toNat = 123 from rfl]; omega); exact hno2 (by subst e1; simp)
      have o125 : ((a.toNat : Int) == 125) = false := by rw [beq_eq_false_iff_ne]; intro e; have e1 : a = 125 := UInt8.toNat_inj.1 (by rw [show (125 : UInt8).toNat = 125 from rfl]; omega); exact hno2 (by subst e1; simp)
      have o40 : ((a.toNat : Int) == 40) = false := by rw [beq_eq_false_iff_ne]; intro e; have e1 : a = 40 := UInt8.toNat_inj.1 (by rw [show (40 : UInt8).toNat = 40 from rfl]; omega); exact hno2 (by subst e1; simp)
      have o41 : ((a.toNat : Int) == 41) = false := by rw [beq_eq_false_iff_ne]; intro e; have e1 : a = 41 := UInt8.toNat_inj.1 (by rw [show (41 : UInt8).toNat = 41 from rfl]; omega); exact hno2 (by subst e1; simp)
      have o59 : ((a.toNat : Int) == 59) = false := by rw [beq_eq_false_iff_ne]; intro e; have e1 : a = 59 := UInt8.toNat_inj.1 (by rw [show (59 : UInt8).toNat = 59 from rfl]; omega); exact hno2 (by subst e1; simp)
      have o61 : ((a.toNat : Int) == 61) = false := by rw [beq_eq_false_iff_ne]; intro e; have e1 : a = 61 := UInt8.toNat_inj.1 (by rw [show (61 : UInt8).toNat = 61 from rfl]; omega); exact hno2 (by subst e1; simp)
      have o43 : ((a.toNat : Int) == 43) = false := by rw [beq_eq_false_iff_ne]; intro e; have e1 : a = 43 := UInt8.toNat_inj.1 (by rw [show (43 : UInt8).toNat = 43 from rfl]; omega); exact hno2 (by subst e1; simp)
      have o45 : ((a.toNat : Int) == 45) = false := by rw [beq_eq_false_iff_ne]; intro e; have e1 : a = 45 := UInt8.toNat_inj.1 (by rw [show (45 : UInt8).toNat = 45 from rfl]; omega); exact hno2 (by subst e1; simp)
      have o42 : ((a.toNat : Int) == 42) = false := by rw [beq_eq_false_iff_ne]; intro e; have e1 : a = 42 := UInt8.toNat_inj.1 (by rw [show (42 : UInt8).toNat = 42 from rfl]; omega); exact hno2 (by subst e1; simp)
      have o60 : ((a.toNat : Int) == 60) = false := by rw [beq_eq_false_iff_ne]; intro e; have e1 : a = 60 := UInt8.toNat_inj.1 (by rw [show (60 : UInt8).toNat = 60 from rfl]; omega); exact hno2 (by subst e1; simp)
      have o33 : ((a.toNat : Int) == 33) = false := by rw [beq_eq_false_iff_ne]; intro e; have e1 : a = 33 := UInt8.toNat_inj.1 (by rw [show (33 : UInt8).toNat = 33 from rfl]; omega); exact hno2 (by subst e1; simp)
      clear ho HV hno2
      go_enter Tryd.func21, Tryd.ntmps21
      go_wp2_with ((with_reducible refine wpList_at ⟨some 24, _, _, _, _, _⟩ ?_); refine wpList_valueG rfl _ (by exact exec_idxS _ _ _ _ rfl Tryd.underlying9 s rfl .i64 p rfl a HA.out _ rfl) ?_)
      go_ret
      exact ⟨rfl, rfl⟩
end Go.Proofs.YtgliealofieenaaDoor
