/-
  What the reference's LevelOf, RaiseTo and told return: contracts by walks. Condition: the bits' range.
-/
import Derived.Test.YtfcbcclcmgheeaaRtS
set_option linter.unusedSimpArgs false
set_option linter.unusedVariables false
namespace Go.Proofs.Ytfcbcclcmgheeaa
open Go.RowKit

set_option maxRecDepth 100000 in
set_option maxHeartbeats 4000000 in
theorem clevelOf_any (g B : Nat) (bank : Int) (s : RtS) (hs : s.OK) (bits : Nat) (hb : bits ≤ 1000) (w : World) (hp : CuOK w g B s) :
    Calls Try.prog 22 #[.pointer (some ⟨g, 0, none⟩), .int .i64 bank, .int .i64 (bits : Int)] w (GivesU g B (rfLev bank bits s).1 (.int .i64 ((rfLev bank bits s).2 : Nat)) w) := by
  have HBT := fun (s : RtS) (hs : s.OK) (b : Nat) (hb : b ≤ 1000) (W : World) (h : CuOK W g B s) => Lib.hid (cbit_any g B s hs bank b hb W h)
  have HPL := fun (s : RtS) (hs : s.OK) (b : Nat) (hb : b ≤ 1000) (W : World) (h : CuOK W g B s) => Lib.hid (cpul_any g B s hs bank b hb W h)
  have HRW : Hid (∀ r b st, rfRead bank b (r + 1) st = if st.a.k ≠ 0 then (st, b) else if rtMaj bank st b then rfRead bank (b + 1) r (rtAcc3 bank st 1 b).1 else ((rtAcc3 bank st 1 b).1, b)) := Lib.hid fun r b st => rfl
  have HRZ : Hid (∀ b st, rfRead bank b 0 st = (st, b)) := Lib.hid fun b st => rfl
  unfold rfLev
  obtain ⟨FR, hFR⟩ : ∃ FR, FR = rfRead bank 0 bits s := ⟨_, rfl⟩
  rw [← hFR]
  have HFR := Lib.hid hFR
  clear hFR
  go_enter Try.func22, Try.ntmps22
  go_wp2_with fail
  go_loopg [7] bits (fun gh s7 wr => ∃ (b : Nat) (st : RtS), s7 = .int .i64 (b : Int) ∧ Hid (FR = rfRead bank b gh st) ∧ Hid (gh = bits - b) ∧ b ≤ bits ∧ st.OK ∧ CuOK wr g B st ∧ w.grownBy wr (some g))
  case atStart => exact ⟨0, s, rfl, HFR, by show _ = _; omega, by omega, hs, hp, World.grownBy.refl _ _⟩
  case round =>
    obtain ⟨b, st, rfl, HF, HG, hbb, stok, p1, G1⟩ := hrel
    have c6 := p1.st
    by_cases hlt : b < bits
    · by_cases h0 : st.a.k ≠ 0
      · obtain rfl : FR = (st, b) := by
          have := HG.out
          rw [HF.out, show gk = (gk - 1) + 1 by omega, HRW.out, if_pos h0]
        rw [decide_eq_true h0] at c6
        clear HF HFR h0
        simp only
        have HPW : Hid (∀ r j st, rfPuls bank j (r + 1) st = if st.a.k ≠ 0 then st else rfPuls bank (j + 1) r (rtAcc3 bank st 2 j).1) := Lib.hid fun r j st => rfl
        have HPZ : Hid (∀ j st, rfPuls bank j 0 st = st) := Lib.hid fun j st => rfl
        have hokp := stok
        obtain ⟨FP, hFP⟩ : ∃ FP, FP = rfPuls bank 0 b st := ⟨_, rfl⟩
        have HFP := Lib.hid hFP
        clear hFP
        go_wp2_with fail
        go_loopg [9] b (fun gh s9 wr => ∃ (j : Nat) (st2 : RtS), s9 = .int .i64 (j : Int) ∧ Hid (FP = rfPuls bank j gh st2) ∧ Hid (gh = b - j) ∧ j ≤ b ∧ st2.OK ∧ CuOK wr g B st2 ∧ w.grownBy wr (some g))
        case atStart => exact ⟨0, st, rfl, HFP, by show _ = _; omega, by omega, hokp, p1, G1⟩
        case round =>
          obtain ⟨j, st2, rfl, HJ, HG2, hj, hok2, p2, G2⟩ := hrel
          have c6 := p2.st
          by_cases hjl : j < b
          · by_cases h0 : st2.a.k ≠ 0
            · have HE : Hid (FP = st2) := Lib.hid (by
                have := HG2.out
                rw [HJ.out, show gk = (gk - 1) + 1 by omega, HPW.out, if_pos h0])
              rw [decide_eq_true h0] at c6
              clear h0
              go_wp2_with fail
              go_ret
              rw [show rfPuls bank 0 b st = st2 from HFP.out.symm.trans HE.out]
              exact ⟨rfl, p2, G2⟩
            · have HE : Hid (FP = rfPuls bank (j + 1) (gk - 1) (rtAcc3 bank st2 2 j).1) := Lib.hid (by
                have := HG2.out
                rw [HJ.out, show gk = (gk - 1) + 1 by omega, HPW.out, if_neg h0]; rfl)
              rw [decide_eq_false h0] at c6
              clear h0
              have HPU := HPL st2 hok2 j (by omega) wr p2
              have hok3 := rtAcc3_ok (bank := bank) (b := j) hok2 (show (2 : Int) ≠ 0 by decide)
              generalize (rtAcc3 bank st2 2 j).1 = st3 at *
              go_wp2_with fail
              refine HPU.out.mono ?_
              rintro e w4 ⟨⟨v, rfl⟩, p4, g4⟩
              go_wp2_with fail
              go_roundg (gk - 1)
              case measure => have := HG2.out; omega
              case rel => exact ⟨j + 1, st3, by go_num, HE, by have := HG2.out; show _ = _; omega, by omega, hok3, p4, grown_trans G2 g4⟩
          · obtain rfl : b = j := by omega
            have HE : Hid (FP = st2) := Lib.hid (by
              have := HG2.out
              rw [HJ.out, show gk = 0 by omega, HPZ.out])
            go_wp2_with fail
            go_ret
            rw [show rfPuls bank 0 b st = st2 from HFP.out.symm.trans HE.out]
            exact ⟨rfl, p2, G2⟩
      · have HBI := HBT st stok b (by omega) wr p1
        have st3ok := rtAcc3_ok (bank := bank) (b := b) stok (show (1 : Int) ≠ 0 by decide)
        obtain ⟨st3, hst3⟩ : ∃ st3, st3 = (rtAcc3 bank st 1 b).1 := ⟨_, rfl⟩
        cases hm : rtMaj bank st b with
        | false =>
          obtain rfl : FR = (st3, b) := by
            have := HG.out
            rw [HF.out, show gk = (gk - 1) + 1 by omega, HRW.out, if_neg h0, hm, hst3]; rfl
          rw [decide_eq_false h0] at c6
          rw [hm, ← hst3] at HBI
          rw [← hst3] at st3ok
          clear HF HFR h0 hm hst3
          simp only
          go_wp2_with fail
          refine HBI.out.mono ?_
          rintro e w2 ⟨rfl, p3, g3⟩
          have G3 := grown_trans G1 g3
          have HPW : Hid (∀ r j st, rfPuls bank j (r + 1) st = if st.a.k ≠ 0 then st else rfPuls bank (j + 1) r (rtAcc3 bank st 2 j).1) := Lib.hid fun r j st => rfl
          have HPZ : Hid (∀ j st, rfPuls bank j 0 st = st) := Lib.hid fun j st => rfl
          have hokp := st3ok
          obtain ⟨FP, hFP⟩ : ∃ FP, FP = rfPuls bank 0 b st3 := ⟨_, rfl⟩
          have HFP := Lib.hid hFP
          clear hFP
          go_wp2_with fail
          go_loopg [9] b (fun gh s9 wr => ∃ (j : Nat) (st2 : RtS), s9 = .int .i64 (j : Int) ∧ Hid (FP = rfPuls bank j gh st2) ∧ Hid (gh = b - j) ∧ j ≤ b ∧ st2.OK ∧ CuOK wr g B st2 ∧ w.grownBy wr (some g))
          case atStart => exact ⟨0, st3, rfl, HFP, by show _ = _; omega, by omega, hokp, p3, G3⟩
          case round =>
            obtain ⟨j, st2, rfl, HJ, HG2, hj, hok2, p2, G2⟩ := hrel
            have c6 := p2.st
            by_cases hjl : j < b
            · by_cases h0 : st2.a.k ≠ 0
              · have HE : Hid (FP = st2) := Lib.hid (by
                  have := HG2.out
                  rw [HJ.out, show gk = (gk - 1) + 1 by omega, HPW.out, if_pos h0])
                rw [decide_eq_true h0] at c6
                clear h0
                go_wp2_with fail
                go_ret
                rw [show rfPuls bank 0 b st3 = st2 from HFP.out.symm.trans HE.out]
                exact ⟨rfl, p2, G2⟩
              · have HE : Hid (FP = rfPuls bank (j + 1) (gk - 1) (rtAcc3 bank st2 2 j).1) := Lib.hid (by
                  have := HG2.out
                  rw [HJ.out, show gk = (gk - 1) + 1 by omega, HPW.out, if_neg h0]; rfl)
                rw [decide_eq_false h0] at c6
                clear h0
                have HPU := HPL st2 hok2 j (by omega) wr p2
                have hok3 := rtAcc3_ok (bank := bank) (b := j) hok2 (show (2 : Int) ≠ 0 by decide)
                generalize (rtAcc3 bank st2 2 j).1 = st3 at *
                go_wp2_with fail
                refine HPU.out.mono ?_
                rintro e w4 ⟨⟨v, rfl⟩, p4, g4⟩
                go_wp2_with fail
                go_roundg (gk - 1)
                case measure => have := HG2.out; omega
                case rel => exact ⟨j + 1, st3, by go_num, HE, by have := HG2.out; show _ = _; omega, by omega, hok3, p4, grown_trans G2 g4⟩
            · obtain rfl : b = j := by omega
              have HE : Hid (FP = st2) := Lib.hid (by
                have := HG2.out
                rw [HJ.out, show gk = 0 by omega, HPZ.out])
              go_wp2_with fail
              go_ret
              rw [show rfPuls bank 0 b st3 = st2 from HFP.out.symm.trans HE.out]
              exact ⟨rfl, p2, G2⟩
        | true =>
          have HE : Hid (FR = rfRead bank (b + 1) (gk - 1) st3) := Lib.hid (by
            have := HG.out
            rw [HF.out, show gk = (gk - 1) + 1 by omega, HRW.out, if_neg h0, hm, hst3]; rfl)
          rw [decide_eq_false h0] at c6
          rw [hm, ← hst3] at HBI
          rw [← hst3] at st3ok
          clear h0 hm hst3
          go_wp2_with fail
          refine HBI.out.mono ?_
          rintro e w2 ⟨rfl, p3, g3⟩
          go_wp2_with fail
          go_roundg (gk - 1)
          case measure => have := HG.out; omega
          case rel => exact ⟨b + 1, st3, by go_num, HE, by have := HG.out; show _ = _; omega, by omega, st3ok, p3, grown_trans G1 g3⟩
    · obtain rfl : b = bits := by omega
      obtain rfl : FR = (st, b) := by
        have := HG.out
        rw [HF.out, show gk = 0 by omega, HRZ.out]
      clear HF HFR
      simp only
      have HPW : Hid (∀ r j st, rfPuls bank j (r + 1) st = if st.a.k ≠ 0 then st else rfPuls bank (j + 1) r (rtAcc3 bank st 2 j).1) := Lib.hid fun r j st => rfl
      have HPZ : Hid (∀ j st, rfPuls bank j 0 st = st) := Lib.hid fun j st => rfl
      have hokp := stok
      obtain ⟨FP, hFP⟩ : ∃ FP, FP = rfPuls bank 0 b st := ⟨_, rfl⟩
      have HFP := Lib.hid hFP
      clear hFP
      go_wp2_with fail
      go_loopg [9] b (fun gh s9 wr => ∃ (j : Nat) (st2 : RtS), s9 = .int .i64 (j : Int) ∧ Hid (FP = rfPuls bank j gh st2) ∧ Hid (gh = b - j) ∧ j ≤ b ∧ st2.OK ∧ CuOK wr g B st2 ∧ w.grownBy wr (some g))
      case atStart => exact ⟨0, st, rfl, HFP, by show _ = _; omega, by omega, hokp, p1, G1⟩
      case round =>
        obtain ⟨j, st2, rfl, HJ, HG2, hj, hok2, p2, G2⟩ := hrel
        have c6 := p2.st
        by_cases hjl : j < b
        · by_cases h0 : st2.a.k ≠ 0
          · have HE : Hid (FP = st2) := Lib.hid (by
              have := HG2.out
              rw [HJ.out, show gk = (gk - 1) + 1 by omega, HPW.out, if_pos h0])
            rw [decide_eq_true h0] at c6
            clear h0
            go_wp2_with fail
            go_ret
            rw [show rfPuls bank 0 b st = st2 from HFP.out.symm.trans HE.out]
            exact ⟨rfl, p2, G2⟩
          · have HE : Hid (FP = rfPuls bank (j + 1) (gk - 1) (rtAcc3 bank st2 2 j).1) := Lib.hid (by
              have := HG2.out
              rw [HJ.out, show gk = (gk - 1) + 1 by omega, HPW.out, if_neg h0]; rfl)
            rw [decide_eq_false h0] at c6
            clear h0
            have HPU := HPL st2 hok2 j (by omega) wr p2
            have hok3 := rtAcc3_ok (bank := bank) (b := j) hok2 (show (2 : Int) ≠ 0 by decide)
            generalize (rtAcc3 bank st2 2 j).1 = st3 at *
            go_wp2_with fail
            refine HPU.out.mono ?_
            rintro e w4 ⟨⟨v, rfl⟩, p4, g4⟩
            go_wp2_with fail
            go_roundg (gk - 1)
            case measure => have := HG2.out; omega
            case rel => exact ⟨j + 1, st3, by go_num, HE, by have := HG2.out; show _ = _; omega, by omega, hok3, p4, grown_trans G2 g4⟩
        · obtain rfl : b = j := by omega
          have HE : Hid (FP = st2) := Lib.hid (by
            have := HG2.out
            rw [HJ.out, show gk = 0 by omega, HPZ.out])
          go_wp2_with fail
          go_ret
          rw [show rfPuls bank 0 b st = st2 from HFP.out.symm.trans HE.out]
          exact ⟨rfl, p2, G2⟩
set_option maxRecDepth 100000 in
set_option maxHeartbeats 4000000 in
theorem craiseTo_any (g B : Nat) (bank : Int) (s : RtS) (hs : s.OK) (bits target : Nat) (hb : bits ≤ 1000) (ht : target ≤ 1000) (w : World) (hp : CuOK w g B s) :
    Calls Try.prog 25 #[.pointer (some ⟨g, 0, none⟩), .int .i64 bank, .int .i64 (bits : Int), .int .i64 (target : Int)] w (GivesU g B (rfRaise bank bits target s).1 (.tuple #[.int .i64 ((rfRaise bank bits target s).2.1 : Nat), .int .i64 (if (rfRaise bank bits target s).2.2 then 12 else 0)]) w) := by
  have HBT := fun (s : RtS) (hs : s.OK) (b : Nat) (hb : b ≤ 1000) (W : World) (h : CuOK W g B s) => Lib.hid (cbit_any g B s hs bank b hb W h)
  have HPL := fun (s : RtS) (hs : s.OK) (b : Nat) (hb : b ≤ 1000) (W : World) (h : CuOK W g B s) => Lib.hid (cpul_any g B s hs bank b hb W h)
  have HLV := Lib.hid (clevelOf_any g B bank s hs bits hb w hp)
  have lok := rfLev_ok (bank := bank) (bits := bits) hs
  have lle := rfLev_le (bank := bank) (bits := bits) (s := s)
  have HUW : Hid (∀ r b st, rfUp bank b (r + 1) st = if st.a.k ≠ 0 then (st, b, false) else if rtMaj bank (rtAcc3 bank st 2 b).1 b then rfUp bank (b + 1) r (rtAcc3 bank (rtAcc3 bank st 2 b).1 1 b).1 else ((rtAcc3 bank (rtAcc3 bank st 2 b).1 1 b).1, b, true)) := Lib.hid fun r b st => rfl
  have HUZ : Hid (∀ b st, rfUp bank b 0 st = (st, b, false)) := Lib.hid fun b st => rfl
  unfold rfRaise
  generalize rfLev bank bits s = FL at *
  obtain ⟨sl, n⟩ := FL
  simp only at *
  obtain ⟨FU, hFU⟩ : ∃ FU, FU = rfUp bank n (target - n) sl := ⟨_, rfl⟩
  rw [← hFU]
  have HFU := Lib.hid hFU
  obtain ⟨X, hX⟩ : ∃ X : Int, X = (if FU.2.2 then 12 else 0) := ⟨_, rfl⟩
  rw [← hX]
  have HX := Lib.hid hX
  clear hX
  clear hFU hs hp
  go_enter Try.func25, Try.ntmps25
  go_wp2_with fail
  refine HLV.out.mono ?_
  rintro e w1 ⟨rfl, p0, G0⟩
  go_wp2_with fail
  go_loopg [10] (target - n) (fun gh s10 wr => ∃ (b : Nat) (st : RtS), s10 = .int .i64 (b : Int) ∧ Hid (FU = rfUp bank b gh st) ∧ Hid (gh = target - b) ∧ b ≤ 1000 ∧ st.OK ∧ CuOK wr g B st ∧ w.grownBy wr (some g))
  case atStart => exact ⟨n, sl, rfl, HFU, by show _ = _; omega, by omega, lok, p0, G0⟩
  case round =>
    obtain ⟨b, st, rfl, HF, HG, hbb, stok, p1, G1⟩ := hrel
    have c6 := p1.st
    by_cases hlt : b < target
    · by_cases h0 : st.a.k ≠ 0
      · obtain rfl : FU = (st, b, false) := by
          have := HG.out
          rw [HF.out, show gk = (gk - 1) + 1 by omega, HUW.out, if_pos h0]
        obtain rfl : X = 0 := HX.out
        rw [decide_eq_true h0] at c6
        clear HF HFU h0 HX
        go_wp2_with fail
        go_ret2
        exact ⟨rfl, p1, G1⟩
      · have HPU := HPL st stok b (by omega) wr p1
        have st2ok := rtAcc3_ok (bank := bank) (b := b) stok (show (2 : Int) ≠ 0 by decide)
        obtain ⟨st2, hst2⟩ : ∃ st2, st2 = (rtAcc3 bank st 2 b).1 := ⟨_, rfl⟩
        have HW1 : FU = if rtMaj bank st2 b then rfUp bank (b + 1) (gk - 1) (rtAcc3 bank st2 1 b).1 else ((rtAcc3 bank st2 1 b).1, b, true) := by
          have := HG.out
          rw [HF.out, show gk = (gk - 1) + 1 by omega, HUW.out, if_neg h0, hst2]; rfl
        rw [← hst2] at HPU st2ok
        rw [decide_eq_false h0] at c6
        clear h0 hst2
        have HBI := fun W h => HBT st2 st2ok b (by omega) W h
        have st3ok := rtAcc3_ok (bank := bank) (b := b) st2ok (show (1 : Int) ≠ 0 by decide)
        obtain ⟨st3, hst3⟩ : ∃ st3, st3 = (rtAcc3 bank st2 1 b).1 := ⟨_, rfl⟩
        rw [← hst3] at HW1 HBI st3ok
        clear hst3
        cases hm : rtMaj bank st2 b with
        | false =>
          obtain rfl : FU = (st3, b, true) := by rw [HW1, hm]; rfl
          obtain rfl : X = 12 := HX.out
          rw [hm] at HBI
          clear HF HFU hm HW1 HX
          go_wp2_with fail
          refine HPU.out.mono ?_
          rintro e w2 ⟨⟨v, rfl⟩, p2, g2⟩
          go_wp2_with fail
          refine ((HBI w2 p2).out).mono ?_
          rintro e w3 ⟨rfl, p3, g3⟩
          go_wp2_with fail
          go_ret2
          exact ⟨rfl, p3, grown_trans (grown_trans G1 g2) g3⟩
        | true =>
          have HE : Hid (FU = rfUp bank (b + 1) (gk - 1) st3) := Lib.hid (by rw [HW1, hm]; rfl)
          rw [hm] at HBI
          clear hm HW1
          go_wp2_with fail
          refine HPU.out.mono ?_
          rintro e w2 ⟨⟨v, rfl⟩, p2, g2⟩
          go_wp2_with fail
          refine ((HBI w2 p2).out).mono ?_
          rintro e w3 ⟨rfl, p3, g3⟩
          go_wp2_with fail
          go_roundg (gk - 1)
          case measure => have := HG.out; omega
          case rel => exact ⟨b + 1, st3, by go_num, HE, by have := HG.out; show _ = _; omega, by omega, st3ok, p3, grown_trans (grown_trans G1 g2) g3⟩
    · obtain rfl : FU = (st, b, false) := by
        have := HG.out
        rw [HF.out, show gk = 0 by omega, HUZ.out]
      obtain rfl : X = 0 := HX.out
      clear HF HFU HX
      go_wp2_with fail
      go_ret2
      exact ⟨rfl, p1, G1⟩
set_option maxRecDepth 100000 in
set_option maxHeartbeats 4000000 in
theorem ctold_any (g B : Nat) (s : RtS) (n e : Int) (w : World) (hp : CuOK w g B s) :
    Calls Try.prog 23 #[.pointer (some ⟨g, 0, none⟩), .int .i64 n, .int .i64 e] w (GivesS (rtEnd s n e) w) := by
  have hgl := hp.lt
  have hBg := hp.le
  by_cases h0 : s.a.k ≠ 0
  · have hst := decide_eq_true h0
    have HE : Hid (rtEnd s n e = (s.a, noO, false)) := Lib.hid (if_neg h0)
    rw [HE.out]
    clear HE h0
    go_enter Try.func23, Try.ntmps23
    go_wp2_with (first
      | (with_reducible refine wpList_alloc_row (o := ⟨some 6, _, _, _, _, _⟩) rfl _ rfl zeroA zero_ac ?_; intro w1 za_1 s1 g1; have k1 : Below w.heap.size w w1 := grown_below g1 (Nat.le_refl _) (by simp); have B1 : Below w.heap.size w w1 := k1; have cu_1 := hp.on k1)
      | (with_reducible refine wpList_alloc_row (o := ⟨some 7, _, _, _, _, _⟩) rfl _ rfl zeroLO zero_lo ?_; intro w2 zo_2 s2 g2; have k2 : Below w1.heap.size w1 w2 := grown_below g2 (Nat.le_refl _) (by simp); have B2 := B1.trans (k2.mono B1.size); have cu_2 := cu_1.on k2; have za_2 := za_1.on k2; clear cu_1 za_1; have c6 := cu_2.st; rw [hst] at c6)
      | ((with_reducible refine wpList_at ⟨some 16, _, _, _, _, _⟩ ?_); refine wpList_valueG rfl _ (by exact exec_load _ 27 _ rfl ⟨g, 2, none⟩ rfl s.a.cs (cu_2.ask) _ Try.underlying27 rfl (by kernel_rfl)) ?_)
      | ((with_reducible refine wpList_at ⟨none, .store _ (.tmp 6) _, _, _, _, _⟩ ?_); refine wpList_store_all rfl _ _ _ rfl (w.heap.size) rfl _ _ za_2 (s.a.cs) rfl (s.a.cs_one) rfl (by kernel_rfl) ?_; intro w3 za_3 g3; have cu_3 := cu_2.kept g3 (by omega) (by omega); have zo_3 := zo_2.kept g3 (by simp; omega); have B3 := below_kept B2 g3 B2.size (by rintro q hq; cases hq; omega); have sz3 := g3.size; clear cu_2 zo_2)
      | ((with_reducible refine wpList_at ⟨none, .store _ (.tmp 7) _, _, _, _, _⟩ ?_); refine wpList_store_all rfl _ _ _ rfl (w1.heap.size) rfl _ _ zo_3 (noO.cs) rfl (noO.cs_one) rfl (by kernel_rfl) ?_; intro w4 zo_4 g4; have cu_4 := cu_3.kept g4 (by omega) (by omega); have za_4 := za_3.kept g4 (by simp; omega); have B4 := below_kept B3 g4 B3.size (by rintro q hq; cases hq; omega); have sz4 := g4.size; clear cu_3 za_3))
    exact bodyPost_ret (results_cells2 Try.results23 _ _ _ _ _ _ rfl rfl (load_ac (a := s.a) za_4) (load_lo (a := noO) zo_4)) rfl ⟨rfl, B4⟩
  · have hst := decide_eq_false h0
    have HE : Hid (rtEnd s n e = (noAc, ⟨n, e⟩, true)) := Lib.hid (if_pos (Decidable.not_not.1 h0))
    rw [HE.out]
    clear HE h0
    go_enter Try.func23, Try.ntmps23
    go_wp2_with (first
      | (with_reducible refine wpList_alloc_row (o := ⟨some 6, _, _, _, _, _⟩) rfl _ rfl zeroA zero_ac ?_; intro w1 za_1 s1 g1; have k1 : Below w.heap.size w w1 := grown_below g1 (Nat.le_refl _) (by simp); have B1 : Below w.heap.size w w1 := k1; have cu_1 := hp.on k1)
      | (with_reducible refine wpList_alloc_row (o := ⟨some 7, _, _, _, _, _⟩) rfl _ rfl zeroLO zero_lo ?_; intro w2 zo_2 s2 g2; have k2 : Below w1.heap.size w1 w2 := grown_below g2 (Nat.le_refl _) (by simp); have B2 := B1.trans (k2.mono B1.size); have cu_2 := cu_1.on k2; have za_2 := za_1.on k2; clear cu_1 za_1; have c6 := cu_2.st; rw [hst] at c6)
      | ((with_reducible refine wpList_at ⟨none, .store _ (.tmp 6) _, _, _, _, _⟩ ?_); refine wpList_store_all rfl _ _ _ rfl (w.heap.size) rfl _ _ za_2 (noAc.cs) rfl (noAc.cs_one) rfl (by kernel_rfl) ?_; intro w3 za_3 g3; have cu_3 := cu_2.kept g3 (by omega) (by omega); have zo_3 := zo_2.kept g3 (by simp; omega); have B3 := below_kept B2 g3 B2.size (by rintro q hq; cases hq; omega); have sz3 := g3.size; clear cu_2 zo_2)
      | ((with_reducible refine wpList_at ⟨none, .store _ (.tmp 7) _, _, _, _, _⟩ ?_); refine wpList_store_all rfl _ _ _ rfl (w1.heap.size) rfl _ _ zo_3 ((⟨n, e⟩ : RtO).cs) rfl ((⟨n, e⟩ : RtO).cs_one) rfl (by kernel_rfl) ?_; intro w4 zo_4 g4; have cu_4 := cu_3.kept g4 (by omega) (by omega); have za_4 := za_3.kept g4 (by simp; omega); have B4 := below_kept B3 g4 B3.size (by rintro q hq; cases hq; omega); have sz4 := g4.size; clear cu_3 za_3))
    exact bodyPost_ret (results_cells2 Try.results23 _ _ _ _ _ _ rfl rfl (load_ac (a := noAc) za_4) (load_lo (a := ⟨n, e⟩) zo_4)) rfl ⟨rfl, B4⟩
end Go.Proofs.Ytfcbcclcmgheeaa
