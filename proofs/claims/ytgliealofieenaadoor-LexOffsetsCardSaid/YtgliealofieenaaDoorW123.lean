/-
  LexOffsets returns true: by walks. No condition.
-/
import Derived.Test.YtgliealofieenaaDoorSan12
import Derived.Test.YtgliealofieenaaDoorLxK
set_option linter.unusedSimpArgs false
set_option linter.unusedVariables false
namespace Go.Proofs.YtgliealofieenaaDoor
open Go.RowKit

set_option maxRecDepth 100000 in
set_option maxHeartbeats 16000000 in
theorem w123_any (s : ByteArray) (w : World) (hs : s.size ≤ 9223372036854775807) (hK : Sgs w) : Calls Tryd.prog 5 #[.string s] w (TellsB true w) := by
  have HSA := Lib.hid (san12_any w hK)
  have HK := Lib.hid hK
  have HLEN := Lib.hid (tl_len s)
  clear hK
  unfold TellsB at *
  by_cases hbig : 600 < s.size
  · have q : decide ((600 : Int) < (s.size : Int)) = true := decide_eq_true (by omega)
    go_enter Tryd.func5, Tryd.ntmps5
    go_wp2_with fail
    refine HSA.out.mono ?_
    rintro e w1 ⟨rfl, b1⟩
    go_wp2_with fail
    go_ret
    exact ⟨rfl, b1⟩
  · have q : decide ((600 : Int) < (s.size : Int)) = false := decide_eq_false (by omega)
    have HT1 := fun W hW => Lib.hid (tokens_any s W (by omega) hW)
    cases hl : lxAll s with
    | none =>
      obtain ⟨h1, h2⟩ := tk_none hl
      rw [h1, h2] at HT1
      clear hl h1 h2
      go_enter Tryd.func5, Tryd.ntmps5
      go_wp2_with fail
      refine HSA.out.mono ?_
      rintro e w1 ⟨rfl, b1⟩
      go_wp2_with fail
      refine (HT1 _ (HK.out.on b1)).out.mono ?_
      rintro e w2 ⟨A, n, c, rfl, r2, hnc, hn, b2⟩
      have hn0 : 0 = n := r2.tk_len
      have HN0 := Lib.hid hn0.symm
      have qn : ((n : Int) == 0) = true := by rw [HN0.out]; rfl
      have qn2 : (n == 0) = true := by rw [HN0.out]; rfl
      clear hn0
      go_wp2_with fail
      go_ret
      exact ⟨rfl, b1.trans (b2.mono b1.size)⟩
    | some ts =>
      obtain ⟨h1, h2⟩ := tk_some hl
      rw [h1, h2] at HT1
      have hcov : Cov (tl s) 0 ts := lx_cov (tl s) ((tl s).length + 1) 0 ts (by omega) (Nat.zero_le _) (by rw [List.drop_zero]; exact hl)
      have HCV := Lib.hid hcov
      have hsm := lx_small hl
      rw [tl_len] at hsm
      have hts : ts.length ≤ 600 := by omega
      have HCB := fun x W => Lib.hid (blank_any x W)
      clear hl h1 h2 hcov hsm
      go_enter Tryd.func5, Tryd.ntmps5
      go_wp2_with fail
      refine HSA.out.mono ?_
      rintro e w1 ⟨rfl, b1⟩
      go_wp2_with fail
      refine (HT1 _ (HK.out.on b1)).out.mono ?_
      rintro e w2 ⟨A, n, c, rfl, r2, hnc, hn, b2⟩
      have B2 := b1.trans (b2.mono b1.size)
      have HLN := Lib.hid r2.tk_len
      have hn6 : n ≤ 600 := by rw [← r2.tk_len]; exact hts
      go_wp2_with fail
      go_loopg [6, 7] (n + 1) (fun g s6 s7 wr => ∃ (i p : Nat), Hid (i + g = n + 1) ∧ i ≤ n + 1 ∧ p ≤ s.size ∧ s6 = .int .i64 (p : Int) ∧ s7 = .int .i64 (i : Int) ∧ Hid (i ≤ n → Cov (tl s) p (ts.drop i)) ∧ Below w2.heap.size w2 wr)
      case atStart => exact ⟨0, 0, by show _ = _; omega, by omega, by omega, rfl, rfl, Lib.hid (fun _ => HCV.out), Below.refl _ _⟩
      case round =>
        obtain ⟨i, p, HI, hi, hps, rfl, rfl, HCO, hB⟩ := hrel
        obtain ⟨g0, hg0⟩ : ∃ g0 : Nat, g0 = gk := ⟨_, rfl⟩
        have HG0 := Lib.hid hg0
        clear hg0
        obtain ⟨wo, hwo⟩ : ∃ wo, wo = wr := ⟨_, rfl⟩
        subst hwo
        by_cases hlt : i < n
        · obtain ⟨ad, t, rfl, hlta, ht, hc⟩ := (r2.below hB).tk_at hlt
          have hd : ts.drop i = t :: ts.drop (i + 1) := by
            obtain ⟨h1, h2⟩ := List.getElem?_eq_some_iff.1 ht
            rw [List.drop_eq_getElem_cons h1, h2]
          have hcv := HCO.out (by omega)
          rw [hd] at hcv
          obtain ⟨tk, tt, tn, ta⟩ := t
          obtain ⟨u, hu, hpu, h0, hul, hw, htx, hrest⟩ := hcv
          simp only at hu hpu h0 hul hw htx hrest
          subst hu
          have hul2 : u + tt.size ≤ s.size := by rw [← HLEN.out]; exact hul
          have HRE := Lib.hid hrest
          have HWT := Lib.hid hw
          have HTX : Hid (s.extract u (u + tt.size) = tt) := Lib.hid (ba_ext (by rw [tl_extract, Nat.add_sub_cancel_left]; exact htx.symm))
          have c1 := tk_cell hc (j := 0) rfl
          have c3 := tk_cell hc (j := 2) rfl
          have qi : decide ((i : Int) ≤ (n : Int)) = true := decide_eq_true (by omega)
          have qi2 : decide (i ≤ n) = true := decide_eq_true (by omega)
          have ql : decide ((i : Int) < (n : Int)) = true := decide_eq_true (by omega)
          have ql2 : decide (i < n) = true := decide_eq_true hlt
          have qu : decide ((u : Int) < (p : Int)) = false := decide_eq_false (by omega)
          have qu2 : decide (u < p) = false := decide_eq_false (by omega)
          have qs : decide ((s.size : Int) < (u : Int) + (tt.size : Int)) = false := decide_eq_false (by omega)
          have qz : ((tt.size : Int) == 0) = false := by rw [beq_eq_false_iff_ne]; omega
          have qz2 : (tt.size == 0) = false := by rw [beq_eq_false_iff_ne]; omega
          clear ht hd hw htx hrest hul hc
          go_wp2_with fail
          go_loopg [9] (u - p) (fun g s9 wq => ∃ k : Nat, Hid (k + g = u) ∧ p ≤ k ∧ k ≤ u ∧ s9 = .int .i64 (k : Int) ∧ wo = wq)
          case atStart => exact ⟨p, by show _ = _; omega, by omega, by omega, rfl, rfl⟩
          case round =>
            obtain ⟨k, HK9, hpk, hku, rfl, rfl⟩ := hrel
            by_cases hk : k < u
            · obtain ⟨x, hx⟩ : ∃ x, (tl s)[k]? = some x := ⟨_, tl_get (by omega)⟩
              have HX := Lib.hid hx
              have HBL := HCB x
              rw [HWT.out k x hpk hk hx] at HBL
              have qk : decide ((k : Int) < (u : Int)) = true := decide_eq_true (by omega)
              have qk2 : decide (k < u) = true := decide_eq_true hk
              unfold bv at HBL
              clear hx
              go_wp2_with ((with_reducible refine wpList_at ⟨some 79, _, _, _, _, _⟩ ?_); refine wpList_valueG rfl _ (by exact exec_idxS _ _ _ _ rfl Tryd.underlying9 s rfl .i64 k rfl x HX.out _ rfl) ?_)
              refine (HBL _).out.mono ?_
              rintro _ _ ⟨rfl, rfl⟩
              go_wp2_with fail
              go_roundg (gk - 1)
              case measure => have := HK9.out; omega
              case rel => exact ⟨k + 1, by have := HK9.out; show _ = _; omega, by omega, by omega, by go_num, rfl⟩
            · obtain rfl : k = u := by omega
              have qk : decide ((k : Int) < (k : Int)) = false := decide_eq_false (by omega)
              have qk2 : decide (k < k) = false := decide_eq_false (by omega)
              have p1 : ((s.extract k (k + tt.size)).toList == tt.toList) = true := by rw [HTX.out]; simp
              have p2 : (!((s.extract k (k + tt.size)).toList == tt.toList)) = false := by rw [p1]; rfl
              go_wp2_with fail
              have e1 : ((k : Int) + (tt.size : Int)).toNat = k + tt.size := by omega
              have e2 : (0 : Int) ≤ (k : Int) + (tt.size : Int) := by omega
              have e3 : (k : Int) + (tt.size : Int) ≤ (s.size : Int) := by omega
              have e4 : (k : Int) ≤ (k : Int) + (tt.size : Int) := by omega
              go_quiet (fail)
              clear e1
              go_wp2_with fail
              go_roundg (g0 - 1)
              case measure => have := HG0.out; have := HI.out; omega
              case rel => exact ⟨i + 1, k + tt.size, by have := HG0.out; have := HI.out; show _ = _; omega, by omega, by omega, by go_num, by go_num, Lib.hid (fun _ => HRE.out), below_drewN hB nq⟩
        · have ql : decide ((i : Int) < (n : Int)) = false := decide_eq_false (by omega)
          have ql2 : decide (i < n) = false := decide_eq_false hlt
          by_cases hle : i ≤ n
          · have hin : i = n := by omega
            have hcv := HCO.out hle
            rw [List.drop_of_length_le (by rw [HLN.out]; omega)] at hcv
            have HWT : Hid (∀ k c, p ≤ k → k < s.size → (tl s)[k]? = some c → lxWh (bz c) = true) := Lib.hid fun k c h1 _ h3 => hcv k c h1 h3
            have qi : decide ((i : Int) ≤ (n : Int)) = true := decide_eq_true (by omega)
            have qi2 : decide (i ≤ n) = true := decide_eq_true hle
            have HIN := Lib.hid hin
            clear hcv hin
            go_wp2_with fail
            go_loopg [9] (s.size - p) (fun g s9 wq => ∃ k : Nat, Hid (k + g = s.size) ∧ p ≤ k ∧ k ≤ s.size ∧ s9 = .int .i64 (k : Int) ∧ wo = wq)
            case atStart => exact ⟨p, by show _ = _; omega, by omega, by omega, rfl, rfl⟩
            case round =>
              obtain ⟨k, HK9, hpk, hku, rfl, rfl⟩ := hrel
              by_cases hk : k < s.size
              · obtain ⟨x, hx⟩ : ∃ x, (tl s)[k]? = some x := ⟨_, tl_get (by omega)⟩
                have HX := Lib.hid hx
                have HBL := HCB x
                rw [HWT.out k x hpk hk hx] at HBL
                have qk : decide ((k : Int) < (s.size : Int)) = true := decide_eq_true (by omega)
                have qk2 : decide (k < s.size) = true := decide_eq_true hk
                unfold bv at HBL
                clear hx
                go_wp2_with ((with_reducible refine wpList_at ⟨some 79, _, _, _, _, _⟩ ?_); refine wpList_valueG rfl _ (by exact exec_idxS _ _ _ _ rfl Tryd.underlying9 s rfl .i64 k rfl x HX.out _ rfl) ?_)
                refine (HBL _).out.mono ?_
                rintro _ _ ⟨rfl, rfl⟩
                go_wp2_with fail
                go_roundg (gk - 1)
                case measure => have := HK9.out; omega
                case rel => exact ⟨k + 1, by have := HK9.out; show _ = _; omega, by omega, by omega, by go_num, rfl⟩
              · obtain rfl : k = s.size := by omega
                have qk : decide ((s.size : Int) < (s.size : Int)) = false := decide_eq_false (by omega)
                have qk2 : decide (s.size < s.size) = false := decide_eq_false (by omega)
                go_wp2_with fail
                go_roundg (g0 - 1)
                case measure => have := HG0.out; have := HI.out; omega
                case rel => exact ⟨i + 1, p, by have := HG0.out; have := HI.out; show _ = _; omega, by omega, hps, rfl, by go_num, Lib.hid (fun h => absurd h (by have := HIN.out; omega)), hB⟩
          · have qi : decide ((i : Int) ≤ (n : Int)) = false := decide_eq_false (by omega)
            have qi2 : decide (i ≤ n) = false := decide_eq_false hle
            go_wp2_with fail
            go_ret
            exact ⟨rfl, B2.trans (hB.mono B2.size)⟩
end Go.Proofs.YtgliealofieenaaDoor
