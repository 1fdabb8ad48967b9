/-
  What the reference's Sound returns: a contract by a walk. Condition: banks of whole bits, bounded lengths.
-/
import Derived.Test.YtliaapgnknbmbaaFuS
namespace Go.Proofs.Ytliaapgnknbmbaa
open Go.RowKit

theorem fuSound_at {bs : List (List UInt8)} {k : Nat} {l : List UInt8} (h : bs[k]? = some l) (hu : fuUns l = true) : fuSound bs = false := by
  unfold fuSound
  rw [show bs.any fuUns = true from List.any_eq_true.2 ⟨l, List.mem_of_getElem? h, hu⟩]
  rfl
theorem fuBit_at {l : List UInt8} {i j : Nat} (hj : j < 3) : (fuBit l i)[j]? = l[3 * i + j]? := by
  unfold fuBit
  rw [List.getElem?_take_of_lt hj, List.getElem?_drop]

set_option maxRecDepth 100000 in
set_option maxHeartbeats 4000000 in
theorem rsound_any (A : Option Addr) (n c : Nat) (ps : List Part) (w : World) (hr : ReadsP w w.heap.size A n ps) (hn : n ≤ 1000000) (h3 : ∀ p ∈ ps, p.l.length % 3 = 0 ∧ p.l.length ≤ 1000) :
    Calls Try.prog 25 #[fuv A n c] w (TellsB (fuSound (bk ps)) w) := by
  have HLN := Lib.hid hr.len
  have H3 := Lib.hid h3
  clear h3
  unfold fuv
  go_enter Try.func25, Try.ntmps25
  go_wp2_with (with_reducible refine wpList_box_row (o := ⟨some 1, _, _, _, _, _⟩) rfl _ _ rfl [.slice A n c] rfl ?_; intro w1 r1 s1 g1; have c1 := r1.cell (j := 0) rfl; have b1 := grown_below g1 (Nat.le_refl _) (by simp))
  clear g1
  go_loopg [3] n (fun g s3 wr => ∃ k : Nat, Hid (k + g = n) ∧ k ≤ n ∧ s3 = .int .i64 (k : Int) ∧ Hid ((bk (ps.take k)).any fuUns = false) ∧ wr = w1)
  case atStart => exact ⟨0, by show _ = _; omega, by omega, rfl, Lib.hid rfl, rfl⟩
  case round =>
    obtain ⟨k, HK, hk, rfl, HN, rfl⟩ := hrel
    by_cases hlt : k < n
    · obtain ⟨ad, p, rfl, hlta, hpk, hc, hp, hpc⟩ := (hr.below b1).at_ hlt
      have HPL := Lib.hid hp.bytes_len
      have HPK := Lib.hid hpk
      have HAT : Hid (fuUns p.l = true → fuSound (bk ps) = false) := Lib.hid fun hb => fuSound_at (bk_get HPK.out) hb
      obtain ⟨hm3, hml⟩ := H3.out p (List.mem_of_getElem? hpk)
      clear hpk
      obtain ⟨pA, pn, pc, pl⟩ := p
      simp only at *
      rw [HPL.out] at hm3 hml
      obtain ⟨m, rfl⟩ : ∃ m, pn = 3 * m := ⟨pn / 3, by omega⟩
      have HNX : Hid (fuUns pl = false → (bk (ps.take (k + 1))).any fuUns = false) := Lib.hid fun hu => by
        unfold bk at *
        rw [List.take_add_one, HPK.out, List.map_append, List.any_append, HN.out]
        show ([pl].any fuUns) = false
        rw [List.any_cons, hu]
        rfl
      obtain ⟨g0, hg0⟩ : ∃ g0 : Nat, g0 = gk := ⟨_, rfl⟩
      have HG0 := Lib.hid hg0
      clear hg0 hm3
      rcases Nat.eq_zero_or_pos m with h0 | h0
      · subst h0
        have HU : Hid (fuUns pl = false) := Lib.hid (fuUns_not HPL.out fun i hi => by omega)
        go_wp2_with fail
        go_loopg [4] 0 (fun _ s4 wi => s4 = .int .i64 0 ∧ wi = wr)
        case atStart => exact ⟨rfl, rfl⟩
        case round =>
          obtain ⟨rfl, rfl⟩ := hrel
          go_wp2_with fail
          go_roundg (g0 - 1)
          case measure => have := HK.out; have := HG0.out; omega
          case rel => exact ⟨k + 1, by have := HK.out; have := HG0.out; show _ = _; omega, by omega, by go_num, Lib.hid (HNX.out HU.out), rfl⟩
      · obtain ⟨pd, rfl, _⟩ := hp.2 (by omega)
        go_wp2_with fail
        go_loopg [4] m (fun g s4 wi => ∃ i : Nat, Hid (i + g = m) ∧ i ≤ m ∧ s4 = .int .i64 ((3 * i : Nat) : Int) ∧ Hid (∀ j, j < i → ¬ 1 < fuStk (fuBit pl j)) ∧ wi = wr)
        case atStart => exact ⟨0, by show _ = _; omega, by omega, rfl, Lib.hid (fun j hj => by omega), rfl⟩
        case round =>
          obtain ⟨i, HI, hi, rfl, HM, rfl⟩ := hrel
          by_cases hli : i < m
          · obtain ⟨gi, hgi⟩ : ∃ gi : Nat, gi = gk := ⟨_, rfl⟩
            have HGI := Lib.hid hgi
            clear hgi
            have h3i : (3 * i : Nat) + 2 < 3 * m := by omega
            go_wp2_with fail
            go_loopg [5, 6] 3 (fun g s5 s6 wj => ∃ j : Nat, j ≤ 3 ∧ 3 ≤ g + j ∧ s6 = .int .i64 (j : Int) ∧ s5 = .int .i64 (fuStk ((fuBit pl i).take j) : Nat) ∧ wj = wr)
            case atStart => exact ⟨0, by omega, by omega, rfl, rfl, rfl⟩
            case round =>
              obtain ⟨j, hj, hgj, rfl, rfl, rfl⟩ := hrel
              by_cases hlj : j < 3
              · obtain ⟨s, hs⟩ : ∃ s, pl[3 * i + j]? = some s := ⟨_, List.getElem?_eq_getElem (by rw [HPL.out]; omega)⟩
                obtain ⟨pd', hpA, hlp, hd⟩ := hp.byte_at hs
                cases hpA
                have HS := Lib.hid (stk_succ (fuBit pl i) j s (by rw [fuBit_at hlj]; exact hs))
                have hle : fuStk ((fuBit pl i).take j) ≤ 3 := Nat.le_trans (stk_le _) (by rw [List.length_take]; omega)
                have hx : 3 * i + j < 3 * m := by omega
                clear hs
                generalize fuStk ((fuBit pl i).take j) = t at *
                unfold bv at hd
                by_cases hs3 : s = 3
                · have HT : Hid ((if s == 3 then 1 else 0) = 1) := Lib.hid (by rw [if_pos (by simpa using hs3)])
                  rw [hs3] at hd
                  have hd' : wr.cell? (pd.add (3 * i + j)) = some (.int .u8 3) := hd
                  clear hd hs3
                  go_wp2_with fail
                  go_roundg (gk - 1)
                  case measure => omega
                  case rel => exact ⟨j + 1, by omega, by omega, by go_num, by rw [HS.out, HT.out]; go_num, rfl⟩
                · have HT : Hid ((if s == 3 then 1 else 0) = 0) := Lib.hid (by rw [if_neg (by simpa using hs3)])
                  have e3 : (((s.toNat : Nat) : Int) == 3) = false := by
                    have : s.toNat ≠ 3 := fun h => hs3 (UInt8.toNat.inj h)
                    simp only [beq_eq_false_iff_ne, ne_eq]
                    omega
                  clear hs3
                  generalize s.toNat = v at *
                  go_wp2_with fail
                  go_roundg (gk - 1)
                  case measure => omega
                  case rel => exact ⟨j + 1, by omega, by omega, by go_num, by rw [HS.out, HT.out]; go_num, rfl⟩
              · obtain rfl : j = 3 := by omega
                have HTK : Hid ((fuBit pl i).take 3 = fuBit pl i) := Lib.hid (List.take_of_length_le (by unfold fuBit; rw [List.length_take]; omega))
                rw [HTK.out]
                by_cases hb : 1 < fuStk (fuBit pl i)
                · have HV := Lib.hid (HAT.out (fuUns_of HPL.out hli hb))
                  have hb' : (1 : Int) < (fuStk (fuBit pl i) : Nat) := by omega
                  generalize fuStk (fuBit pl i) = t at *
                  go_wp2_with fail
                  go_ret
                  exact ⟨by rw [HV.out]; rfl, b1⟩
                · have hb' : ¬ (1 : Int) < (fuStk (fuBit pl i) : Nat) := by omega
                  have HM2 : Hid (∀ j, j < i + 1 → ¬ 1 < fuStk (fuBit pl j)) := Lib.hid fun j hj => by
                    rcases Nat.lt_or_ge j i with h | h
                    · exact HM.out j h
                    · obtain rfl : j = i := by omega
                      exact hb
                  generalize fuStk (fuBit pl i) = t at *
                  go_wp2_with fail
                  go_roundg (gi - 1)
                  case measure => have := HI.out; have := HGI.out; omega
                  case rel => exact ⟨i + 1, by have := HI.out; have := HGI.out; show _ = _; omega, by omega, by go_num, HM2, rfl⟩
          · have HIM : Hid (i = m) := Lib.hid (by omega)
            have HU : Hid (fuUns pl = false) := Lib.hid (fuUns_not HPL.out fun j hj => HM.out j (by rw [HIM.out]; exact hj))
            have h3i : ¬ (3 * i : Nat) + 2 < 3 * m := by omega
            go_wp2_with fail
            go_roundg (g0 - 1)
            case measure => have := HK.out; have := HG0.out; omega
            case rel => exact ⟨k + 1, by have := HK.out; have := HG0.out; show _ = _; omega, by omega, by go_num, Lib.hid (HNX.out HU.out), rfl⟩
    · obtain rfl : k = n := by omega
      have HV : Hid (fuSound (bk ps) = true) := Lib.hid (by
        have h := HN.out
        rw [List.take_of_length_le (by rw [HLN.out]; exact Nat.le_refl _)] at h
        unfold fuSound
        rw [h]
        rfl)
      go_wp2_with fail
      go_ret
      exact ⟨by rw [HV.out]; rfl, b1⟩
end Go.Proofs.Ytliaapgnknbmbaa
