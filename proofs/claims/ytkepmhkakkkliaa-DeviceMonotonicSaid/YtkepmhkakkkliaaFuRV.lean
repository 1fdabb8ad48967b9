/-
  What the reference's Valid returns: a contract by a walk. No condition but a bounded length.
-/
import Derived.Test.YtkepmhkakkkliaaFuC
namespace Go.Proofs.Ytkepmhkakkkliaa
open Go.RowKit

theorem fuValid_long {bs : List (List UInt8)} (h : 4 < bs.length) : fuValid bs = false := by unfold fuValid; rw [decide_eq_false (by omega)]; rfl
theorem fuValid_at {bs : List (List UInt8)} {k : Nat} {l : List UInt8} (h : bs[k]? = some l) (hb : fuBad l = true) : fuValid bs = false := by
  unfold fuValid
  rw [show bs.any fuBad = true from List.any_eq_true.2 ⟨l, List.mem_of_getElem? h, hb⟩]
  simp
theorem fuValid_all {bs : List (List UInt8)} (h : ¬ 4 < bs.length) (ha : bs.any fuBad = false) : fuValid bs = true := by unfold fuValid; rw [decide_eq_true (by omega), ha]; rfl
theorem fuBad_mod {l : List UInt8} {n : Nat} (hl : l.length = n) (h : n % 3 ≠ 0) : fuBad l = true := by unfold fuBad; rw [hl, show (n % 3 != 0) = true by simpa using h]; rfl
theorem fuBad_long {l : List UInt8} {n : Nat} (hl : l.length = n) (h : 48 < n) : fuBad l = true := by unfold fuBad; rw [hl, decide_eq_true h, Bool.true_or, Bool.or_true]
theorem fuBad_cell {l : List UInt8} {i : Nat} {s : UInt8} (hs : l[i]? = some s) (h : 3 < s.toNat) : fuBad l = true := by
  unfold fuBad
  rw [show (l.any fun s => decide (3 < s.toNat)) = true from List.any_eq_true.2 ⟨s, List.mem_of_getElem? hs, decide_eq_true h⟩]
  simp
theorem fuBad_no {l : List UInt8} {n : Nat} (hl : l.length = n) (h3 : n % 3 = 0) (h48 : ¬ 48 < n) (ha : (l.any fun s => decide (3 < s.toNat)) = false) : fuBad l = false := by
  unfold fuBad
  rw [hl, h3, decide_eq_false h48, ha]; rfl

set_option maxRecDepth 100000 in
set_option maxHeartbeats 2000000 in
theorem rvalid_any (A : Option Addr) (n c : Nat) (ps : List Part) (w : World) (hr : ReadsP w w.heap.size A n ps) :
    Calls Try.prog 21 #[fuv A n c] w (TellsB (fuValid (bk ps)) w) := by
  have HLN := Lib.hid hr.len
  have HBL : Hid ((bk ps).length = n) := Lib.hid (by rw [bk_len, HLN.out])
  unfold fuv
  by_cases h4 : 4 < n
  · have HV := Lib.hid (fuValid_long (bs := bk ps) (by rw [HBL.out]; exact h4))
    generalize fuValid (bk ps) = V at *
    go_enter Try.func21, Try.ntmps21
    go_wp2_with (with_reducible refine wpList_box_row (o := ⟨some 1, _, _, _, _, _⟩) rfl _ _ rfl [.slice A n c] rfl ?_; intro w1 r1 s1 g1; have c1 := r1.cell (j := 0) rfl; have b1 := grown_below g1 (Nat.le_refl _) (by simp))
    go_ret
    exact ⟨by rw [HV.out]; rfl, b1⟩
  · go_enter Try.func21, Try.ntmps21
    go_wp2_with (with_reducible refine wpList_box_row (o := ⟨some 1, _, _, _, _, _⟩) rfl _ _ rfl [.slice A n c] rfl ?_; intro w1 r1 s1 g1; have c1 := r1.cell (j := 0) rfl; have b1 := grown_below g1 (Nat.le_refl _) (by simp))
    clear g1
    go_loopg [3] n (fun g s3 wr => ∃ k : Nat, Hid (k + g = n) ∧ k ≤ n ∧ s3 = .int .i64 (k : Int) ∧ Hid ((bk (ps.take k)).any fuBad = false) ∧ wr = w1)
    case atStart => exact ⟨0, by show _ = _; omega, by omega, rfl, Lib.hid rfl, rfl⟩
    case round =>
      obtain ⟨k, HK, hk, rfl, HN, rfl⟩ := hrel
      by_cases hlt : k < n
      · obtain ⟨ad, p, rfl, hlta, hpk, hc, hp, hpc⟩ := (hr.below b1).at_ hlt
        have HPL := Lib.hid hp.bytes_len
        have HPK := Lib.hid hpk
        have HAT : Hid (fuBad p.l = true → fuValid (bk ps) = false) := Lib.hid fun hb => fuValid_at (bk_get HPK.out) hb
        clear hpk
        by_cases h3 : p.n % 3 = 0
        · have e3 : ((p.n : Int) % 3 != 0) = false := by simp; omega
          by_cases h48 : 48 < p.n
          · have HV := Lib.hid (HAT.out (fuBad_long HPL.out h48))
            go_wp2_with fail
            go_ret
            exact ⟨by rw [HV.out]; rfl, b1⟩
          · have h48' : ¬ 48 < (p.n : Int) := by omega
            obtain ⟨g0, hg0⟩ : ∃ g0 : Nat, g0 = gk := ⟨_, rfl⟩
            have HG0 := Lib.hid hg0
            clear hg0
            have H3 := Lib.hid h3
            rcases Nat.eq_zero_or_pos p.n with h0 | h0
            · have HB : Hid (fuBad p.l = false) := Lib.hid (fuBad_no HPL.out H3.out h48 (by rw [List.eq_nil_of_length_eq_zero (HPL.out.trans h0)]; rfl))
              have h0' : (p.n : Int) = 0 := by omega
              have H0 := Lib.hid h0
              clear h0 h0'
              obtain ⟨pA, pn, pc, pl⟩ := p
              simp only at *
              obtain rfl : pn = 0 := H0.out
              go_wp2_with fail
              go_loopg [4] 0 (fun _ s4 wi => s4 = .int .i64 0 ∧ wi = wr)
              case atStart => exact ⟨rfl, rfl⟩
              case round =>
                obtain ⟨rfl, rfl⟩ := hrel
                go_wp2_with fail
                go_roundg (g0 - 1)
                case measure => have := HK.out; have := HG0.out; omega
                case rel => exact ⟨k + 1, by have := HK.out; have := HG0.out; show _ = _; omega, by omega, by go_num, by show _ = _; unfold bk at *; rw [List.take_add_one, HPK.out, List.map_append, List.any_append, HN.out]; show ([pl].any fuBad) = false; rw [List.any_cons, HB.out]; rfl, rfl⟩
            obtain ⟨pA, pn, pc, pl⟩ := p
            simp only at *
            obtain ⟨pd, rfl, _⟩ := hp.2 h0
            go_wp2_with fail
            go_loopg [4] pn (fun g s4 wi => ∃ i : Nat, Hid (i + g = pn) ∧ i ≤ pn ∧ s4 = .int .i64 (i : Int) ∧ Hid (((pl.take i).any fun s => decide (3 < s.toNat)) = false) ∧ wi = wr)
            case atStart => exact ⟨0, by show _ = _; omega, by omega, rfl, Lib.hid rfl, rfl⟩
            case round =>
              obtain ⟨i, HI, hi, rfl, HM, rfl⟩ := hrel
              by_cases hli : i < pn
              · obtain ⟨s, hs⟩ : ∃ s, pl[i]? = some s := ⟨_, List.getElem?_eq_getElem (by rw [HPL.out]; exact hli)⟩
                obtain ⟨pd', hpA, hlp, hd⟩ := hp.byte_at hs
                cases hpA
                have HS := Lib.hid hs
                have HT : Hid (pl.take (i + 1) = pl.take i ++ [s]) := Lib.hid (by rw [List.take_add_one, hs]; rfl)
                unfold bv at hd
                clear hs
                by_cases hb : 3 < s.toNat
                · have HV := Lib.hid (HAT.out (fuBad_cell HS.out hb))
                  have hb' : (3 : Int) < (s.toNat : Int) := by omega
                  generalize s.toNat = v at *
                  go_wp2_with fail
                  go_ret
                  exact ⟨by rw [HV.out]; rfl, b1⟩
                · have hb' : ¬ (3 : Int) < (s.toNat : Int) := by omega
                  have HM2 : Hid (((pl.take (i + 1)).any fun s => decide (3 < s.toNat)) = false) := Lib.hid (by rw [HT.out, List.any_append, HM.out, List.any_cons, decide_eq_false hb]; rfl)
                  generalize s.toNat = v at *
                  go_wp2_with fail
                  go_roundg (gk - 1)
                  case measure => have := HI.out; omega
                  case rel => exact ⟨i + 1, by have := HI.out; show _ = _; omega, by omega, by go_num, HM2, rfl⟩
              · have HIN : Hid (i = pn) := Lib.hid (by omega)
                have HB : Hid (fuBad pl = false) := Lib.hid (fuBad_no HPL.out H3.out h48 (by have h := HM.out; rw [List.take_of_length_le (by rw [HPL.out, HIN.out]; exact Nat.le_refl _)] at h; exact h))
                go_wp2_with fail
                go_roundg (g0 - 1)
                case measure => have := HK.out; have := HG0.out; omega
                case rel => exact ⟨k + 1, by have := HK.out; have := HG0.out; show _ = _; omega, by omega, by go_num, by show _ = _; unfold bk at *; rw [List.take_add_one, HPK.out, List.map_append, List.any_append, HN.out]; show ([pl].any fuBad) = false; rw [List.any_cons, HB.out]; rfl, rfl⟩
        · have HV := Lib.hid (HAT.out (fuBad_mod HPL.out h3))
          have e3 : ((p.n : Int) % 3 != 0) = true := by simp; omega
          go_wp2_with fail
          go_ret
          exact ⟨by rw [HV.out]; rfl, b1⟩
      · obtain rfl : k = n := by omega
        have HV := Lib.hid (fuValid_all (bs := bk ps) (by rw [HBL.out]; exact h4) (by have h := HN.out; rw [List.take_of_length_le (by rw [HLN.out]; exact Nat.le_refl _)] at h; exact h))
        go_wp2_with fail
        go_ret
        exact ⟨by rw [HV.out]; rfl, b1⟩
end Go.Proofs.Ytkepmhkakkkliaa
