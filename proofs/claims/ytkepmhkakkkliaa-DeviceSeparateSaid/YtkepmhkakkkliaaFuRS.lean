/-
  What the reference's Same returns: a contract by a walk. No condition but bounded lengths.
-/
import Derived.Test.YtkepmhkakkkliaaFuC
import Derived.Deep.QuietTactic
namespace Go.Proofs.Ytkepmhkakkkliaa
open Go.RowKit

theorem list_ne_at {α : Type} {a b : List α} {k : Nat} {x y : α} (hx : a[k]? = some x) (hy : b[k]? = some y) (h : x ≠ y) : a ≠ b := by
  rintro rfl
  rw [hx] at hy
  cases hy
  exact h rfl
theorem take_snoc_eq {α : Type} {a b : List α} {k : Nat} {x y : α} (hx : a[k]? = some x) (hy : b[k]? = some y) (h : a.take k = b.take k) (e : x = y) : a.take (k + 1) = b.take (k + 1) := by
  rw [List.take_add_one, List.take_add_one, hx, hy, h, e]
theorem bv_ne {s t : UInt8} (h : s ≠ t) : (((s.toNat : Nat) : Int) != (t.toNat : Nat)) = true := by
  have : s.toNat ≠ t.toNat := fun e => h (UInt8.toNat.inj e)
  simp only [bne_iff_ne, ne_eq]
  omega

set_option maxRecDepth 100000 in
set_option maxHeartbeats 4000000 in
theorem rsame_any (A B : Option Addr) (n c m d : Nat) (ps qs : List Part) (w : World) (hr : ReadsP w w.heap.size A n ps) (hq : ReadsP w w.heap.size B m qs) (hn : n ≤ 9223372036854775806) (hz : ∀ p ∈ ps, p.n ≤ maxLen) :
    Calls Try.prog 32 #[fuv A n c, fuv B m d] w (TellsB (bk ps == bk qs) w) := by
  have HLP := Lib.hid hr.len
  have HLQ := Lib.hid hq.len
  have HBP : Hid ((bk ps).length = n) := Lib.hid (by rw [bk_len, HLP.out])
  have HBQ : Hid ((bk qs).length = m) := Lib.hid (by rw [bk_len, HLQ.out])
  have HZ := Lib.hid hz
  clear hz
  unfold fuv
  by_cases hnm : n = m
  · subst hnm
    go_enter Try.func32, Try.ntmps32
    go_wp2_with (first
      | (with_reducible refine wpList_box_row (o := ⟨some 2, _, _, _, _, _⟩) rfl _ _ rfl [.slice A n c] rfl ?_; intro w1 r1 s1 g1)
      | (with_reducible refine wpList_box_row (o := ⟨some 3, _, _, _, _, _⟩) rfl _ _ rfl [.slice B n d] rfl ?_; intro w2 r2 s2 g2; have q1 := r1.kept g2 (by simp); have c1 := q1.cell (j := 0) rfl; have c2 := r2.cell (j := 0) rfl; have b2 := below_kept (grown_below g1 (Nat.le_refl _) (by simp)) g2 (Nat.le_of_lt s1) (by simp)))
    clear r1 g1 g2 c1 c2
    go_loopg [5] n (fun g s5 wr => ∃ k : Nat, Hid (k + g = n) ∧ k ≤ n ∧ s5 = .int .i64 (k : Int) ∧ Hid ((bk ps).take k = (bk qs).take k) ∧ Row wr w.heap.size 24 [.slice A n c] ∧ Row wr w1.heap.size 24 [.slice B n d] ∧ Below w.heap.size w wr)
    case atStart => exact ⟨0, by show _ = _; omega, by omega, rfl, Lib.hid rfl, q1, r2, b2⟩
    case round =>
      obtain ⟨k, HK, hk, rfl, HT, e1, e2, hB⟩ := hrel
      have c1 := e1.cell (j := 0) rfl
      have c2 := e2.cell (j := 0) rfl
      by_cases hlt : k < n
      · obtain ⟨ad, p, rfl, hlta, hpk, hc0, hp, hpc⟩ := hr.at_ hlt
        obtain ⟨bd, q, rfl, hltb, hqk, hd0, hq', hqc⟩ := hq.at_ hlt
        have HPK := Lib.hid hpk
        have hpm := HZ.out p (List.mem_of_getElem? hpk)
        unfold maxLen at hpm
        have HQK := Lib.hid hqk
        have HPL := Lib.hid hp.bytes_len
        have HQL := Lib.hid hq'.bytes_len
        have HPR := Lib.hid hp
        have HQR := Lib.hid hq'
        have hc := (hB.cell (by rw [block_of_add]; exact hlta)).trans hc0
        have hd := (hB.cell (by rw [block_of_add]; exact hltb)).trans hd0
        have HC0 := Lib.hid hc0
        have HD0 := Lib.hid hd0
        have HNE : Hid (p.l ≠ q.l → (bk ps == bk qs) = false) := Lib.hid fun h => by
          have := list_ne_at (bk_get HPK.out) (bk_get HQK.out) h
          simpa using this
        clear hpk hqk hp hq' hc0 hd0
        by_cases hpq : p.n = q.n
        · have hz : ((p.n : Int) != (q.n : Int)) = false := by rw [hpq]; simp
          obtain ⟨pA, pn, pc, pl⟩ := p
          obtain ⟨qA, qn, qc, ql⟩ := q
          simp only at *
          subst hpq
          obtain ⟨g0, hg0⟩ : ∃ g0 : Nat, g0 = gk := ⟨_, rfl⟩
          have HG0 := Lib.hid hg0
          clear hg0
          rcases Nat.eq_zero_or_pos pn with h0 | h0
          · subst h0
            have HSM : Hid (pl = ql) := Lib.hid (by rw [List.eq_nil_of_length_eq_zero HPL.out, List.eq_nil_of_length_eq_zero HQL.out])
            go_wp2_with fail
            go_quiet (fail)
            have e1n := e1.drewN nq
            have e2n := e2.drewN nq
            have hBn := below_drewN hB nq
            have HHC : Hid ((wr.drewN nq).cell? (ad.add k) = some (.slice pA 0 pc)) := Lib.hid hc
            generalize wr.drewN nq = wn at *
            have c1n := e1n.cell (j := 0) rfl
            have c2n := e2n.cell (j := 0) rfl
            have hcn := HHC.out
            clear c1 c2 hc hd e1 e2 hB
            go_wp2_with fail
            go_loopg [6] 0 (fun _ s6 wi => s6 = .int .i64 0 ∧ wi = wn)
            case atStart => exact ⟨rfl, rfl⟩
            case round =>
              obtain ⟨rfl, rfl⟩ := hrel
              go_wp2_with fail
              go_roundg (g0 - 1)
              case measure => have := HK.out; have := HG0.out; omega
              case rel => exact ⟨k + 1, by have := HK.out; have := HG0.out; show _ = _; omega, by omega, by go_num, Lib.hid (take_snoc_eq (bk_get HPK.out) (bk_get HQK.out) HT.out HSM.out), e1n, e2n, hBn⟩
          · obtain ⟨pd, rfl, hlp, _⟩ := HPR.out.2 h0
            obtain ⟨qd, rfl, hlq, _⟩ := HQR.out.2 h0
            go_wp2_with fail
            go_quiet (fail)
            have e1n := e1.drewN nq
            have e2n := e2.drewN nq
            have hBn := below_drewN hB nq
            generalize wr.drewN nq = wn at *
            have c1n := e1n.cell (j := 0) rfl
            have c2n := e2n.cell (j := 0) rfl
            have hcn := (hBn.cell (by rw [block_of_add]; exact hlta)).trans HC0.out
            clear c1 c2 hc hd e1 e2 hB
            go_wp2_with fail
            go_loopg [6] pn (fun g s6 wi => ∃ i : Nat, Hid (i + g = pn) ∧ i ≤ pn ∧ s6 = .int .i64 (i : Int) ∧ Hid (pl.take i = ql.take i) ∧ Row wi w.heap.size 24 [.slice (some ad) n c] ∧ Row wi w1.heap.size 24 [.slice (some bd) n d] ∧ Below w.heap.size w wi)
            case atStart => exact ⟨0, by show _ = _; omega, by omega, rfl, Lib.hid rfl, e1n, e2n, hBn⟩
            case round =>
              obtain ⟨i, HI, hi, rfl, HM, f1, f2, hBi⟩ := hrel
              have d1 := f1.cell (j := 0) rfl
              have d2 := f2.cell (j := 0) rfl
              have hci := (hBi.cell (by rw [block_of_add]; exact hlta)).trans HC0.out
              have hdi := (hBi.cell (by rw [block_of_add]; exact hltb)).trans HD0.out
              clear c1n c2n hcn
              by_cases hli : i < pn
              · obtain ⟨s, hs⟩ : ∃ s, pl[i]? = some s := ⟨_, List.getElem?_eq_getElem (by rw [HPL.out]; exact hli)⟩
                obtain ⟨t, ht⟩ : ∃ t, ql[i]? = some t := ⟨_, List.getElem?_eq_getElem (by rw [HQL.out]; exact hli)⟩
                obtain ⟨pd', hpA, _, hsc⟩ := (HPR.out.below hBi).byte_at hs
                cases hpA
                obtain ⟨qd', hqA, _, htc⟩ := (HQR.out.below hBi).byte_at ht
                cases hqA
                have HS := Lib.hid hs
                have HTT := Lib.hid ht
                unfold bv at hsc htc
                clear hs ht
                by_cases hst : s = t
                · have hz2 : (((s.toNat : Nat) : Int) != (t.toNat : Nat)) = false := by rw [hst]; simp
                  have HST := Lib.hid hst
                  clear hst
                  generalize s.toNat = sv at *
                  generalize t.toNat = tv at *
                  go_wp2_with fail
                  go_quiet (fail)
                  have f1n := f1.drewN nq
                  have f2n := f2.drewN nq
                  have hBn' := below_drewN hBi nq
                  generalize wr.drewN nq = wm at *
                  go_wp2_with fail
                  go_roundg (gk - 1)
                  case measure => have := HI.out; omega
                  case rel => exact ⟨i + 1, by have := HI.out; show _ = _; omega, by omega, by go_num, Lib.hid (take_snoc_eq HS.out HTT.out HM.out HST.out), f1n, f2n, hBn'⟩
                · have hz2 := bv_ne hst
                  have HV := Lib.hid (HNE.out (list_ne_at HS.out HTT.out hst))
                  clear hst
                  generalize s.toNat = sv at *
                  generalize t.toNat = tv at *
                  go_wp2_with fail
                  go_quiet (fail)
                  have hBn' := below_drewN hBi nq
                  generalize wr.drewN nq = wm at *
                  go_wp2_with fail
                  go_ret
                  exact ⟨by rw [HV.out]; rfl, hBn'⟩
              · have HIN : Hid (i = pn) := Lib.hid (by omega)
                have HSM : Hid (pl = ql) := Lib.hid (by
                  have h := HM.out
                  rw [List.take_of_length_le (by rw [HPL.out, HIN.out]; exact Nat.le_refl _), List.take_of_length_le (by rw [HQL.out, HIN.out]; exact Nat.le_refl _)] at h
                  exact h)
                go_wp2_with fail
                go_roundg (g0 - 1)
                case measure => have := HK.out; have := HG0.out; omega
                case rel => exact ⟨k + 1, by have := HK.out; have := HG0.out; show _ = _; omega, by omega, by go_num, Lib.hid (take_snoc_eq (bk_get HPK.out) (bk_get HQK.out) HT.out HSM.out), f1, f2, hBi⟩
        · have hz : ((p.n : Int) != (q.n : Int)) = true := by simp only [bne_iff_ne, ne_eq]; omega
          have HV := Lib.hid (HNE.out (fun e => hpq (by rw [← HPL.out, ← HQL.out, e])))
          clear hpq
          go_wp2_with fail
          go_quiet (fail)
          have hBn := below_drewN hB nq
          generalize wr.drewN nq = wn at *
          go_wp2_with fail
          go_ret
          exact ⟨by rw [HV.out]; rfl, hBn⟩
      · obtain rfl : k = n := by omega
        have HV : Hid ((bk ps == bk qs) = true) := Lib.hid (by
          have h := HT.out
          rw [List.take_of_length_le (by rw [HBP.out]; exact Nat.le_refl _), List.take_of_length_le (by rw [HBQ.out]; exact Nat.le_refl _)] at h
          simpa using h)
        go_wp2_with fail
        go_ret
        exact ⟨by rw [HV.out]; rfl, hB⟩
  · have hz : ((n : Int) != (m : Int)) = true := by simp only [bne_iff_ne, ne_eq]; omega
    have HV : Hid ((bk ps == bk qs) = false) := Lib.hid (by
      have : bk ps ≠ bk qs := fun e => hnm (by rw [← HBP.out, ← HBQ.out, e])
      simpa using this)
    clear hnm
    go_enter Try.func32, Try.ntmps32
    go_wp2_with (first
      | (with_reducible refine wpList_box_row (o := ⟨some 2, _, _, _, _, _⟩) rfl _ _ rfl [.slice A n c] rfl ?_; intro w1 r1 s1 g1)
      | (with_reducible refine wpList_box_row (o := ⟨some 3, _, _, _, _, _⟩) rfl _ _ rfl [.slice B m d] rfl ?_; intro w2 r2 s2 g2; have q1 := r1.kept g2 (by simp); have c1 := q1.cell (j := 0) rfl; have c2 := r2.cell (j := 0) rfl; have b2 := below_kept (grown_below g1 (Nat.le_refl _) (by simp)) g2 (Nat.le_of_lt s1) (by simp)))
    go_ret
    exact ⟨by rw [HV.out]; rfl, b2⟩
end Go.Proofs.Ytkepmhkakkkliaa
