/-
  What the reference's Show, Same and Alike return: contracts by walks. No condition but bounded lengths.
-/
import Derived.Test.YtgliealofieenaaDoorLxE
set_option linter.unusedSimpArgs false
set_option linter.unusedVariables false
namespace Go.Proofs.YtgliealofieenaaDoor
open Go.RowKit

theorem addr_add0 (a : Addr) : a.add 0 = a := by unfold Addr.add; simp
def TellsSP (s : ByteArray) (w : World) (e : Ending) (w' : World) : Prop := e = .returned (.string s) ∧ w = w'
theorem mk_shw_step {ts : List Tk} {i : Nat} {t : Tk} (h : ts[i]? = some t) (h0 : i ≠ 0) : mk (shw (ts.take i)) ++ ⟨#[32]⟩ ++ t.t = mk (shw (ts.take (i + 1))) := by
  refine ba_ext ?_
  rw [tl_app, tl_app, tl_mk, tl_mk, shw_step h, if_neg h0, List.append_assoc]
  rfl
theorem mk_shw_step0 {ts : List Tk} {t : Tk} (h : ts[0]? = some t) : mk (shw (ts.take 0)) ++ t.t = mk (shw (ts.take (0 + 1))) := by
  refine ba_ext ?_
  rw [tl_app, tl_mk, tl_mk, shw_step h, if_pos rfl]
  rfl
set_option maxRecDepth 100000 in
set_option maxHeartbeats 8000000 in
theorem rshow_any (A : Option Addr) (n c : Nat) (ts : List Tk) (w : World) (hr : Reads w w.heap.size 4 A n (tks ts)) (hn : n ≤ 1000) (hsz : ∀ t ∈ ts, t.t.size ≤ 2000) :
    Calls Tryd.prog 14 #[.slice A n c] w (TellsSP (mk (shw ts)) w) := by
  have HLN := Lib.hid hr.tk_len
  have HSZ := Lib.hid hsz
  have HSB := Lib.hid (fun i => shw_bound (ts := ts) (N := 1000) (M := 2000) (by rw [hr.tk_len]; exact hn) hsz i)
  clear hsz
  go_enter Tryd.func14, Tryd.ntmps14
  go_wp2_with fail
  go_loopg [3, 4] n (fun g s3 s4 wr => ∃ (i : Nat) (x : ByteArray), Hid (i + g = n) ∧ i ≤ n ∧ s4 = .int .i64 (i : Int) ∧ s3 = .string x ∧ Hid (x = mk (shw (ts.take i))) ∧ wr = w)
  case atStart => exact ⟨0, ⟨#[]⟩, by show _ = _; omega, by omega, rfl, rfl, Lib.hid rfl, rfl⟩
  case round =>
    obtain ⟨i, x, HI, hi, rfl, rfl, HX, rfl⟩ := hrel
    have hxs : x.size ≤ 2001000 := by rw [HX.out, mk_size]; have := HSB.out i; omega
    by_cases hlt : i < n
    · obtain ⟨ad, t, rfl, hlta, ht, hc⟩ := hr.tk_at hlt
      have hc1 := tk_cell hc (j := 0) rfl
      have hts := HSZ.out t (List.mem_of_getElem? ht)
      have hq : decide ((i : Int) < (n : Int)) = true := decide_eq_true (by omega)
      have hq2 : decide (i < n) = true := decide_eq_true hlt
      by_cases h0 : i = 0
      · have HS : Hid (x ++ t.t = mk (shw (ts.take (i + 1)))) := Lib.hid (by
          rw [HX.out]
          subst h0
          exact mk_shw_step0 ht)
        have q1 : decide ((0 : Int) < (i : Int)) = false := decide_eq_false (by omega)
        have q2 : decide (0 < i) = false := decide_eq_false (by omega)
        have hle : i ≤ 0 := by omega
        clear ht hc h0
        go_wp2_with fail
        go_roundg (gk - 1)
        case measure => have := HI.out; omega
        case rel => exact ⟨i + 1, x ++ t.t, by have := HI.out; show _ = _; omega, by omega, by go_num, rfl, HS, rfl⟩
      · have q1 : decide ((0 : Int) < (i : Int)) = true := decide_eq_true (by omega)
        have q2 : decide (0 < i) = true := decide_eq_true (by omega)
        have HS := Lib.hid (mk_shw_step ht h0)
        rw [← HX.out] at HS
        have hpos : 0 < i := by omega
        have hx1 : (x ++ ⟨#[32]⟩ : ByteArray).size = x.size + 1 := by rw [← tl_len, tl_app, List.length_append, tl_len]; rfl
        have HX1 := Lib.hid hx1
        have hx2 : (x ++ ⟨#[32]⟩ : ByteArray).size ≤ 2001001 := by omega
        clear ht hc h0 hx1
        go_wp2_with fail
        go_roundg (gk - 1)
        case measure => have := HI.out; omega
        case rel => exact ⟨i + 1, x ++ ⟨#[32]⟩ ++ t.t, by have := HI.out; show _ = _; omega, by omega, by go_num, rfl, HS, rfl⟩
    · obtain rfl : i = n := by omega
      have hq : decide ((i : Int) < (i : Int)) = false := decide_eq_false (by omega)
      have hq2 : decide (i < i) = false := decide_eq_false hlt
      have HTA : Hid (x = mk (shw ts)) := Lib.hid (by rw [HX.out, List.take_of_length_le (by rw [HLN.out]; exact Nat.le_refl _)])
      go_wp2_with fail
      go_ret
      exact ⟨by rw [← HTA.out]; rfl, rfl⟩
set_option maxRecDepth 100000 in
set_option maxHeartbeats 8000000 in
theorem rsame_any (A B : Option Addr) (n c m d : Nat) (ts : List Tk) (w : World) (hr : Reads w w.heap.size 4 A n (tks ts)) (hq : Reads w w.heap.size 4 B m (tks ts)) (hn : n ≤ 9223372036854775807) :
    Calls Tryd.prog 12 #[.slice A n c, .slice B m d] w (TellsB true w) := by
  obtain rfl : n = m := by rw [← hr.tk_len, ← hq.tk_len]
  unfold TellsB
  have qn : ((n : Int) != (n : Int)) = false := by simp
  have qn2 : (n != n) = false := by simp
  go_enter Tryd.func12, Tryd.ntmps12
  go_wp2_with fail
  go_loopg [5] n (fun g s5 wr => ∃ i : Nat, Hid (i + g = n) ∧ i ≤ n ∧ s5 = .int .i64 (i : Int) ∧ Below w.heap.size w wr)
  case atStart => exact ⟨0, by show _ = _; omega, by omega, rfl, Below.refl _ _⟩
  case round =>
    obtain ⟨i, HI, hi, rfl, hB⟩ := hrel
    by_cases hlt : i < n
    · obtain ⟨ad, t, rfl, hlta, ht, hc⟩ := (hr.below hB).tk_at hlt
      obtain ⟨bd, u, rfl, hltb, hu, hd⟩ := (hq.below hB).tk_at hlt
      obtain rfl : t = u := by rw [ht] at hu; exact Option.some.inj hu
      have HC := Lib.hid hc
      have HD := Lib.hid hd
      have HE : Hid ((!tkEq t t) = false) := Lib.hid (by rw [tkEq_self]; rfl)
      have hq9 : decide ((i : Int) < (n : Int)) = true := decide_eq_true (by omega)
      have hq2 : decide (i < n) = true := decide_eq_true hlt
      clear ht hu hc hd
      go_wp2_with fail
      refine wp_region_quiet_lit (by kernel_rfl) (by kernel_rfl) ?_
      repeat (first
        | ((with_reducible refine wpQuietT_at ⟨some 20, _, _, _, _, _⟩ ?_); refine wpQuiet_valueG rfl _ (by rintro _ ⟨nn, rfl⟩; exact exec_loadTk _ _ rfl (ad.add (i * 4)) rfl t HC.out) ?_; simp only [Act.put, List.setIfInBounds_toArray, List.set_cons_zero, List.set_cons_succ])
        | ((with_reducible refine wpQuietT_at ⟨some 24, _, _, _, _, _⟩ ?_); refine wpQuiet_valueG rfl _ (by rintro _ ⟨nn, rfl⟩; exact exec_loadTk _ _ rfl (bd.add (i * 4)) rfl t HD.out) ?_; simp only [Act.put, List.setIfInBounds_toArray, List.set_cons_zero, List.set_cons_succ])
        | ((with_reducible refine wpQuietT_at ⟨some 25, _, _, _, _, _⟩ ?_); refine wpQuiet_valueG rfl _ (by rintro _ ⟨nn, rfl⟩; exact exec_neqT _ _ _ rfl t t rfl rfl) ?_; simp only [Act.put, List.setIfInBounds_toArray, List.set_cons_zero, List.set_cons_succ])
        | go_big_quiet_step (fail))
      refine wpQuiet_nil ?_
      intro _ hw'
      obtain ⟨nq, rfl⟩ := hw'
      rw [HE.out]
      go_wp2_with fail
      go_roundg (gk - 1)
      case measure => have := HI.out; omega
      case rel => exact ⟨i + 1, by have := HI.out; show _ = _; omega, by omega, by go_num, below_drewN hB nq⟩
    · obtain rfl : i = n := by omega
      have hq9 : decide ((i : Int) < (i : Int)) = false := decide_eq_false (by omega)
      have hq2 : decide (i < i) = false := decide_eq_false hlt
      go_wp2_with fail
      go_ret
      exact ⟨rfl, hB⟩
set_option maxRecDepth 100000 in
set_option maxHeartbeats 8000000 in
theorem ralike_any (A B : Option Addr) (n c m d : Nat) (ts us : List Tk) (w : World) (hr : Reads w w.heap.size 4 A n (tks ts)) (hq : Reads w w.heap.size 4 B m (tks us)) (hal : Als ts us) (hn : n ≤ 9223372036854775807) :
    Calls Tryd.prog 16 #[.slice A n c, .slice B m d] w (TellsB true w) := by
  obtain rfl : n = m := by rw [← hr.tk_len, ← hq.tk_len, hal.len]
  have HAL := Lib.hid hal
  unfold TellsB
  have qn : ((n : Int) != (n : Int)) = false := by simp
  have qn2 : (n != n) = false := by simp
  clear hal
  go_enter Tryd.func16, Tryd.ntmps16
  go_wp2_with fail
  go_loopg [5] n (fun g s5 wr => ∃ i : Nat, Hid (i + g = n) ∧ i ≤ n ∧ s5 = .int .i64 (i : Int) ∧ Below w.heap.size w wr)
  case atStart => exact ⟨0, by show _ = _; omega, by omega, rfl, Below.refl _ _⟩
  case round =>
    obtain ⟨i, HI, hi, rfl, hB⟩ := hrel
    by_cases hlt : i < n
    · obtain ⟨ad, t, rfl, hlta, ht, hc⟩ := (hr.below hB).tk_at hlt
      obtain ⟨bd, u, rfl, hltb, hu, hd⟩ := (hq.below hB).tk_at hlt
      obtain ⟨e1, e2, e3⟩ := HAL.out.at_ ht hu
      obtain ⟨tk, tt, tn, ta⟩ := t
      obtain ⟨uk, ut, un, ua⟩ := u
      simp only at e1 e2 e3
      subst e1 e2 e3
      have c0 := hc 0 _ rfl
      rw [addr_add0] at c0
      have c1 := tk_cell hc (j := 0) rfl
      have c2 := tk_cell hc (j := 1) rfl
      have d0 := hd 0 _ rfl
      rw [addr_add0] at d0
      have d1 := tk_cell hd (j := 0) rfl
      have d2 := tk_cell hd (j := 1) rfl
      have p1 : (tk != tk) = false := by simp
      have p2 : (tt.toList == tt.toList) = true := by simp
      have p3 : (tn != tn) = false := by simp
      have p4 : (!(tt.toList == tt.toList)) = false := by simp
      have hq9 : decide ((i : Int) < (n : Int)) = true := decide_eq_true (by omega)
      have hq2 : decide (i < n) = true := decide_eq_true hlt
      clear ht hu hc hd
      go_wp2_with fail
      go_quiet (fail)
      go_wp2_with fail
      go_roundg (gk - 1)
      case measure => have := HI.out; omega
      case rel => exact ⟨i + 1, by have := HI.out; show _ = _; omega, by omega, by go_num, below_drewN hB nq⟩
    · obtain rfl : i = n := by omega
      have hq9 : decide ((i : Int) < (i : Int)) = false := decide_eq_false (by omega)
      have hq2 : decide (i < i) = false := decide_eq_false hlt
      go_wp2_with fail
      go_ret
      exact ⟨rfl, hB⟩
end Go.Proofs.YtgliealofieenaaDoor
