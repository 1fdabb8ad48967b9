/-
  LexShow returns true: by walks. No condition.
-/
import Derived.Test.YtgliealofieenaaDoorSan12
import Derived.Test.YtgliealofieenaaDoorLxJ
set_option linter.unusedSimpArgs false
set_option linter.unusedVariables false
namespace Go.Proofs.YtgliealofieenaaDoor
open Go.RowKit

set_option maxRecDepth 100000 in
set_option maxHeartbeats 8000000 in
theorem w122_any (A : Option Addr) (n c : Nat) (ts : List Tk) (w : World) (hr : Reads w w.heap.size 4 A n (tks ts)) (hn : n ≤ 9223372036854775807) (hsz : ∀ t ∈ ts, t.t.size ≤ 9223372036854775807) (hK : Sgs w) :
    Calls Tryd.prog 4 #[.slice A n c] w (TellsB true w) := by
  have HSA := Lib.hid (san12_any w hK)
  have HK := Lib.hid hK
  have HSZ := Lib.hid hsz
  have HLN := Lib.hid hr.tk_len
  clear hK hsz
  unfold TellsB at *
  by_cases hbig : 100 < n
  · have q : decide ((100 : Int) < (n : Int)) = true := decide_eq_true (by omega)
    go_enter Tryd.func4, Tryd.ntmps4
    go_wp2_with fail
    refine HSA.out.mono ?_
    rintro e w1 ⟨rfl, b1⟩
    go_wp2_with fail
    go_ret
    exact ⟨rfl, b1⟩
  · have q : decide ((100 : Int) < (n : Int)) = false := decide_eq_false (by omega)
    go_enter Tryd.func4, Tryd.ntmps4
    go_wp2_with fail
    refine HSA.out.mono ?_
    rintro e w1 ⟨rfl, b1⟩
    have hr1 := hr.on b1
    go_wp2_with fail
    go_loopg [4] n (fun g s4 wr => ∃ i : Nat, Hid (i + g = n) ∧ i ≤ n ∧ s4 = .int .i64 (i : Int) ∧ Hid (∀ t ∈ ts.take i, t.t.size ≤ 2000) ∧ w1 = wr)
    case atStart => exact ⟨0, by show _ = _; omega, by omega, rfl, Lib.hid (by intro t ht; simp at ht), rfl⟩
    case round =>
      obtain ⟨i, HI, hi, rfl, HS, rfl⟩ := hrel
      by_cases hlt : i < n
      · obtain ⟨ad, t, rfl, hlta, ht, hc⟩ := hr1.tk_at hlt
        have hc1 := tk_cell hc (j := 0) rfl
        have hts := HSZ.out t (List.mem_of_getElem? ht)
        have hq : decide ((i : Int) < (n : Int)) = true := decide_eq_true (by omega)
        have hq2 : decide (i < n) = true := decide_eq_true hlt
        have HTT : Hid (t.t.size ≤ 2000 → ∀ x ∈ ts.take (i + 1), x.t.size ≤ 2000) := Lib.hid (fun hle x hx => by
          rw [List.take_add_one, ht] at hx
          rcases List.mem_append.1 hx with hx | hx
          · exact HS.out x hx
          · simp at hx; subst hx; exact hle)
        clear ht hc
        by_cases hb : 100 < t.t.size
        · have q3 : decide ((100 : Int) < (t.t.size : Int)) = true := decide_eq_true (by omega)
          go_wp2_with fail
          go_ret
          exact ⟨rfl, b1⟩
        · have q3 : decide ((100 : Int) < (t.t.size : Int)) = false := decide_eq_false (by omega)
          go_wp2_with fail
          go_roundg (gk - 1)
          case measure => have := HI.out; omega
          case rel => exact ⟨i + 1, by have := HI.out; show _ = _; omega, by omega, by go_num, Lib.hid (HTT.out (by omega)), rfl⟩
      · obtain rfl : i = n := by omega
        have hq : decide ((i : Int) < (i : Int)) = false := decide_eq_false (by omega)
        have hq2 : decide (i < i) = false := decide_eq_false hlt
        have HSS : Hid (∀ t ∈ ts, t.t.size ≤ 2000) := Lib.hid (by have h := HS.out; rwa [List.take_of_length_le (by rw [HLN.out]; exact Nat.le_refl _)] at h)
        have HS1 := Lib.hid (lshow_any A i c ts w1 hr1 (by omega) HSS.out)
        have HS2 := fun W h => Lib.hid (rshow_any A i c ts W h (by omega) HSS.out)
        generalize mk (shw ts) = X at *
        have qx : (X.toList == X.toList) = true := by simp
        go_wp2_with fail
        refine HS1.out.mono ?_
        rintro e w2 ⟨rfl, b2⟩
        have B2 := b1.trans (b2.mono b1.size)
        go_wp2_with fail
        refine (HS2 w2 (hr1.on b2)).out.mono ?_
        rintro e _ ⟨rfl, rfl⟩
        go_wp2_with fail
        go_ret
        exact ⟨rfl, B2⟩
end Go.Proofs.YtgliealofieenaaDoor
