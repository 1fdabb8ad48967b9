/-
  StoreIndependent: a walk. Condition: the table of constants as laid.
-/
import Derived.Test.YtfclifolniefpaaDoorSan10
import Derived.Test.YtfclifolniefpaaDoorStZ
import Derived.Test.YtfclifolniefpaaDoorStC4
set_option linter.unusedSimpArgs false
set_option linter.unusedVariables false
namespace Go.Proofs.YtfclifolniefpaaDoor
open Go.RowKit

set_option maxRecDepth 100000 in
set_option maxHeartbeats 4000000 in
theorem w104_any (A : Option Addr) (n d : Nat) (l : List StU) (w : World) (hK : Consts w) (hr : Reads w w.heap.size 4 A n (ucs l)) (hn : n ≤ 9223372036854775807)
    (hub : ∀ u ∈ l, u.s.size ≤ 9223372036854775807 ∧ (-9223372036854775808 ≤ u.r ∧ u.r ≤ 9223372036854775807) ∧ (-9223372036854775808 ≤ u.c ∧ u.c ≤ 9223372036854775807) ∧ (-9223372036854775808 ≤ u.b ∧ u.b ≤ 9223372036854775807)) :
    Calls Tryd.prog 4 #[.slice A n d] w (GivesX (.bool true) w) := by
  have HS := fun W h => Lib.hid (san10_any W h)
  have HF := Lib.hid (limited_any A n d l w hr hn (fun u hu => (hub u hu).1))
  cases hf : stLim l with
  | false =>
    rw [hf] at HF
    go_enter Tryd.func4, Tryd.ntmps4
    go_wp2_with fail
    refine HF.out.mono ?_
    rintro e w1 ⟨rfl, B1⟩
    have hlB1 := B1.size
    go_wp2_with fail
    refine (HS _ (hK.on B1)).out.mono ?_
    rintro e w2 ⟨rfl, B2⟩
    go_wp2_with fail
    go_ret
    exact ⟨rfl, B1.trans (B2.mono hlB1)⟩
  | true =>
    rw [hf] at HF
    obtain ⟨hs2, hl2⟩ := stLim_iff.1 hf
    have hln := hr.len_of (by decide) StU.cs_len
    have HU : ∀ W, Below w.heap.size w W → Hid (Calls Tryd.prog 9 #[.slice A n d, .func (.func 13) #[] #[]] W (GivesX (.bool true) W)) := fun W h => Lib.hid (updates_any _ (fun _ _ => rfl) chk4 A n d l W (hK.on h) (hr.on h) (by omega) (fun u hu => ⟨hs2 u hu, (hub u hu).2⟩))
    clear hs2 hl2 hf hr hub hln
    go_enter Tryd.func4, Tryd.ntmps4
    go_wp2_with fail
    refine HF.out.mono ?_
    rintro e w1 ⟨rfl, B1⟩
    have hlB1 := B1.size
    go_wp2_with fail
    refine (HS _ (hK.on B1)).out.mono ?_
    rintro e w2 ⟨rfl, h2⟩
    have B2 := B1.trans (h2.mono hlB1)
    have hlB2 := B2.size
    go_wp2_with fail
    refine (HU _ B2).out.mono ?_
    rintro e w3 ⟨rfl, h3⟩
    go_wp2_with fail
    go_ret
    exact ⟨rfl, B2.trans (h3.mono hlB2)⟩
end Go.Proofs.YtfclifolniefpaaDoor
