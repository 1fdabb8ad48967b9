/-
  What the rows' condition says of the list of operators and delimiters; the door's own heap meets it. No condition.
-/
import Derived.Test.YtgliealofieenaaDoorRows
import Derived.Test.YtgliealofieenaaDoorLxD
import Derived.Lib.LaidTab
import Derived.LaidMore
import Derived.LaidLaws
import Derived.ProofKit
import Derived.Stop.Joined
set_option linter.unusedSimpArgs false
set_option linter.unusedVariables false
namespace Go.Proofs.YtgliealofieenaaDoor
open Go.RowKit

def strData {H : Type} (gs : List (List UInt8)) : DataW H := .agg (gs.map fun g => .lit (.string g))
theorem cells_of_strs {H : Type} {enc : TypeId × Value → H} {P : Program} {w : World} {base : Nat} {sp : Nat → Bool} {held : Bool} {fuel : Nat} {t e : TypeId} {n : Nat} {cs : List Value} {gs : List (List UInt8)} {p : List MemPlace}
    (ht : P.underlying t = some (.array n e)) (he : P.underlying e = some .string) (hce : P.cellsOf e = 1) (hct : P.cellsOf t = n)
    (h : DataW.trod enc P w base sp held fuel t cs = some (strData gs, p)) : cs = gs.map fun g => Value.string (mk g) := by
  cases fuel with
  | zero => simp [DataW.trod] at h
  | succ fuel =>
    simp only [DataW.trod, ht, hce, hct, Nat.mul_one] at h
    split at h
    · rename_i hl
      obtain ⟨xs, hm, hx⟩ := Option.map_eq_some_iff.1 h
      have hxs : xs.map (·.1) = gs.map fun g => (DataW.lit (.string g) : DataW H) := by
        have := congrArg Prod.fst hx
        simpa [strData] using this
      have hxl : xs.length = n := by simpa using Lib.mapM_length hm
      have hzl : gs.length = n := by
        have := congrArg List.length hxs
        simp at this
        omega
      apply List.ext_getElem?
      intro i
      by_cases hi : i < n
      · obtain ⟨b, hb, hf⟩ := Lib.mapM_at hm i i (by simp [hi])
        obtain ⟨z, hc, rfl, _⟩ := DataW.trod_string he hf
        have h1 : cs[i]? = some (.string z) := by
          have := congrArg (·[0]?) hc
          simpa [List.getElem?_take, List.getElem?_drop] using this
        have h2 : (xs.map (·.1))[i]? = some (DataW.lit (.string z.data.toList) : DataW H) := by simp [hb]
        rw [hxs] at h2
        simp only [List.getElem?_map, Option.map_eq_some_iff, DataW.lit.injEq, Lit.string.injEq] at h2
        obtain ⟨z', hz', e1⟩ := h2
        have e2 : mk z' = z := by rw [e1]; exact mk_tl z
        simp [h1, hz', e2]
      · rw [List.getElem?_eq_none (by omega), List.getElem?_eq_none (by simp; omega)]
    · cases h
def laidLx : List (String × DataW Unit) := [("bootchain/lex.signs", Rows.laid_bootchain_lex_signs)]
theorem laid_sgs : (Rows.laid_bootchain_lex_signs : DataW Unit) = strData sgs := by kernel_rfl
theorem gSgs : Tryd.prog.globalNamed "bootchain/lex.signs" = some 0 := by kernel_rfl
theorem tSgs : (Tryd.prog.globals[0]?).map (·.type) = some 61 := by kernel_rfl
theorem sgs_of {W : World} (h : laidMetH Tryd.prog laidLx W) : Sgs W := by
  rw [MakeChecks.laidMetH_plain _ _ _ (by kernel_rfl)] at h
  unfold laidLx at h
  rw [laid_sgs] at h
  obtain ⟨ps, ⟨g', t', cs, fuel, p, q, hg', ht', hvar, hd, _, _⟩, _⟩ := h
  obtain rfl := Option.some.inj (gSgs.symm.trans hg')
  obtain rfl := Option.some.inj (tSgs.symm.trans ht')
  have hcs := cells_of_strs Tryd.underlying61 Tryd.underlying9 (by kernel_rfl) (by kernel_rfl) hd
  have hv : W.var? Tryd.prog "bootchain/lex.signs" = some sgv.toArray := by
    rw [hvar, show sgv = cs.toList from hcs.symm]
  intro j u hj
  have hjl : j < sgv.length := (List.getElem?_eq_some_iff.1 hj).1
  have h1 := World.var?_cell gSgs hv j
  rw [Addr.add_lit, Nat.zero_add]
  rw [h1]
  simpa using hj
theorem doorL_met (os : Os) (args : Array Value) : laidMetH Tryd.prog laidLx ((World.doorLaid Tryd.prog 400 os).forCall (fun _ _ => 0) ⟨#[], args, []⟩).memory :=
  laidMetH_of_parts3 (fuel := 8) (laidMet_of_run' 8 (by kernel_rfl) (by kernel_rfl)) (by kernel_rfl) (by kernel_rfl)
end Go.Proofs.YtgliealofieenaaDoor
