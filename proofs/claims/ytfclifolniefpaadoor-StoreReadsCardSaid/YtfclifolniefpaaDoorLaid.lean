/-
  What the rows' condition says of the table of constants; the door's own heap meets it. No condition.
-/
import Derived.Test.YtfclifolniefpaaDoorRows
import Derived.Test.YtfclifolniefpaaDoorShaG
import Derived.Lib.LaidTab
import Derived.LaidMore
import Derived.LaidLaws
import Derived.ProofKit
import Derived.Stop.Joined
namespace Go.Proofs.YtfclifolniefpaaDoor
open Go.RowKit

def laidL : List (String × DataW Unit) := [("bootchain/sha.constants", Rows.laid_bootchain_sha_constants)]
def tabZ : List Int := roundK.map wi
theorem laid_tab : (Rows.laid_bootchain_sha_constants : DataW Unit) = Lib.tabData .u32 tabZ := by kernel_rfl
theorem gTab : Tryd.prog.globalNamed "bootchain/sha.constants" = some 1 := by kernel_rfl
theorem tTab : (Tryd.prog.globals[1]?).map (·.type) = some 142 := by kernel_rfl
theorem tabZ_len : tabZ.length = 64 := by rfl
theorem tabZ_at (i : Nat) (h : i < 64) : Value.int .u32 (tabZ.getD i 0) = wv (roundK.getD i 0) := by
  have hl : i < roundK.length := h
  unfold tabZ wv
  rw [List.getD, List.getD, List.getElem?_map, List.getElem?_eq_getElem hl]
  rfl
theorem consts_of {W : World} (h : laidMetH Tryd.prog laidL W) : Consts W := by
  rw [MakeChecks.laidMetH_plain _ _ _ (by kernel_rfl)] at h
  unfold laidL at h
  rw [laid_tab] at h
  have ht := Lib.tabIs_of_head gTab tTab Tryd.underlying142 Tryd.underlying108 (by kernel_rfl) (by kernel_rfl) h
  have hc : ∀ i, i < 64 → W.cell? ⟨1, i, none⟩ = some (wv (roundK.getD i 0)) := fun i hi => by
    rw [ht.cell gTab i (by rw [tabZ_len]; exact hi), tabZ_at i hi]
  exact ⟨World.block_lt_of_cell? W _ (hc 0 (by omega)), hc⟩
theorem door_met (os : Os) (args : Array Value) : laidMetH Tryd.prog laidL ((World.doorLaid Tryd.prog 400 os).forCall (fun _ _ => 0) ⟨#[], args, []⟩).memory :=
  laidMetH_of_parts3 (fuel := 8) (laidMet_of_run' 8 (by kernel_rfl) (by kernel_rfl)) (by kernel_rfl) (by kernel_rfl)
end Go.Proofs.YtfclifolniefpaaDoor
