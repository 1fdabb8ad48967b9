/-
  DERIVED. GIVEN WITH THE SEED: THE CARDS: each row of YtfclifolniefpaaDoorRows.lean that lists a variable, with what it lists TIED to the program's text (the seventh form; the later family's looks); each row that meets fmt, with fmt's text TOLD by the authors' own Lean function (tested against real Go, not proved from fmt's source: count such statements apart). THE CARD IS WHAT COUNTS. Prove the row's statement (the work); the ties are given (YtfclifolniefpaaDoorTie.lean); close each card by the builder's one call (the guide's Derived/Test/ToyasCard.lean, 'card_holds'). Laid BY PROGRAM, IN A SANDBOX (cutbox-door.mjs). By AI agents, Wed Nov 11 2026. No macro, syntax, notation, axiom, sorry.
-/
import Derived.Test.YtfclifolniefpaaDoorRows
import GoSem.ClaimSeven
namespace Go.Proofs.YtfclifolniefpaaDoor
namespace Rows

/-- THE TIED CARD OF 'bootchainlaw10.StoreAtomic'. -/
def storeAtomicCard : Claim7 := { stood := { row := storeAtomicRow, standIns := [], harness := (true, "e7790460b2f874cd6a216c70ef237853068adadffe47312a1b0a643dd74fd8a5"), looks := false }, kinds := [], alts := [], laidByText := true, laidKinds := [.data], laidTests := true, laidLooks := .later }
def StoreAtomicCardSaid : Prop := Claim7.holds Tryd.pinned (.plain (OpenSpec.ofChange storeAtomicSpec)) storeAtomicCard

/-- THE TIED CARD OF 'bootchainlaw10.StoreIndependent'. -/
def storeIndependentCard : Claim7 := { stood := { row := storeIndependentRow, standIns := [], harness := (true, "e7790460b2f874cd6a216c70ef237853068adadffe47312a1b0a643dd74fd8a5"), looks := false }, kinds := [], alts := [], laidByText := true, laidKinds := [.data], laidTests := true, laidLooks := .later }
def StoreIndependentCardSaid : Prop := Claim7.holds Tryd.pinned (.plain (OpenSpec.ofChange storeIndependentSpec)) storeIndependentCard

/-- THE TIED CARD OF 'bootchainlaw10.StoreAccesses'. -/
def storeAccessesCard : Claim7 := { stood := { row := storeAccessesRow, standIns := [], harness := (true, "e7790460b2f874cd6a216c70ef237853068adadffe47312a1b0a643dd74fd8a5"), looks := false }, kinds := [], alts := [], laidByText := true, laidKinds := [.data], laidTests := true, laidLooks := .later }
def StoreAccessesCardSaid : Prop := Claim7.holds Tryd.pinned (.plain (OpenSpec.ofChange storeAccessesSpec)) storeAccessesCard

/-- THE TIED CARD OF 'bootchainlaw10.StoreReads'. -/
def storeReadsCard : Claim7 := { stood := { row := storeReadsRow, standIns := [], harness := (true, "e7790460b2f874cd6a216c70ef237853068adadffe47312a1b0a643dd74fd8a5"), looks := false }, kinds := [], alts := [], laidByText := true, laidKinds := [.data], laidTests := true, laidLooks := .later }
def StoreReadsCardSaid : Prop := Claim7.holds Tryd.pinned (.plain (OpenSpec.ofChange storeReadsSpec)) storeReadsCard

/-- THE SECOND FORM's CARD OF 'bootchainlaw10.StoreAtomic'. -/
def storeAtomicUptoCard : Claim7 := { stood := { row := storeAtomicUptoRow, standIns := [], harness := (true, "e7790460b2f874cd6a216c70ef237853068adadffe47312a1b0a643dd74fd8a5"), looks := false }, kinds := [], alts := [], laidByText := true, laidKinds := [.data], laidTests := true, laidLooks := .later }
def StoreAtomicUptoCardSaid : Prop := Claim7.holds Tryd.pinned (.plain (OpenSpec.upto storeAtomicSpec)) storeAtomicUptoCard

/-- THE SECOND FORM's CARD OF 'bootchainlaw10.StoreIndependent'. -/
def storeIndependentUptoCard : Claim7 := { stood := { row := storeIndependentUptoRow, standIns := [], harness := (true, "e7790460b2f874cd6a216c70ef237853068adadffe47312a1b0a643dd74fd8a5"), looks := false }, kinds := [], alts := [], laidByText := true, laidKinds := [.data], laidTests := true, laidLooks := .later }
def StoreIndependentUptoCardSaid : Prop := Claim7.holds Tryd.pinned (.plain (OpenSpec.upto storeIndependentSpec)) storeIndependentUptoCard

/-- THE SECOND FORM's CARD OF 'bootchainlaw10.StoreAccesses'. -/
def storeAccessesUptoCard : Claim7 := { stood := { row := storeAccessesUptoRow, standIns := [], harness := (true, "e7790460b2f874cd6a216c70ef237853068adadffe47312a1b0a643dd74fd8a5"), looks := false }, kinds := [], alts := [], laidByText := true, laidKinds := [.data], laidTests := true, laidLooks := .later }
def StoreAccessesUptoCardSaid : Prop := Claim7.holds Tryd.pinned (.plain (OpenSpec.upto storeAccessesSpec)) storeAccessesUptoCard

/-- THE SECOND FORM's CARD OF 'bootchainlaw10.StoreReads'. -/
def storeReadsUptoCard : Claim7 := { stood := { row := storeReadsUptoRow, standIns := [], harness := (true, "e7790460b2f874cd6a216c70ef237853068adadffe47312a1b0a643dd74fd8a5"), looks := false }, kinds := [], alts := [], laidByText := true, laidKinds := [.data], laidTests := true, laidLooks := .later }
def StoreReadsUptoCardSaid : Prop := Claim7.holds Tryd.pinned (.plain (OpenSpec.upto storeReadsSpec)) storeReadsUptoCard
end Rows
end Go.Proofs.YtfclifolniefpaaDoor
