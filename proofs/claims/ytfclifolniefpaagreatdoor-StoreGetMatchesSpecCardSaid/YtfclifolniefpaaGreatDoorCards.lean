/-
  DERIVED. GIVEN WITH THE SEED: THE CARDS: each row of YtfclifolniefpaaGreatDoorRows.lean that lists a variable, with what it lists TIED to the program's text (the seventh form; the later family's looks); each row that meets fmt, with fmt's text TOLD by the authors' own Lean function (tested against real Go, not proved from fmt's source: count such statements apart). THE CARD IS WHAT COUNTS. Prove the row's statement (the work); the ties are given (YtfclifolniefpaaGreatDoorTie.lean); close each card by the builder's one call (the guide's Derived/Test/ToyasCard.lean, 'card_holds'). Laid BY PROGRAM, IN A SANDBOX (cutbox-door.mjs). By AI agents, Wed Nov 11 2026. No macro, syntax, notation, axiom, sorry.
-/
import Derived.Test.YtfclifolniefpaaGreatDoorRows
import GoSem.ClaimSeven
namespace Go.Proofs.YtfclifolniefpaaGreatDoor
namespace Rows

/-- THE TIED CARD OF 'bootchainlaw10.StoreGetMatchesSpec'. -/
def storeGetMatchesSpecCard : Claim7 := { stood := { row := storeGetMatchesSpecRow, standIns := [], harness := (true, "158e68a1e84c545f99120ff48390e069c447aa3db4c24a49b7b8f0f74a119056"), looks := false }, kinds := [], alts := [], laidByText := true, laidKinds := [.data], laidTests := true, laidLooks := .later }
def StoreGetMatchesSpecCardSaid : Prop := Claim7.holds Tryz.pinned (.plain (OpenSpec.ofChange storeGetMatchesSpecSpec)) storeGetMatchesSpecCard

/-- THE TIED CARD OF 'bootchainlaw10.StorePutMatchesSpec'. -/
def storePutMatchesSpecCard : Claim7 := { stood := { row := storePutMatchesSpecRow, standIns := [], harness := (true, "158e68a1e84c545f99120ff48390e069c447aa3db4c24a49b7b8f0f74a119056"), looks := false }, kinds := [], alts := [], laidByText := true, laidKinds := [.data], laidTests := true, laidLooks := .later }
def StorePutMatchesSpecCardSaid : Prop := Claim7.holds Tryz.pinned (.plain (OpenSpec.ofChange storePutMatchesSpecSpec)) storePutMatchesSpecCard

/-- THE SECOND FORM's CARD OF 'bootchainlaw10.StoreGetMatchesSpec'. -/
def storeGetMatchesSpecUptoCard : Claim7 := { stood := { row := storeGetMatchesSpecUptoRow, standIns := [], harness := (true, "158e68a1e84c545f99120ff48390e069c447aa3db4c24a49b7b8f0f74a119056"), looks := false }, kinds := [], alts := [], laidByText := true, laidKinds := [.data], laidTests := true, laidLooks := .later }
def StoreGetMatchesSpecUptoCardSaid : Prop := Claim7.holds Tryz.pinned (.plain (OpenSpec.upto storeGetMatchesSpecSpec)) storeGetMatchesSpecUptoCard

/-- THE SECOND FORM's CARD OF 'bootchainlaw10.StorePutMatchesSpec'. -/
def storePutMatchesSpecUptoCard : Claim7 := { stood := { row := storePutMatchesSpecUptoRow, standIns := [], harness := (true, "158e68a1e84c545f99120ff48390e069c447aa3db4c24a49b7b8f0f74a119056"), looks := false }, kinds := [], alts := [], laidByText := true, laidKinds := [.data], laidTests := true, laidLooks := .later }
def StorePutMatchesSpecUptoCardSaid : Prop := Claim7.holds Tryz.pinned (.plain (OpenSpec.upto storePutMatchesSpecSpec)) storePutMatchesSpecUptoCard
end Rows
end Go.Proofs.YtfclifolniefpaaGreatDoor
