/-
  DERIVED. GIVEN WITH THE SEED: THE CARDS: each row of YtpmkjnmddglckaaDoorRows.lean that lists a variable, with what it lists TIED to the program's text (the seventh form; the later family's looks); each row that meets fmt, with fmt's text TOLD by the authors' own Lean function (tested against real Go, not proved from fmt's source: count such statements apart). THE CARD IS WHAT COUNTS. Prove the row's statement (the work); the ties are given (YtpmkjnmddglckaaDoorTie.lean); close each card by the builder's one call (the guide's Derived/Test/ToyasCard.lean, 'card_holds'). Laid BY PROGRAM, IN A SANDBOX (cutbox-door.mjs). By AI agents, Wed Nov 11 2026. No macro, syntax, notation, axiom, sorry.
-/
import Derived.Test.YtpmkjnmddglckaaDoorRows
import GoSem.ClaimSeven
namespace Go.Proofs.YtpmkjnmddglckaaDoor
namespace Rows

/-- THE TIED CARD OF 'bootchainlaw03.MerkleRoot'. -/
def merkleRootCard : Claim7 := { stood := { row := merkleRootRow, standIns := [], harness := (true, "721b46f907bfce84d1db66f88ae9b7e8bea87d3e588e68ed3ca43239caadff64"), looks := false }, kinds := [], alts := [], laidByText := true, laidKinds := [.data], laidTests := true, laidLooks := .later }
def MerkleRootCardSaid : Prop := Claim7.holds Tryd.pinned (.plain (OpenSpec.ofChange merkleRootSpec)) merkleRootCard

/-- THE TIED CARD OF 'bootchainlaw03.MerkleVerify'. -/
def merkleVerifyCard : Claim7 := { stood := { row := merkleVerifyRow, standIns := [], harness := (true, "721b46f907bfce84d1db66f88ae9b7e8bea87d3e588e68ed3ca43239caadff64"), looks := false }, kinds := [], alts := [], laidByText := true, laidKinds := [.data], laidTests := true, laidLooks := .later }
def MerkleVerifyCardSaid : Prop := Claim7.holds Tryd.pinned (.plain (OpenSpec.ofChange merkleVerifySpec)) merkleVerifyCard

/-- THE TIED CARD OF 'bootchainlaw03.MerkleComplete'. -/
def merkleCompleteCard : Claim7 := { stood := { row := merkleCompleteRow, standIns := [], harness := (true, "721b46f907bfce84d1db66f88ae9b7e8bea87d3e588e68ed3ca43239caadff64"), looks := false }, kinds := [], alts := [], laidByText := true, laidKinds := [.data], laidTests := true, laidLooks := .later }
def MerkleCompleteCardSaid : Prop := Claim7.holds Tryd.pinned (.plain (OpenSpec.ofChange merkleCompleteSpec)) merkleCompleteCard

/-- THE TIED CARD OF 'bootchainlaw03.MerkleSound'. -/
def merkleSoundCard : Claim7 := { stood := { row := merkleSoundRow, standIns := [], harness := (true, "721b46f907bfce84d1db66f88ae9b7e8bea87d3e588e68ed3ca43239caadff64"), looks := false }, kinds := [], alts := [], laidByText := true, laidKinds := [.data], laidTests := true, laidLooks := .later }
def MerkleSoundCardSaid : Prop := Claim7.holds Tryd.pinned (.plain (OpenSpec.ofChange merkleSoundSpec)) merkleSoundCard

/-- THE TIED CARD OF 'bootchainlaw03.MerkleBinding'. -/
def merkleBindingCard : Claim7 := { stood := { row := merkleBindingRow, standIns := [], harness := (true, "721b46f907bfce84d1db66f88ae9b7e8bea87d3e588e68ed3ca43239caadff64"), looks := false }, kinds := [], alts := [], laidByText := true, laidKinds := [.data], laidTests := true, laidLooks := .later }
def MerkleBindingCardSaid : Prop := Claim7.holds Tryd.pinned (.plain (OpenSpec.ofChange merkleBindingSpec)) merkleBindingCard

/-- THE TIED CARD OF 'bootchainlaw03.MerkleTampered'. -/
def merkleTamperedCard : Claim7 := { stood := { row := merkleTamperedRow, standIns := [], harness := (true, "721b46f907bfce84d1db66f88ae9b7e8bea87d3e588e68ed3ca43239caadff64"), looks := false }, kinds := [], alts := [], laidByText := true, laidKinds := [.data], laidTests := true, laidLooks := .later }
def MerkleTamperedCardSaid : Prop := Claim7.holds Tryd.pinned (.plain (OpenSpec.ofChange merkleTamperedSpec)) merkleTamperedCard

/-- THE SECOND FORM's CARD OF 'bootchainlaw03.MerkleRoot'. -/
def merkleRootUptoCard : Claim7 := { stood := { row := merkleRootUptoRow, standIns := [], harness := (true, "721b46f907bfce84d1db66f88ae9b7e8bea87d3e588e68ed3ca43239caadff64"), looks := false }, kinds := [], alts := [], laidByText := true, laidKinds := [.data], laidTests := true, laidLooks := .later }
def MerkleRootUptoCardSaid : Prop := Claim7.holds Tryd.pinned (.plain (OpenSpec.upto merkleRootSpec)) merkleRootUptoCard

/-- THE SECOND FORM's CARD OF 'bootchainlaw03.MerkleVerify'. -/
def merkleVerifyUptoCard : Claim7 := { stood := { row := merkleVerifyUptoRow, standIns := [], harness := (true, "721b46f907bfce84d1db66f88ae9b7e8bea87d3e588e68ed3ca43239caadff64"), looks := false }, kinds := [], alts := [], laidByText := true, laidKinds := [.data], laidTests := true, laidLooks := .later }
def MerkleVerifyUptoCardSaid : Prop := Claim7.holds Tryd.pinned (.plain (OpenSpec.upto merkleVerifySpec)) merkleVerifyUptoCard

/-- THE SECOND FORM's CARD OF 'bootchainlaw03.MerkleComplete'. -/
def merkleCompleteUptoCard : Claim7 := { stood := { row := merkleCompleteUptoRow, standIns := [], harness := (true, "721b46f907bfce84d1db66f88ae9b7e8bea87d3e588e68ed3ca43239caadff64"), looks := false }, kinds := [], alts := [], laidByText := true, laidKinds := [.data], laidTests := true, laidLooks := .later }
def MerkleCompleteUptoCardSaid : Prop := Claim7.holds Tryd.pinned (.plain (OpenSpec.upto merkleCompleteSpec)) merkleCompleteUptoCard

/-- THE SECOND FORM's CARD OF 'bootchainlaw03.MerkleSound'. -/
def merkleSoundUptoCard : Claim7 := { stood := { row := merkleSoundUptoRow, standIns := [], harness := (true, "721b46f907bfce84d1db66f88ae9b7e8bea87d3e588e68ed3ca43239caadff64"), looks := false }, kinds := [], alts := [], laidByText := true, laidKinds := [.data], laidTests := true, laidLooks := .later }
def MerkleSoundUptoCardSaid : Prop := Claim7.holds Tryd.pinned (.plain (OpenSpec.upto merkleSoundSpec)) merkleSoundUptoCard

/-- THE SECOND FORM's CARD OF 'bootchainlaw03.MerkleBinding'. -/
def merkleBindingUptoCard : Claim7 := { stood := { row := merkleBindingUptoRow, standIns := [], harness := (true, "721b46f907bfce84d1db66f88ae9b7e8bea87d3e588e68ed3ca43239caadff64"), looks := false }, kinds := [], alts := [], laidByText := true, laidKinds := [.data], laidTests := true, laidLooks := .later }
def MerkleBindingUptoCardSaid : Prop := Claim7.holds Tryd.pinned (.plain (OpenSpec.upto merkleBindingSpec)) merkleBindingUptoCard

/-- THE SECOND FORM's CARD OF 'bootchainlaw03.MerkleTampered'. -/
def merkleTamperedUptoCard : Claim7 := { stood := { row := merkleTamperedUptoRow, standIns := [], harness := (true, "721b46f907bfce84d1db66f88ae9b7e8bea87d3e588e68ed3ca43239caadff64"), looks := false }, kinds := [], alts := [], laidByText := true, laidKinds := [.data], laidTests := true, laidLooks := .later }
def MerkleTamperedUptoCardSaid : Prop := Claim7.holds Tryd.pinned (.plain (OpenSpec.upto merkleTamperedSpec)) merkleTamperedUptoCard
end Rows
end Go.Proofs.YtpmkjnmddglckaaDoor
