/-
  DERIVED. GIVEN WITH THE SEED: THE CARDS: each row of YtfmcgcdppbcfjaaDoorRows.lean that lists a variable, with what it lists TIED to the program's text (the seventh form; the later family's looks); each row that meets fmt, with fmt's text TOLD by the authors' own Lean function (tested against real Go, not proved from fmt's source: count such statements apart). THE CARD IS WHAT COUNTS. Prove the row's statement (the work); the ties are given (YtfmcgcdppbcfjaaDoorTie.lean); close each card by the builder's one call (the guide's Derived/Test/ToyasCard.lean, 'card_holds'). Laid BY PROGRAM, IN A SANDBOX (cutbox-door.mjs). By AI agents, Wed Nov 11 2026. No macro, syntax, notation, axiom, sorry.
-/
import Derived.Test.YtfmcgcdppbcfjaaDoorRows
import GoSem.ClaimSeven
namespace Go.Proofs.YtfmcgcdppbcfjaaDoor
namespace Rows

/-- THE TIED CARD OF 'bootchainlaw05.TreesigMatchesSpec'. -/
def treesigMatchesSpecCard : Claim7 := { stood := { row := treesigMatchesSpecRow, standIns := [], harness := (true, "1576bab0b09923fe9763e6bd13513fbfc2f40a6d461598b3c0acdc4349e7bfbc"), looks := false }, kinds := [], alts := [], laidByText := true, laidKinds := [.data], laidTests := true, laidLooks := .later }
def TreesigMatchesSpecCardSaid : Prop := Claim7.holds Tryd.pinned (.plain (OpenSpec.ofChange treesigMatchesSpecSpec)) treesigMatchesSpecCard

/-- THE TIED CARD OF 'bootchainlaw05.TreesigVerifyMatchesSpec'. -/
def treesigVerifyMatchesSpecCard : Claim7 := { stood := { row := treesigVerifyMatchesSpecRow, standIns := [], harness := (true, "1576bab0b09923fe9763e6bd13513fbfc2f40a6d461598b3c0acdc4349e7bfbc"), looks := false }, kinds := [], alts := [], laidByText := true, laidKinds := [.data], laidTests := true, laidLooks := .later }
def TreesigVerifyMatchesSpecCardSaid : Prop := Claim7.holds Tryd.pinned (.plain (OpenSpec.ofChange treesigVerifyMatchesSpecSpec)) treesigVerifyMatchesSpecCard

/-- THE TIED CARD OF 'bootchainlaw05.TreesigVerifiesOwn'. -/
def treesigVerifiesOwnCard : Claim7 := { stood := { row := treesigVerifiesOwnRow, standIns := [], harness := (true, "1576bab0b09923fe9763e6bd13513fbfc2f40a6d461598b3c0acdc4349e7bfbc"), looks := false }, kinds := [], alts := [], laidByText := true, laidKinds := [.data], laidTests := true, laidLooks := .later }
def TreesigVerifiesOwnCardSaid : Prop := Claim7.holds Tryd.pinned (.plain (OpenSpec.ofChange treesigVerifiesOwnSpec)) treesigVerifiesOwnCard

/-- THE TIED CARD OF 'bootchainlaw05.TreesigRejectsMalformed'. -/
def treesigRejectsMalformedCard : Claim7 := { stood := { row := treesigRejectsMalformedRow, standIns := [], harness := (true, "1576bab0b09923fe9763e6bd13513fbfc2f40a6d461598b3c0acdc4349e7bfbc"), looks := false }, kinds := [], alts := [], laidByText := true, laidKinds := [.data], laidTests := true, laidLooks := .later }
def TreesigRejectsMalformedCardSaid : Prop := Claim7.holds Tryd.pinned (.plain (OpenSpec.ofChange treesigRejectsMalformedSpec)) treesigRejectsMalformedCard

/-- THE TIED CARD OF 'bootchainlaw05.TreesigBindsKey'. -/
def treesigBindsKeyCard : Claim7 := { stood := { row := treesigBindsKeyRow, standIns := [], harness := (true, "1576bab0b09923fe9763e6bd13513fbfc2f40a6d461598b3c0acdc4349e7bfbc"), looks := false }, kinds := [], alts := [], laidByText := true, laidKinds := [.data], laidTests := true, laidLooks := .later }
def TreesigBindsKeyCardSaid : Prop := Claim7.holds Tryd.pinned (.plain (OpenSpec.ofChange treesigBindsKeySpec)) treesigBindsKeyCard

/-- THE TIED CARD OF 'bootchainlaw05.TreesigSharesPaths'. -/
def treesigSharesPathsCard : Claim7 := { stood := { row := treesigSharesPathsRow, standIns := [], harness := (true, "1576bab0b09923fe9763e6bd13513fbfc2f40a6d461598b3c0acdc4349e7bfbc"), looks := false }, kinds := [], alts := [], laidByText := true, laidKinds := [.data], laidTests := true, laidLooks := .later }
def TreesigSharesPathsCardSaid : Prop := Claim7.holds Tryd.pinned (.plain (OpenSpec.ofChange treesigSharesPathsSpec)) treesigSharesPathsCard

/-- THE SECOND FORM's CARD OF 'bootchainlaw05.TreesigMatchesSpec'. -/
def treesigMatchesSpecUptoCard : Claim7 := { stood := { row := treesigMatchesSpecUptoRow, standIns := [], harness := (true, "1576bab0b09923fe9763e6bd13513fbfc2f40a6d461598b3c0acdc4349e7bfbc"), looks := false }, kinds := [], alts := [], laidByText := true, laidKinds := [.data], laidTests := true, laidLooks := .later }
def TreesigMatchesSpecUptoCardSaid : Prop := Claim7.holds Tryd.pinned (.plain (OpenSpec.upto treesigMatchesSpecSpec)) treesigMatchesSpecUptoCard

/-- THE SECOND FORM's CARD OF 'bootchainlaw05.TreesigVerifyMatchesSpec'. -/
def treesigVerifyMatchesSpecUptoCard : Claim7 := { stood := { row := treesigVerifyMatchesSpecUptoRow, standIns := [], harness := (true, "1576bab0b09923fe9763e6bd13513fbfc2f40a6d461598b3c0acdc4349e7bfbc"), looks := false }, kinds := [], alts := [], laidByText := true, laidKinds := [.data], laidTests := true, laidLooks := .later }
def TreesigVerifyMatchesSpecUptoCardSaid : Prop := Claim7.holds Tryd.pinned (.plain (OpenSpec.upto treesigVerifyMatchesSpecSpec)) treesigVerifyMatchesSpecUptoCard

/-- THE SECOND FORM's CARD OF 'bootchainlaw05.TreesigVerifiesOwn'. -/
def treesigVerifiesOwnUptoCard : Claim7 := { stood := { row := treesigVerifiesOwnUptoRow, standIns := [], harness := (true, "1576bab0b09923fe9763e6bd13513fbfc2f40a6d461598b3c0acdc4349e7bfbc"), looks := false }, kinds := [], alts := [], laidByText := true, laidKinds := [.data], laidTests := true, laidLooks := .later }
def TreesigVerifiesOwnUptoCardSaid : Prop := Claim7.holds Tryd.pinned (.plain (OpenSpec.upto treesigVerifiesOwnSpec)) treesigVerifiesOwnUptoCard

/-- THE SECOND FORM's CARD OF 'bootchainlaw05.TreesigRejectsMalformed'. -/
def treesigRejectsMalformedUptoCard : Claim7 := { stood := { row := treesigRejectsMalformedUptoRow, standIns := [], harness := (true, "1576bab0b09923fe9763e6bd13513fbfc2f40a6d461598b3c0acdc4349e7bfbc"), looks := false }, kinds := [], alts := [], laidByText := true, laidKinds := [.data], laidTests := true, laidLooks := .later }
def TreesigRejectsMalformedUptoCardSaid : Prop := Claim7.holds Tryd.pinned (.plain (OpenSpec.upto treesigRejectsMalformedSpec)) treesigRejectsMalformedUptoCard

/-- THE SECOND FORM's CARD OF 'bootchainlaw05.TreesigBindsKey'. -/
def treesigBindsKeyUptoCard : Claim7 := { stood := { row := treesigBindsKeyUptoRow, standIns := [], harness := (true, "1576bab0b09923fe9763e6bd13513fbfc2f40a6d461598b3c0acdc4349e7bfbc"), looks := false }, kinds := [], alts := [], laidByText := true, laidKinds := [.data], laidTests := true, laidLooks := .later }
def TreesigBindsKeyUptoCardSaid : Prop := Claim7.holds Tryd.pinned (.plain (OpenSpec.upto treesigBindsKeySpec)) treesigBindsKeyUptoCard

/-- THE SECOND FORM's CARD OF 'bootchainlaw05.TreesigSharesPaths'. -/
def treesigSharesPathsUptoCard : Claim7 := { stood := { row := treesigSharesPathsUptoRow, standIns := [], harness := (true, "1576bab0b09923fe9763e6bd13513fbfc2f40a6d461598b3c0acdc4349e7bfbc"), looks := false }, kinds := [], alts := [], laidByText := true, laidKinds := [.data], laidTests := true, laidLooks := .later }
def TreesigSharesPathsUptoCardSaid : Prop := Claim7.holds Tryd.pinned (.plain (OpenSpec.upto treesigSharesPathsSpec)) treesigSharesPathsUptoCard
end Rows
end Go.Proofs.YtfmcgcdppbcfjaaDoor
