/-
  DERIVED. GIVEN WITH THE SEED: THE CARDS: each row of YtoghjdcfbbhjnaaDoorRows.lean that lists a variable, with what it lists TIED to the program's text (the seventh form; the later family's looks); each row that meets fmt, with fmt's text TOLD by the authors' own Lean function (tested against real Go, not proved from fmt's source: count such statements apart). THE CARD IS WHAT COUNTS. Prove the row's statement (the work); the ties are given (YtoghjdcfbbhjnaaDoorTie.lean); close each card by the builder's one call (the guide's Derived/Test/ToyasCard.lean, 'card_holds'). Laid BY PROGRAM, IN A SANDBOX (cutbox-door.mjs). By AI agents, Wed Nov 11 2026. No macro, syntax, notation, axiom, sorry.
-/
import Derived.Test.YtoghjdcfbbhjnaaDoorRows
import GoSem.ClaimSeven
namespace Go.Proofs.YtoghjdcfbbhjnaaDoor
namespace Rows

/-- THE TIED CARD OF 'bootchainlaw02.ShaMatchesSpec'. -/
def shaMatchesSpecCard : Claim7 := { stood := { row := shaMatchesSpecRow, standIns := [], harness := (true, "777851e0dcfd344fa7bf25c6db1356e7ae496cee7b67a9f077f301ddb708b205"), looks := false }, kinds := [], alts := [], laidByText := true, laidKinds := [.data], laidTests := true, laidLooks := .later }
def ShaMatchesSpecCardSaid : Prop := Claim7.holds Tryd.pinned (.plain (OpenSpec.ofChange shaMatchesSpecSpec)) shaMatchesSpecCard

/-- THE TIED CARD OF 'bootchainlaw02.ShaDigestMatchesSpec'. -/
def shaDigestMatchesSpecCard : Claim7 := { stood := { row := shaDigestMatchesSpecRow, standIns := [], harness := (true, "777851e0dcfd344fa7bf25c6db1356e7ae496cee7b67a9f077f301ddb708b205"), looks := false }, kinds := [], alts := [], laidByText := true, laidKinds := [.data], laidTests := true, laidLooks := .later }
def ShaDigestMatchesSpecCardSaid : Prop := Claim7.holds Tryd.pinned (.plain (OpenSpec.ofChange shaDigestMatchesSpecSpec)) shaDigestMatchesSpecCard

/-- THE TIED CARD OF 'bootchainlaw02.ShaStreamIsPrefix'. -/
def shaStreamIsPrefixCard : Claim7 := { stood := { row := shaStreamIsPrefixRow, standIns := [], harness := (true, "777851e0dcfd344fa7bf25c6db1356e7ae496cee7b67a9f077f301ddb708b205"), looks := false }, kinds := [], alts := [], laidByText := true, laidKinds := [.data], laidTests := true, laidLooks := .later }
def ShaStreamIsPrefixCardSaid : Prop := Claim7.holds Tryd.pinned (.plain (OpenSpec.ofChange shaStreamIsPrefixSpec)) shaStreamIsPrefixCard

/-- THE TIED CARD OF 'bootchainlaw02.ShaDigestSeparatesTags'. -/
def shaDigestSeparatesTagsCard : Claim7 := { stood := { row := shaDigestSeparatesTagsRow, standIns := [], harness := (true, "777851e0dcfd344fa7bf25c6db1356e7ae496cee7b67a9f077f301ddb708b205"), looks := false }, kinds := [], alts := [], laidByText := true, laidKinds := [.data], laidTests := true, laidLooks := .later }
def ShaDigestSeparatesTagsCardSaid : Prop := Claim7.holds Tryd.pinned (.plain (OpenSpec.ofChange shaDigestSeparatesTagsSpec)) shaDigestSeparatesTagsCard

/-- THE TIED CARD OF 'bootchainlaw02.ShaArgumentsUnchanged'. -/
def shaArgumentsUnchangedCard : Claim7 := { stood := { row := shaArgumentsUnchangedRow, standIns := [], harness := (true, "777851e0dcfd344fa7bf25c6db1356e7ae496cee7b67a9f077f301ddb708b205"), looks := false }, kinds := [], alts := [], laidByText := true, laidKinds := [.data], laidTests := true, laidLooks := .later }
def ShaArgumentsUnchangedCardSaid : Prop := Claim7.holds Tryd.pinned (.plain (OpenSpec.ofChange shaArgumentsUnchangedSpec)) shaArgumentsUnchangedCard

/-- THE TIED CARD OF 'bootchainlaw02.ShaLongKey'. -/
def shaLongKeyCard : Claim7 := { stood := { row := shaLongKeyRow, standIns := [], harness := (true, "777851e0dcfd344fa7bf25c6db1356e7ae496cee7b67a9f077f301ddb708b205"), looks := false }, kinds := [], alts := [], laidByText := true, laidKinds := [.data], laidTests := true, laidLooks := .later }
def ShaLongKeyCardSaid : Prop := Claim7.holds Tryd.pinned (.plain (OpenSpec.ofChange shaLongKeySpec)) shaLongKeyCard

/-- THE SECOND FORM's CARD OF 'bootchainlaw02.ShaMatchesSpec'. -/
def shaMatchesSpecUptoCard : Claim7 := { stood := { row := shaMatchesSpecUptoRow, standIns := [], harness := (true, "777851e0dcfd344fa7bf25c6db1356e7ae496cee7b67a9f077f301ddb708b205"), looks := false }, kinds := [], alts := [], laidByText := true, laidKinds := [.data], laidTests := true, laidLooks := .later }
def ShaMatchesSpecUptoCardSaid : Prop := Claim7.holds Tryd.pinned (.plain (OpenSpec.upto shaMatchesSpecSpec)) shaMatchesSpecUptoCard

/-- THE SECOND FORM's CARD OF 'bootchainlaw02.ShaDigestMatchesSpec'. -/
def shaDigestMatchesSpecUptoCard : Claim7 := { stood := { row := shaDigestMatchesSpecUptoRow, standIns := [], harness := (true, "777851e0dcfd344fa7bf25c6db1356e7ae496cee7b67a9f077f301ddb708b205"), looks := false }, kinds := [], alts := [], laidByText := true, laidKinds := [.data], laidTests := true, laidLooks := .later }
def ShaDigestMatchesSpecUptoCardSaid : Prop := Claim7.holds Tryd.pinned (.plain (OpenSpec.upto shaDigestMatchesSpecSpec)) shaDigestMatchesSpecUptoCard

/-- THE SECOND FORM's CARD OF 'bootchainlaw02.ShaStreamIsPrefix'. -/
def shaStreamIsPrefixUptoCard : Claim7 := { stood := { row := shaStreamIsPrefixUptoRow, standIns := [], harness := (true, "777851e0dcfd344fa7bf25c6db1356e7ae496cee7b67a9f077f301ddb708b205"), looks := false }, kinds := [], alts := [], laidByText := true, laidKinds := [.data], laidTests := true, laidLooks := .later }
def ShaStreamIsPrefixUptoCardSaid : Prop := Claim7.holds Tryd.pinned (.plain (OpenSpec.upto shaStreamIsPrefixSpec)) shaStreamIsPrefixUptoCard

/-- THE SECOND FORM's CARD OF 'bootchainlaw02.ShaDigestSeparatesTags'. -/
def shaDigestSeparatesTagsUptoCard : Claim7 := { stood := { row := shaDigestSeparatesTagsUptoRow, standIns := [], harness := (true, "777851e0dcfd344fa7bf25c6db1356e7ae496cee7b67a9f077f301ddb708b205"), looks := false }, kinds := [], alts := [], laidByText := true, laidKinds := [.data], laidTests := true, laidLooks := .later }
def ShaDigestSeparatesTagsUptoCardSaid : Prop := Claim7.holds Tryd.pinned (.plain (OpenSpec.upto shaDigestSeparatesTagsSpec)) shaDigestSeparatesTagsUptoCard

/-- THE SECOND FORM's CARD OF 'bootchainlaw02.ShaArgumentsUnchanged'. -/
def shaArgumentsUnchangedUptoCard : Claim7 := { stood := { row := shaArgumentsUnchangedUptoRow, standIns := [], harness := (true, "777851e0dcfd344fa7bf25c6db1356e7ae496cee7b67a9f077f301ddb708b205"), looks := false }, kinds := [], alts := [], laidByText := true, laidKinds := [.data], laidTests := true, laidLooks := .later }
def ShaArgumentsUnchangedUptoCardSaid : Prop := Claim7.holds Tryd.pinned (.plain (OpenSpec.upto shaArgumentsUnchangedSpec)) shaArgumentsUnchangedUptoCard

/-- THE SECOND FORM's CARD OF 'bootchainlaw02.ShaLongKey'. -/
def shaLongKeyUptoCard : Claim7 := { stood := { row := shaLongKeyUptoRow, standIns := [], harness := (true, "777851e0dcfd344fa7bf25c6db1356e7ae496cee7b67a9f077f301ddb708b205"), looks := false }, kinds := [], alts := [], laidByText := true, laidKinds := [.data], laidTests := true, laidLooks := .later }
def ShaLongKeyUptoCardSaid : Prop := Claim7.holds Tryd.pinned (.plain (OpenSpec.upto shaLongKeySpec)) shaLongKeyUptoCard
end Rows
end Go.Proofs.YtoghjdcfbbhjnaaDoor
