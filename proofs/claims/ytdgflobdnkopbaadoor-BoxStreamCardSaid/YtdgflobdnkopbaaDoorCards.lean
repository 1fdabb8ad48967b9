/-
  DERIVED. GIVEN WITH THE SEED: THE CARDS: each row of YtdgflobdnkopbaaDoorRows.lean that lists a variable, with what it lists TIED to the program's text (the seventh form; the later family's looks); each row that meets fmt, with fmt's text TOLD by the authors' own Lean function (tested against real Go, not proved from fmt's source: count such statements apart). THE CARD IS WHAT COUNTS. Prove the row's statement (the work); the ties are given (YtdgflobdnkopbaaDoorTie.lean); close each card by the builder's one call (the guide's Derived/Test/ToyasCard.lean, 'card_holds'). Laid BY PROGRAM, IN A SANDBOX (cutbox-door.mjs). By AI agents, Wed Nov 11 2026. No macro, syntax, notation, axiom, sorry.
-/
import Derived.Test.YtdgflobdnkopbaaDoorRows
import GoSem.ClaimSeven
namespace Go.Proofs.YtdgflobdnkopbaaDoor
namespace Rows

/-- THE TIED CARD OF 'bootchainlaw06.BoxMatches'. -/
def boxMatchesCard : Claim7 := { stood := { row := boxMatchesRow, standIns := [], harness := (true, "140890293ab02a1cb4349c49410fc09068477815a189c4bfb1befc6379f51b89"), looks := false }, kinds := [], alts := [], laidByText := true, laidKinds := [.data], laidTests := true, laidLooks := .later }
def BoxMatchesCardSaid : Prop := Claim7.holds Tryd.pinned (.plain (OpenSpec.ofChange boxMatchesSpec)) boxMatchesCard

/-- THE TIED CARD OF 'bootchainlaw06.BoxRoundTrip'. -/
def boxRoundTripCard : Claim7 := { stood := { row := boxRoundTripRow, standIns := [], harness := (true, "140890293ab02a1cb4349c49410fc09068477815a189c4bfb1befc6379f51b89"), looks := false }, kinds := [], alts := [], laidByText := true, laidKinds := [.data], laidTests := true, laidLooks := .later }
def BoxRoundTripCardSaid : Prop := Claim7.holds Tryd.pinned (.plain (OpenSpec.ofChange boxRoundTripSpec)) boxRoundTripCard

/-- THE TIED CARD OF 'bootchainlaw06.BoxAuthentic'. -/
def boxAuthenticCard : Claim7 := { stood := { row := boxAuthenticRow, standIns := [], harness := (true, "140890293ab02a1cb4349c49410fc09068477815a189c4bfb1befc6379f51b89"), looks := false }, kinds := [], alts := [], laidByText := true, laidKinds := [.data], laidTests := true, laidLooks := .later }
def BoxAuthenticCardSaid : Prop := Claim7.holds Tryd.pinned (.plain (OpenSpec.ofChange boxAuthenticSpec)) boxAuthenticCard

/-- THE TIED CARD OF 'bootchainlaw06.BoxTampered'. -/
def boxTamperedCard : Claim7 := { stood := { row := boxTamperedRow, standIns := [], harness := (true, "140890293ab02a1cb4349c49410fc09068477815a189c4bfb1befc6379f51b89"), looks := false }, kinds := [], alts := [], laidByText := true, laidKinds := [.data], laidTests := true, laidLooks := .later }
def BoxTamperedCardSaid : Prop := Claim7.holds Tryd.pinned (.plain (OpenSpec.ofChange boxTamperedSpec)) boxTamperedCard

/-- THE TIED CARD OF 'bootchainlaw06.BoxStream'. -/
def boxStreamCard : Claim7 := { stood := { row := boxStreamRow, standIns := [], harness := (true, "140890293ab02a1cb4349c49410fc09068477815a189c4bfb1befc6379f51b89"), looks := false }, kinds := [], alts := [], laidByText := true, laidKinds := [.data], laidTests := true, laidLooks := .later }
def BoxStreamCardSaid : Prop := Claim7.holds Tryd.pinned (.plain (OpenSpec.ofChange boxStreamSpec)) boxStreamCard

/-- THE SECOND FORM's CARD OF 'bootchainlaw06.BoxMatches'. -/
def boxMatchesUptoCard : Claim7 := { stood := { row := boxMatchesUptoRow, standIns := [], harness := (true, "140890293ab02a1cb4349c49410fc09068477815a189c4bfb1befc6379f51b89"), looks := false }, kinds := [], alts := [], laidByText := true, laidKinds := [.data], laidTests := true, laidLooks := .later }
def BoxMatchesUptoCardSaid : Prop := Claim7.holds Tryd.pinned (.plain (OpenSpec.upto boxMatchesSpec)) boxMatchesUptoCard

/-- THE SECOND FORM's CARD OF 'bootchainlaw06.BoxRoundTrip'. -/
def boxRoundTripUptoCard : Claim7 := { stood := { row := boxRoundTripUptoRow, standIns := [], harness := (true, "140890293ab02a1cb4349c49410fc09068477815a189c4bfb1befc6379f51b89"), looks := false }, kinds := [], alts := [], laidByText := true, laidKinds := [.data], laidTests := true, laidLooks := .later }
def BoxRoundTripUptoCardSaid : Prop := Claim7.holds Tryd.pinned (.plain (OpenSpec.upto boxRoundTripSpec)) boxRoundTripUptoCard

/-- THE SECOND FORM's CARD OF 'bootchainlaw06.BoxAuthentic'. -/
def boxAuthenticUptoCard : Claim7 := { stood := { row := boxAuthenticUptoRow, standIns := [], harness := (true, "140890293ab02a1cb4349c49410fc09068477815a189c4bfb1befc6379f51b89"), looks := false }, kinds := [], alts := [], laidByText := true, laidKinds := [.data], laidTests := true, laidLooks := .later }
def BoxAuthenticUptoCardSaid : Prop := Claim7.holds Tryd.pinned (.plain (OpenSpec.upto boxAuthenticSpec)) boxAuthenticUptoCard

/-- THE SECOND FORM's CARD OF 'bootchainlaw06.BoxTampered'. -/
def boxTamperedUptoCard : Claim7 := { stood := { row := boxTamperedUptoRow, standIns := [], harness := (true, "140890293ab02a1cb4349c49410fc09068477815a189c4bfb1befc6379f51b89"), looks := false }, kinds := [], alts := [], laidByText := true, laidKinds := [.data], laidTests := true, laidLooks := .later }
def BoxTamperedUptoCardSaid : Prop := Claim7.holds Tryd.pinned (.plain (OpenSpec.upto boxTamperedSpec)) boxTamperedUptoCard

/-- THE SECOND FORM's CARD OF 'bootchainlaw06.BoxStream'. -/
def boxStreamUptoCard : Claim7 := { stood := { row := boxStreamUptoRow, standIns := [], harness := (true, "140890293ab02a1cb4349c49410fc09068477815a189c4bfb1befc6379f51b89"), looks := false }, kinds := [], alts := [], laidByText := true, laidKinds := [.data], laidTests := true, laidLooks := .later }
def BoxStreamUptoCardSaid : Prop := Claim7.holds Tryd.pinned (.plain (OpenSpec.upto boxStreamSpec)) boxStreamUptoCard
end Rows
end Go.Proofs.YtdgflobdnkopbaaDoor
