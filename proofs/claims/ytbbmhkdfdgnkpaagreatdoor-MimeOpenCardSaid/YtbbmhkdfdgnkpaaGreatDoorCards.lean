/-
  DERIVED. GIVEN WITH THE SEED: THE CARDS: each row of YtbbmhkdfdgnkpaaGreatDoorRows.lean that lists a variable, with what it lists TIED to the program's text (the seventh form; the later family's looks); each row that meets fmt, with fmt's text TOLD by the authors' own Lean function (tested against real Go, not proved from fmt's source: count such statements apart). THE CARD IS WHAT COUNTS. Prove the row's statement (the work); the ties are given (YtbbmhkdfdgnkpaaGreatDoorTie.lean); close each card by the builder's one call (the guide's Derived/Test/ToyasCard.lean, 'card_holds'). Laid BY PROGRAM, IN A SANDBOX (cutbox-door.mjs). By AI agents, Wed Nov 11 2026. No macro, syntax, notation, axiom, sorry.
-/
import Derived.Test.YtbbmhkdfdgnkpaaGreatDoorRows
import GoSem.ClaimSeven
namespace Go.Proofs.YtbbmhkdfdgnkpaaGreatDoor
namespace Rows

/-- THE TIED CARD OF 'despatchlaw12.MimeSplits'. -/
def mimeSplitsCard : Claim7 := { stood := { row := mimeSplitsRow, standIns := [], harness := (true, "298146d1523c17997715cc81940a10206045ccbcbabe4925deaaefacecd6c471"), looks := false }, kinds := [], alts := [], laidByText := true, laidKinds := [.data, .data, .pinned, .pinned], laidTests := true, laidLooks := .later }
def MimeSplitsCardSaid : Prop := Claim7.holds Tryz.pinned (.plain (OpenSpec.ofChange mimeSplitsSpec)) mimeSplitsCard

/-- THE TIED CARD OF 'despatchlaw12.MimeDeep'. -/
def mimeDeepCard : Claim7 := { stood := { row := mimeDeepRow, standIns := [], harness := (true, "298146d1523c17997715cc81940a10206045ccbcbabe4925deaaefacecd6c471"), looks := false }, kinds := [], alts := [], laidByText := true, laidKinds := [.data, .data, .pinned, .pinned], laidTests := true, laidLooks := .later }
def MimeDeepCardSaid : Prop := Claim7.holds Tryz.pinned (.plain (OpenSpec.ofChange mimeDeepSpec)) mimeDeepCard

/-- THE TIED CARD OF 'despatchlaw12.MimeJoins'. -/
def mimeJoinsCard : Claim7 := { stood := { row := mimeJoinsRow, standIns := [], harness := (true, "298146d1523c17997715cc81940a10206045ccbcbabe4925deaaefacecd6c471"), looks := false }, kinds := [], alts := [], laidByText := true, laidKinds := [.data, .data, .pinned, .pinned], laidTests := true, laidLooks := .later }
def MimeJoinsCardSaid : Prop := Claim7.holds Tryz.pinned (.plain (OpenSpec.ofChange mimeJoinsSpec)) mimeJoinsCard

/-- THE TIED CARD OF 'despatchlaw12.MimeOpen'. -/
def mimeOpenCard : Claim7 := { stood := { row := mimeOpenRow, standIns := [], harness := (true, "298146d1523c17997715cc81940a10206045ccbcbabe4925deaaefacecd6c471"), looks := false }, kinds := [], alts := [], laidByText := true, laidKinds := [.data, .data, .pinned, .pinned], laidTests := true, laidLooks := .later }
def MimeOpenCardSaid : Prop := Claim7.holds Tryz.pinned (.plain (OpenSpec.ofChange mimeOpenSpec)) mimeOpenCard

/-- THE SECOND FORM's CARD OF 'despatchlaw12.MimeSplits'. -/
def mimeSplitsUptoCard : Claim7 := { stood := { row := mimeSplitsUptoRow, standIns := [], harness := (true, "298146d1523c17997715cc81940a10206045ccbcbabe4925deaaefacecd6c471"), looks := false }, kinds := [], alts := [], laidByText := true, laidKinds := [.data, .data, .pinned, .pinned], laidTests := true, laidLooks := .later }
def MimeSplitsUptoCardSaid : Prop := Claim7.holds Tryz.pinned (.plain (OpenSpec.upto mimeSplitsSpec)) mimeSplitsUptoCard

/-- THE SECOND FORM's CARD OF 'despatchlaw12.MimeDeep'. -/
def mimeDeepUptoCard : Claim7 := { stood := { row := mimeDeepUptoRow, standIns := [], harness := (true, "298146d1523c17997715cc81940a10206045ccbcbabe4925deaaefacecd6c471"), looks := false }, kinds := [], alts := [], laidByText := true, laidKinds := [.data, .data, .pinned, .pinned], laidTests := true, laidLooks := .later }
def MimeDeepUptoCardSaid : Prop := Claim7.holds Tryz.pinned (.plain (OpenSpec.upto mimeDeepSpec)) mimeDeepUptoCard

/-- THE SECOND FORM's CARD OF 'despatchlaw12.MimeJoins'. -/
def mimeJoinsUptoCard : Claim7 := { stood := { row := mimeJoinsUptoRow, standIns := [], harness := (true, "298146d1523c17997715cc81940a10206045ccbcbabe4925deaaefacecd6c471"), looks := false }, kinds := [], alts := [], laidByText := true, laidKinds := [.data, .data, .pinned, .pinned], laidTests := true, laidLooks := .later }
def MimeJoinsUptoCardSaid : Prop := Claim7.holds Tryz.pinned (.plain (OpenSpec.upto mimeJoinsSpec)) mimeJoinsUptoCard

/-- THE SECOND FORM's CARD OF 'despatchlaw12.MimeOpen'. -/
def mimeOpenUptoCard : Claim7 := { stood := { row := mimeOpenUptoRow, standIns := [], harness := (true, "298146d1523c17997715cc81940a10206045ccbcbabe4925deaaefacecd6c471"), looks := false }, kinds := [], alts := [], laidByText := true, laidKinds := [.data, .data, .pinned, .pinned], laidTests := true, laidLooks := .later }
def MimeOpenUptoCardSaid : Prop := Claim7.holds Tryz.pinned (.plain (OpenSpec.upto mimeOpenSpec)) mimeOpenUptoCard
end Rows
end Go.Proofs.YtbbmhkdfdgnkpaaGreatDoor
