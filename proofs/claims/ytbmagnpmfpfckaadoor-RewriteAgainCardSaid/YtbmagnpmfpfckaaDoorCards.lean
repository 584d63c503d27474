/-
  DERIVED. GIVEN WITH THE SEED: THE CARDS: each row of YtbmagnpmfpfckaaDoorRows.lean that lists a variable, with what it lists TIED to the program's text (the seventh form; the later family's looks); each row that meets fmt, with fmt's text TOLD by the authors' own Lean function (tested against real Go, not proved from fmt's source: count such statements apart). THE CARD IS WHAT COUNTS. Prove the row's statement (the work); the ties are given (YtbmagnpmfpfckaaDoorTie.lean); close each card by the builder's one call (the guide's Derived/Test/ToyasCard.lean, 'card_holds'). Laid BY PROGRAM, IN A SANDBOX (cutbox-door.mjs). By AI agents, Wed Nov 11 2026. No macro, syntax, notation, axiom, sorry.
-/
import Derived.Test.YtbmagnpmfpfckaaDoorRows
import GoSem.ClaimSeven
namespace Go.Proofs.YtbmagnpmfpfckaaDoor
namespace Rows

/-- THE TIED CARD OF 'despatchlaw20.RewriteEnds'. -/
def rewriteEndsCard : Claim7 := { stood := { row := rewriteEndsRow, standIns := [], harness := (true, "30150bcd875592291d7a072ad87650dc5072089737f5ba566c8c27e557cd4ad5"), looks := false }, kinds := [], alts := [], laidByText := true, laidKinds := [.data, .data, .data, .pinned], laidTests := true, laidLooks := .later }
def RewriteEndsCardSaid : Prop := Claim7.holds Tryd.pinned (.plain (OpenSpec.ofChange rewriteEndsSpec)) rewriteEndsCard

/-- THE TIED CARD OF 'despatchlaw20.RewriteAgain'. -/
def rewriteAgainCard : Claim7 := { stood := { row := rewriteAgainRow, standIns := [], harness := (true, "30150bcd875592291d7a072ad87650dc5072089737f5ba566c8c27e557cd4ad5"), looks := false }, kinds := [], alts := [], laidByText := true, laidKinds := [.data, .data, .data, .pinned], laidTests := true, laidLooks := .later }
def RewriteAgainCardSaid : Prop := Claim7.holds Tryd.pinned (.plain (OpenSpec.ofChange rewriteAgainSpec)) rewriteAgainCard

/-- THE SECOND FORM's CARD OF 'despatchlaw20.RewriteEnds'. -/
def rewriteEndsUptoCard : Claim7 := { stood := { row := rewriteEndsUptoRow, standIns := [], harness := (true, "30150bcd875592291d7a072ad87650dc5072089737f5ba566c8c27e557cd4ad5"), looks := false }, kinds := [], alts := [], laidByText := true, laidKinds := [.data, .data, .data, .pinned], laidTests := true, laidLooks := .later }
def RewriteEndsUptoCardSaid : Prop := Claim7.holds Tryd.pinned (.plain (OpenSpec.upto rewriteEndsSpec)) rewriteEndsUptoCard

/-- THE SECOND FORM's CARD OF 'despatchlaw20.RewriteAgain'. -/
def rewriteAgainUptoCard : Claim7 := { stood := { row := rewriteAgainUptoRow, standIns := [], harness := (true, "30150bcd875592291d7a072ad87650dc5072089737f5ba566c8c27e557cd4ad5"), looks := false }, kinds := [], alts := [], laidByText := true, laidKinds := [.data, .data, .data, .pinned], laidTests := true, laidLooks := .later }
def RewriteAgainUptoCardSaid : Prop := Claim7.holds Tryd.pinned (.plain (OpenSpec.upto rewriteAgainSpec)) rewriteAgainUptoCard
end Rows
end Go.Proofs.YtbmagnpmfpfckaaDoor
