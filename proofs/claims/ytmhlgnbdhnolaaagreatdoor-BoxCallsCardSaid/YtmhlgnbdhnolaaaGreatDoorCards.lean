/-
  DERIVED. GIVEN WITH THE SEED: THE CARDS: each row of YtmhlgnbdhnolaaaGreatDoorRows.lean that lists a variable, with what it lists TIED to the program's text (the seventh form; the later family's looks); each row that meets fmt, with fmt's text TOLD by the authors' own Lean function (tested against real Go, not proved from fmt's source: count such statements apart). THE CARD IS WHAT COUNTS. Prove the row's statement (the work); the ties are given (YtmhlgnbdhnolaaaGreatDoorTie.lean); close each card by the builder's one call (the guide's Derived/Test/ToyasCard.lean, 'card_holds'). Laid BY PROGRAM, IN A SANDBOX (cutbox-door.mjs). By AI agents, Wed Nov 11 2026. No macro, syntax, notation, axiom, sorry.
-/
import Derived.Test.YtmhlgnbdhnolaaaGreatDoorRows
import GoSem.ClaimSeven
namespace Go.Proofs.YtmhlgnbdhnolaaaGreatDoor
namespace Rows

/-- THE TIED CARD OF 'despatchlaw17.BoxCalls'. -/
def boxCallsCard : Claim7 := { stood := { row := boxCallsRow, standIns := [], harness := (true, "96942947482b6be1c665b39e07f118974a30e2ed9c9228c469b954124a298056"), looks := true }, kinds := [], alts := [], laidByText := true, laidKinds := [.data, .data, .data, .sentinel, .sentinel], laidTests := true, laidLooks := .later }
def BoxCallsCardSaid : Prop := Claim7.holds Tryz.pinned (.plain (OpenSpec.ofChange boxCallsSpec)) boxCallsCard

/-- THE TIED CARD OF 'despatchlaw21.TalkDesk'. -/
def talkDeskCard : Claim7 := { stood := { row := talkDeskRow, standIns := [], harness := (true, "96942947482b6be1c665b39e07f118974a30e2ed9c9228c469b954124a298056"), looks := true }, kinds := [], alts := [], laidByText := true, laidKinds := [.data, .data, .data, .data, .sentinel, .sentinel, .pinned, .pinned], laidTests := true, laidLooks := .later }
def TalkDeskCardSaid : Prop := Claim7.holds Tryz.pinned (.plain (OpenSpec.ofChange talkDeskSpec)) talkDeskCard

/-- THE SECOND FORM's CARD OF 'despatchlaw17.BoxCalls'. -/
def boxCallsUptoCard : Claim7 := { stood := { row := boxCallsUptoRow, standIns := [], harness := (true, "96942947482b6be1c665b39e07f118974a30e2ed9c9228c469b954124a298056"), looks := true }, kinds := [], alts := [], laidByText := true, laidKinds := [.data, .data, .data, .sentinel, .sentinel], laidTests := true, laidLooks := .later }
def BoxCallsUptoCardSaid : Prop := Claim7.holds Tryz.pinned (.plain (OpenSpec.upto boxCallsSpec)) boxCallsUptoCard

/-- THE SECOND FORM's CARD OF 'despatchlaw21.TalkDesk'. -/
def talkDeskUptoCard : Claim7 := { stood := { row := talkDeskUptoRow, standIns := [], harness := (true, "96942947482b6be1c665b39e07f118974a30e2ed9c9228c469b954124a298056"), looks := true }, kinds := [], alts := [], laidByText := true, laidKinds := [.data, .data, .data, .data, .sentinel, .sentinel, .pinned, .pinned], laidTests := true, laidLooks := .later }
def TalkDeskUptoCardSaid : Prop := Claim7.holds Tryz.pinned (.plain (OpenSpec.upto talkDeskSpec)) talkDeskUptoCard
end Rows
end Go.Proofs.YtmhlgnbdhnolaaaGreatDoor
