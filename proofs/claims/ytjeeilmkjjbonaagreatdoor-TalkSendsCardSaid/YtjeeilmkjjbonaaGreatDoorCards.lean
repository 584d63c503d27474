/-
  DERIVED. GIVEN WITH THE SEED: THE CARDS: each row of YtjeeilmkjjbonaaGreatDoorRows.lean that lists a variable, with what it lists TIED to the program's text (the seventh form; the later family's looks); each row that meets fmt, with fmt's text TOLD by the authors' own Lean function (tested against real Go, not proved from fmt's source: count such statements apart). THE CARD IS WHAT COUNTS. Prove the row's statement (the work); the ties are given (YtjeeilmkjjbonaaGreatDoorTie.lean); close each card by the builder's one call (the guide's Derived/Test/ToyasCard.lean, 'card_holds'). Laid BY PROGRAM, IN A SANDBOX (cutbox-door.mjs). By AI agents, Wed Nov 11 2026. No macro, syntax, notation, axiom, sorry.
-/
import Derived.Test.YtjeeilmkjjbonaaGreatDoorRows
import GoSem.ClaimSeven
namespace Go.Proofs.YtjeeilmkjjbonaaGreatDoor
namespace Rows

/-- THE TIED CARD OF 'despatchlaw21.TalkPosts'. -/
def talkPostsCard : Claim7 := { stood := { row := talkPostsRow, standIns := [], harness := (true, "8130e0a5ed434a8a86e2a1e49f6007d992634c06aa192ac2de78a3fe7a0ff0c2"), looks := true }, kinds := [], alts := [], laidByText := true, laidKinds := [.data, .pinned, .pinned], laidTests := true, laidLooks := .later }
def TalkPostsCardSaid : Prop := Claim7.holds Tryz.pinned (.plain (OpenSpec.ofChange talkPostsSpec)) talkPostsCard

/-- THE TIED CARD OF 'despatchlaw21.TalkSends'. -/
def talkSendsCard : Claim7 := { stood := { row := talkSendsRow, standIns := [], harness := (true, "8130e0a5ed434a8a86e2a1e49f6007d992634c06aa192ac2de78a3fe7a0ff0c2"), looks := true }, kinds := [], alts := [], laidByText := true, laidKinds := [.data, .pinned, .pinned], laidTests := true, laidLooks := .later }
def TalkSendsCardSaid : Prop := Claim7.holds Tryz.pinned (.plain (OpenSpec.ofChange talkSendsSpec)) talkSendsCard

/-- THE TIED CARD OF 'despatchlaw21.TalkDesk'. -/
def talkDeskCard : Claim7 := { stood := { row := talkDeskRow, standIns := [], harness := (true, "8130e0a5ed434a8a86e2a1e49f6007d992634c06aa192ac2de78a3fe7a0ff0c2"), looks := true }, kinds := [], alts := [], laidByText := true, laidKinds := [.data, .data, .data, .data, .sentinel, .sentinel, .pinned, .pinned], laidTests := true, laidLooks := .later }
def TalkDeskCardSaid : Prop := Claim7.holds Tryz.pinned (.plain (OpenSpec.ofChange talkDeskSpec)) talkDeskCard

/-- THE TIED CARD OF 'despatchlaw21.TalkOrder'. -/
def talkOrderCard : Claim7 := { stood := { row := talkOrderRow, standIns := [], harness := (true, "8130e0a5ed434a8a86e2a1e49f6007d992634c06aa192ac2de78a3fe7a0ff0c2"), looks := true }, kinds := [], alts := [], laidByText := true, laidKinds := [.data, .pinned, .pinned], laidTests := true, laidLooks := .later }
def TalkOrderCardSaid : Prop := Claim7.holds Tryz.pinned (.plain (OpenSpec.ofChange talkOrderSpec)) talkOrderCard

/-- THE SECOND FORM's CARD OF 'despatchlaw21.TalkPosts'. -/
def talkPostsUptoCard : Claim7 := { stood := { row := talkPostsUptoRow, standIns := [], harness := (true, "8130e0a5ed434a8a86e2a1e49f6007d992634c06aa192ac2de78a3fe7a0ff0c2"), looks := true }, kinds := [], alts := [], laidByText := true, laidKinds := [.data, .pinned, .pinned], laidTests := true, laidLooks := .later }
def TalkPostsUptoCardSaid : Prop := Claim7.holds Tryz.pinned (.plain (OpenSpec.upto talkPostsSpec)) talkPostsUptoCard

/-- THE SECOND FORM's CARD OF 'despatchlaw21.TalkSends'. -/
def talkSendsUptoCard : Claim7 := { stood := { row := talkSendsUptoRow, standIns := [], harness := (true, "8130e0a5ed434a8a86e2a1e49f6007d992634c06aa192ac2de78a3fe7a0ff0c2"), looks := true }, kinds := [], alts := [], laidByText := true, laidKinds := [.data, .pinned, .pinned], laidTests := true, laidLooks := .later }
def TalkSendsUptoCardSaid : Prop := Claim7.holds Tryz.pinned (.plain (OpenSpec.upto talkSendsSpec)) talkSendsUptoCard

/-- THE SECOND FORM's CARD OF 'despatchlaw21.TalkDesk'. -/
def talkDeskUptoCard : Claim7 := { stood := { row := talkDeskUptoRow, standIns := [], harness := (true, "8130e0a5ed434a8a86e2a1e49f6007d992634c06aa192ac2de78a3fe7a0ff0c2"), looks := true }, kinds := [], alts := [], laidByText := true, laidKinds := [.data, .data, .data, .data, .sentinel, .sentinel, .pinned, .pinned], laidTests := true, laidLooks := .later }
def TalkDeskUptoCardSaid : Prop := Claim7.holds Tryz.pinned (.plain (OpenSpec.upto talkDeskSpec)) talkDeskUptoCard

/-- THE SECOND FORM's CARD OF 'despatchlaw21.TalkOrder'. -/
def talkOrderUptoCard : Claim7 := { stood := { row := talkOrderUptoRow, standIns := [], harness := (true, "8130e0a5ed434a8a86e2a1e49f6007d992634c06aa192ac2de78a3fe7a0ff0c2"), looks := true }, kinds := [], alts := [], laidByText := true, laidKinds := [.data, .pinned, .pinned], laidTests := true, laidLooks := .later }
def TalkOrderUptoCardSaid : Prop := Claim7.holds Tryz.pinned (.plain (OpenSpec.upto talkOrderSpec)) talkOrderUptoCard
end Rows
end Go.Proofs.YtjeeilmkjjbonaaGreatDoor
