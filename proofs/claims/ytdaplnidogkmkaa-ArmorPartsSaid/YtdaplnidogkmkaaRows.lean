/-
  No cell of these rows narrows 'for every input' (looked for: loops, veiled, ifaces, maps, wideKeys, modest, calm, conditions, laid).
  DERIVED. THE GIVEN ROWS OF THIS SEAT. 5 by the template 'for every input the law returns true; each argument reads behind the call as it read before'; 0 by the template 'total and deterministic' (their statements: YtdaplnidogkmkaaTotals.lean).
  GIVEN WITH THE SEED: the statements are not yours to turn. If you find one false, say at which input.
  Laid BY PROGRAM, IN A SANDBOX (cutbox-rows.mjs): the forced cells as the released guide's own fill.sh prints them over the translation edb36a3faeb2e496… (all of the seat's roots in one cut). By AI agents, Wed Nov 11 2026. No macro, syntax, notation, axiom, sorry.
-/
import Derived.Test.YtdaplnidogkmkaaChecked
import GoSem.Claim
import GoSem.ClaimJoined
import GoSem.ClaimMapViews
import Derived.JoinedTies
import Derived.KernelRfl
namespace Go.Proofs.Ytdaplnidogkmkaa
/- THE CELL 'sum', in the pinned program and in every row, IS THE sha256 OF THE DUMP (.gsa) THAT YtdaplnidogkmkaaProg.lean LOADS. Nothing in Lean hashes anything: it is a label: what it is worth is what the hold of that sum in a sandbox is worth. -/
noncomputable def Try.pinned : Pinned := { name := "ytdaplnidogkmkaa", sum := "edb36a3faeb2e4961efafadb90e015679438ae5d67ddfbb7da3ba451361ffc00", checked := Try.checked }
namespace Rows
def none {H : Type} : Left H := { results := [], args := [] }

/-- 'despatchlaw06.ArmorSigns': WHATEVER THE INPUT: true; the input reads as it did. -/
def armorSignsSpec : ChangeSpec := { name := "armorSigns", fn := fun _ => fun
  | [d] => { results := [.lit (.bool true)], args := [d] }
  | _ => none }
def armorSignsRow : OpenClaim := { program := "ytdaplnidogkmkaa", sum := "edb36a3faeb2e4961efafadb90e015679438ae5d67ddfbb7da3ba451361ffc00", func := "despatch/despatchlaw06.ArmorSigns", spec := "armorSigns", inPlace := ["internal/bytealg.IndexByteString"], unfollowed := true, recurses := true, apart := false }
def ArmorSignsSaid : Prop := armorSignsRow.holds Try.pinned (OpenSpec.ofChange armorSignsSpec)

/-- ITS FALSE NEIGHBOUR: 'it returns false'. Refute it at one input. -/
def armorSignsWrong : ChangeSpec := { name := "armorSigns", fn := fun _ => fun
  | [d] => { results := [.lit (.bool false)], args := [d] }
  | _ => none }
def ArmorSignsWrongFalsely : Prop := armorSignsRow.holds Try.pinned (OpenSpec.ofChange armorSignsWrong)

/-- 'despatchlaw06.ArmorReads': WHATEVER THE INPUT: true; the input reads as it did. -/
def armorReadsSpec : ChangeSpec := { name := "armorReads", fn := fun _ => fun
  | [d] => { results := [.lit (.bool true)], args := [d] }
  | _ => none }
def armorReadsRow : OpenClaim := { program := "ytdaplnidogkmkaa", sum := "edb36a3faeb2e4961efafadb90e015679438ae5d67ddfbb7da3ba451361ffc00", func := "despatch/despatchlaw06.ArmorReads", spec := "armorReads", inPlace := ["internal/bytealg.IndexByteString"], unfollowed := true, recurses := true, apart := false }
def ArmorReadsSaid : Prop := armorReadsRow.holds Try.pinned (OpenSpec.ofChange armorReadsSpec)

/-- ITS FALSE NEIGHBOUR: 'it returns false'. Refute it at one input. -/
def armorReadsWrong : ChangeSpec := { name := "armorReads", fn := fun _ => fun
  | [d] => { results := [.lit (.bool false)], args := [d] }
  | _ => none }
def ArmorReadsWrongFalsely : Prop := armorReadsRow.holds Try.pinned (OpenSpec.ofChange armorReadsWrong)

/-- 'despatchlaw06.ArmorBack': WHATEVER THE INPUT: true; the input reads as it did. -/
def armorBackSpec : ChangeSpec := { name := "armorBack", fn := fun _ => fun
  | [d1, d2, d3] => { results := [.lit (.bool true)], args := [d1, d2, d3] }
  | _ => none }
def armorBackRow : OpenClaim := { program := "ytdaplnidogkmkaa", sum := "edb36a3faeb2e4961efafadb90e015679438ae5d67ddfbb7da3ba451361ffc00", func := "despatch/despatchlaw06.ArmorBack", spec := "armorBack", inPlace := ["internal/bytealg.IndexByteString"], unfollowed := true, recurses := true, apart := false }
def ArmorBackSaid : Prop := armorBackRow.holds Try.pinned (OpenSpec.ofChange armorBackSpec)

/-- ITS FALSE NEIGHBOUR: 'it returns false'. Refute it at one input. -/
def armorBackWrong : ChangeSpec := { name := "armorBack", fn := fun _ => fun
  | [d1, d2, d3] => { results := [.lit (.bool false)], args := [d1, d2, d3] }
  | _ => none }
def ArmorBackWrongFalsely : Prop := armorBackRow.holds Try.pinned (OpenSpec.ofChange armorBackWrong)

/-- 'despatchlaw06.ArmorOne': WHATEVER THE INPUT: true; the input reads as it did. -/
def armorOneSpec : ChangeSpec := { name := "armorOne", fn := fun _ => fun
  | [d1, d2] => { results := [.lit (.bool true)], args := [d1, d2] }
  | _ => none }
def armorOneRow : OpenClaim := { program := "ytdaplnidogkmkaa", sum := "edb36a3faeb2e4961efafadb90e015679438ae5d67ddfbb7da3ba451361ffc00", func := "despatch/despatchlaw06.ArmorOne", spec := "armorOne", inPlace := ["internal/bytealg.IndexByteString"], unfollowed := true, recurses := true, apart := false }
def ArmorOneSaid : Prop := armorOneRow.holds Try.pinned (OpenSpec.ofChange armorOneSpec)

/-- ITS FALSE NEIGHBOUR: 'it returns false'. Refute it at one input. -/
def armorOneWrong : ChangeSpec := { name := "armorOne", fn := fun _ => fun
  | [d1, d2] => { results := [.lit (.bool false)], args := [d1, d2] }
  | _ => none }
def ArmorOneWrongFalsely : Prop := armorOneRow.holds Try.pinned (OpenSpec.ofChange armorOneWrong)

/-- 'despatchlaw06.ArmorParts': WHATEVER THE INPUT: true; the input reads as it did. -/
def armorPartsSpec : ChangeSpec := { name := "armorParts", fn := fun _ => fun
  | [d1, d2] => { results := [.lit (.bool true)], args := [d1, d2] }
  | _ => none }
def armorPartsRow : OpenClaim := { program := "ytdaplnidogkmkaa", sum := "edb36a3faeb2e4961efafadb90e015679438ae5d67ddfbb7da3ba451361ffc00", func := "despatch/despatchlaw06.ArmorParts", spec := "armorParts", inPlace := ["internal/bytealg.IndexByteString"], unfollowed := true, recurses := true, apart := false }
def ArmorPartsSaid : Prop := armorPartsRow.holds Try.pinned (OpenSpec.ofChange armorPartsSpec)

/-- ITS FALSE NEIGHBOUR: 'it returns false'. Refute it at one input. -/
def armorPartsWrong : ChangeSpec := { name := "armorParts", fn := fun _ => fun
  | [d1, d2] => { results := [.lit (.bool false)], args := [d1, d2] }
  | _ => none }
def ArmorPartsWrongFalsely : Prop := armorPartsRow.holds Try.pinned (OpenSpec.ofChange armorPartsWrong)

/- THE SECOND FORM. 'bulk': how many values and letters a reading holds, each counted each time it is reached (what is shared counts as often as it is met; a slice's spare places count too). A statement '..UptoSaid' is the law's where the arguments, and the package variables that the reading takes, are together of bulk at most 1048576: NARROWER than '..Said'. Prove '..Said' where nothing that the law and all that it calls make is longer than what came in: it says more and counts as full. Else prove '..UptoSaid'. A law counts once. -/
mutual
def uptoBulk {H : Type} : DataW H → Nat
  | .lit (.string bytes) => bytes.length + 1
  | .lit _ => 1
  | .nil => 1
  | .ptr d => uptoBulk d + 1
  | .slice elems spare => uptoBulkAll elems + uptoBulkAll spare + 1
  | .agg parts => uptoBulkAll parts + 1
  | .iface _ d => uptoBulk d + 1
  | .map entries => uptoBulkEntries entries + 1
  | .held _ => 1
def uptoBulkAll {H : Type} : List (DataW H) → Nat
  | [] => 0
  | d :: r => uptoBulk d + uptoBulkAll r
def uptoBulkEntries {H : Type} : List (Lit × DataW H) → Nat
  | [] => 0
  | x :: r => uptoBulkEntry x + uptoBulkEntries r
def uptoBulkEntry {H : Type} : Lit × DataW H → Nat
  | (.string bytes, d) => bytes.length + uptoBulk d + 1
  | (_, d) => uptoBulk d + 1
 end
def uptoSmall : (H : Type) → List (DataW H) → Bool := fun _ ds => decide (uptoBulkAll ds ≤ 1048576)
def OpenSpec.upto (s : _root_.Go.ChangeSpec) : _root_.Go.OpenSpec := { _root_.Go.OpenSpec.ofChange s with cond := some uptoSmall }

/-- 'despatchlaw06.ArmorSigns', WHERE WHAT IT READS IS OF BULK AT MOST 1048576: true; the input reads as it did. -/
def armorSignsUptoRow : OpenClaim := { program := "ytdaplnidogkmkaa", sum := "edb36a3faeb2e4961efafadb90e015679438ae5d67ddfbb7da3ba451361ffc00", func := "despatch/despatchlaw06.ArmorSigns", spec := "armorSigns", inPlace := ["internal/bytealg.IndexByteString"], unfollowed := true, recurses := true, apart := false, narrowed := true }
def ArmorSignsUptoSaid : Prop := armorSignsUptoRow.holds Try.pinned (OpenSpec.upto armorSignsSpec)

/-- 'despatchlaw06.ArmorReads', WHERE WHAT IT READS IS OF BULK AT MOST 1048576: true; the input reads as it did. -/
def armorReadsUptoRow : OpenClaim := { program := "ytdaplnidogkmkaa", sum := "edb36a3faeb2e4961efafadb90e015679438ae5d67ddfbb7da3ba451361ffc00", func := "despatch/despatchlaw06.ArmorReads", spec := "armorReads", inPlace := ["internal/bytealg.IndexByteString"], unfollowed := true, recurses := true, apart := false, narrowed := true }
def ArmorReadsUptoSaid : Prop := armorReadsUptoRow.holds Try.pinned (OpenSpec.upto armorReadsSpec)

/-- 'despatchlaw06.ArmorBack', WHERE WHAT IT READS IS OF BULK AT MOST 1048576: true; the input reads as it did. -/
def armorBackUptoRow : OpenClaim := { program := "ytdaplnidogkmkaa", sum := "edb36a3faeb2e4961efafadb90e015679438ae5d67ddfbb7da3ba451361ffc00", func := "despatch/despatchlaw06.ArmorBack", spec := "armorBack", inPlace := ["internal/bytealg.IndexByteString"], unfollowed := true, recurses := true, apart := false, narrowed := true }
def ArmorBackUptoSaid : Prop := armorBackUptoRow.holds Try.pinned (OpenSpec.upto armorBackSpec)

/-- 'despatchlaw06.ArmorOne', WHERE WHAT IT READS IS OF BULK AT MOST 1048576: true; the input reads as it did. -/
def armorOneUptoRow : OpenClaim := { program := "ytdaplnidogkmkaa", sum := "edb36a3faeb2e4961efafadb90e015679438ae5d67ddfbb7da3ba451361ffc00", func := "despatch/despatchlaw06.ArmorOne", spec := "armorOne", inPlace := ["internal/bytealg.IndexByteString"], unfollowed := true, recurses := true, apart := false, narrowed := true }
def ArmorOneUptoSaid : Prop := armorOneUptoRow.holds Try.pinned (OpenSpec.upto armorOneSpec)

/-- 'despatchlaw06.ArmorParts', WHERE WHAT IT READS IS OF BULK AT MOST 1048576: true; the input reads as it did. -/
def armorPartsUptoRow : OpenClaim := { program := "ytdaplnidogkmkaa", sum := "edb36a3faeb2e4961efafadb90e015679438ae5d67ddfbb7da3ba451361ffc00", func := "despatch/despatchlaw06.ArmorParts", spec := "armorParts", inPlace := ["internal/bytealg.IndexByteString"], unfollowed := true, recurses := true, apart := false, narrowed := true }
def ArmorPartsUptoSaid : Prop := armorPartsUptoRow.holds Try.pinned (OpenSpec.upto armorPartsSpec)

end Rows
end Go.Proofs.Ytdaplnidogkmkaa
