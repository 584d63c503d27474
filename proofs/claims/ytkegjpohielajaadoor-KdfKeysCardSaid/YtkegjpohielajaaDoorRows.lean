/-
  NARROWER THAN 'FOR EVERY INPUT', by the rows' own cells (each row's printed sentence says how): HashSums: laid · HashParts: laid · HashKeys: laid · HashUnlike: laid · KdfBytes: laid · KdfKeys: laid · KdfFront: laid · KdfSteps: laid.
  DERIVED. THE GIVEN ROWS OF THIS SEAT. 8 by the template 'for every input the law returns true; each argument reads behind the call as it read before'; 0 by the template 'total and deterministic' (their statements: YtkegjpohielajaaDoorTotals.lean).
  GIVEN WITH THE SEED: the statements are not yours to turn. If you find one false, say at which input.
  Laid BY PROGRAM, IN A SANDBOX (cutbox-rows.mjs): the forced cells as the released guide's own fill.sh prints them over the translation fa5dc2ca6fa550b2… (all of the seat's roots in one cut). By AI agents, Wed Nov 11 2026. No macro, syntax, notation, axiom, sorry.
-/
import Derived.Test.YtkegjpohielajaaDoorChecked
import GoSem.Claim
import GoSem.ClaimJoined
import GoSem.ClaimMapViews
import Derived.JoinedTies
import Derived.KernelRfl
namespace Go.Proofs.YtkegjpohielajaaDoor
/- THE CELL 'sum', in the pinned program and in every row, IS THE sha256 OF THE DUMP (.gsa) THAT YtkegjpohielajaaDoorProg.lean LOADS. Nothing in Lean hashes anything: it is a label: what it is worth is what the hold of that sum in a sandbox is worth. -/
noncomputable def Tryd.pinned : Pinned := { name := "ytkegjpohielajaadoor", sum := "fa5dc2ca6fa550b24b3ff228e7bf9dd60f65ee3931b8a5690129d9e3aa72cd1e", checked := Tryd.checked }
namespace Rows
def none {H : Type} : Left H := { results := [], args := [] }

/- WHAT THE LISTED PACKAGE-LEVEL VARIABLES READ AS WHEN THE CALL BEGINS. Each datum BY PROGRAM (the guide's laid-datum.mjs) off the statement by which the dump's own 'gosem.cut.vars' lays the variable. In a bare row this is a premise. The card (YtkegjpohielajaaDoorCards.lean) ties it to the program's text. -/
def laid_despatch_hash_rounds {H : Type} : DataW H := .agg [.lit (.int .u32 1116352408), .lit (.int .u32 1899447441), .lit (.int .u32 3049323471), .lit (.int .u32 3921009573), .lit (.int .u32 961987163), .lit (.int .u32 1508970993), .lit (.int .u32 2453635748), .lit (.int .u32 2870763221), .lit (.int .u32 3624381080), .lit (.int .u32 310598401), .lit (.int .u32 607225278), .lit (.int .u32 1426881987), .lit (.int .u32 1925078388), .lit (.int .u32 2162078206), .lit (.int .u32 2614888103), .lit (.int .u32 3248222580), .lit (.int .u32 3835390401), .lit (.int .u32 4022224774), .lit (.int .u32 264347078), .lit (.int .u32 604807628), .lit (.int .u32 770255983), .lit (.int .u32 1249150122), .lit (.int .u32 1555081692), .lit (.int .u32 1996064986), .lit (.int .u32 2554220882), .lit (.int .u32 2821834349), .lit (.int .u32 2952996808), .lit (.int .u32 3210313671), .lit (.int .u32 3336571891), .lit (.int .u32 3584528711), .lit (.int .u32 113926993), .lit (.int .u32 338241895), .lit (.int .u32 666307205), .lit (.int .u32 773529912), .lit (.int .u32 1294757372), .lit (.int .u32 1396182291), .lit (.int .u32 1695183700), .lit (.int .u32 1986661051), .lit (.int .u32 2177026350), .lit (.int .u32 2456956037), .lit (.int .u32 2730485921), .lit (.int .u32 2820302411), .lit (.int .u32 3259730800), .lit (.int .u32 3345764771), .lit (.int .u32 3516065817), .lit (.int .u32 3600352804), .lit (.int .u32 4094571909), .lit (.int .u32 275423344), .lit (.int .u32 430227734), .lit (.int .u32 506948616), .lit (.int .u32 659060556), .lit (.int .u32 883997877), .lit (.int .u32 958139571), .lit (.int .u32 1322822218), .lit (.int .u32 1537002063), .lit (.int .u32 1747873779), .lit (.int .u32 1955562222), .lit (.int .u32 2024104815), .lit (.int .u32 2227730452), .lit (.int .u32 2361852424), .lit (.int .u32 2428436474), .lit (.int .u32 2756734187), .lit (.int .u32 3204031479), .lit (.int .u32 3329325298)]

/-- 'despatchlaw01.HashSums': WHATEVER THE INPUT: true; the input reads as it did. -/
def hashSumsSpec : ChangeSpec := { name := "hashSums", fn := fun _ => fun
  | [d1, d2] => { results := [.lit (.bool true)], args := [d1, d2] }
  | _ => none }
def hashSumsRow : OpenClaim := { program := "ytkegjpohielajaadoor", sum := "fa5dc2ca6fa550b24b3ff228e7bf9dd60f65ee3931b8a5690129d9e3aa72cd1e", func := "despatch/despatchlaw01.HashSums", spec := "hashSums", named := ["despatch/hash.rounds"], apart := false, laid := [("despatch/hash.rounds", laid_despatch_hash_rounds)] }
def HashSumsSaid : Prop := hashSumsRow.holds Tryd.pinned (OpenSpec.ofChange hashSumsSpec)

/-- ITS FALSE NEIGHBOUR: 'it returns false'. Refute it at one input. -/
def hashSumsWrong : ChangeSpec := { name := "hashSums", fn := fun _ => fun
  | [d1, d2] => { results := [.lit (.bool false)], args := [d1, d2] }
  | _ => none }
def HashSumsWrongFalsely : Prop := hashSumsRow.holds Tryd.pinned (OpenSpec.ofChange hashSumsWrong)

/-- 'despatchlaw01.HashParts': WHATEVER THE INPUT: true; the input reads as it did. -/
def hashPartsSpec : ChangeSpec := { name := "hashParts", fn := fun _ => fun
  | [d1, d2] => { results := [.lit (.bool true)], args := [d1, d2] }
  | _ => none }
def hashPartsRow : OpenClaim := { program := "ytkegjpohielajaadoor", sum := "fa5dc2ca6fa550b24b3ff228e7bf9dd60f65ee3931b8a5690129d9e3aa72cd1e", func := "despatch/despatchlaw01.HashParts", spec := "hashParts", named := ["despatch/hash.rounds"], apart := false, laid := [("despatch/hash.rounds", laid_despatch_hash_rounds)] }
def HashPartsSaid : Prop := hashPartsRow.holds Tryd.pinned (OpenSpec.ofChange hashPartsSpec)

/-- ITS FALSE NEIGHBOUR: 'it returns false'. Refute it at one input. -/
def hashPartsWrong : ChangeSpec := { name := "hashParts", fn := fun _ => fun
  | [d1, d2] => { results := [.lit (.bool false)], args := [d1, d2] }
  | _ => none }
def HashPartsWrongFalsely : Prop := hashPartsRow.holds Tryd.pinned (OpenSpec.ofChange hashPartsWrong)

/-- 'despatchlaw01.HashKeys': WHATEVER THE INPUT: true; the input reads as it did. -/
def hashKeysSpec : ChangeSpec := { name := "hashKeys", fn := fun _ => fun
  | [d1, d2, d3] => { results := [.lit (.bool true)], args := [d1, d2, d3] }
  | _ => none }
def hashKeysRow : OpenClaim := { program := "ytkegjpohielajaadoor", sum := "fa5dc2ca6fa550b24b3ff228e7bf9dd60f65ee3931b8a5690129d9e3aa72cd1e", func := "despatch/despatchlaw01.HashKeys", spec := "hashKeys", named := ["despatch/hash.rounds"], apart := false, laid := [("despatch/hash.rounds", laid_despatch_hash_rounds)] }
def HashKeysSaid : Prop := hashKeysRow.holds Tryd.pinned (OpenSpec.ofChange hashKeysSpec)

/-- ITS FALSE NEIGHBOUR: 'it returns false'. Refute it at one input. -/
def hashKeysWrong : ChangeSpec := { name := "hashKeys", fn := fun _ => fun
  | [d1, d2, d3] => { results := [.lit (.bool false)], args := [d1, d2, d3] }
  | _ => none }
def HashKeysWrongFalsely : Prop := hashKeysRow.holds Tryd.pinned (OpenSpec.ofChange hashKeysWrong)

/-- 'despatchlaw01.HashUnlike': WHATEVER THE INPUT: true; the input reads as it did. -/
def hashUnlikeSpec : ChangeSpec := { name := "hashUnlike", fn := fun _ => fun
  | [d1, d2, d3] => { results := [.lit (.bool true)], args := [d1, d2, d3] }
  | _ => none }
def hashUnlikeRow : OpenClaim := { program := "ytkegjpohielajaadoor", sum := "fa5dc2ca6fa550b24b3ff228e7bf9dd60f65ee3931b8a5690129d9e3aa72cd1e", func := "despatch/despatchlaw01.HashUnlike", spec := "hashUnlike", named := ["despatch/hash.rounds"], apart := false, laid := [("despatch/hash.rounds", laid_despatch_hash_rounds)] }
def HashUnlikeSaid : Prop := hashUnlikeRow.holds Tryd.pinned (OpenSpec.ofChange hashUnlikeSpec)

/-- ITS FALSE NEIGHBOUR: 'it returns false'. Refute it at one input. -/
def hashUnlikeWrong : ChangeSpec := { name := "hashUnlike", fn := fun _ => fun
  | [d1, d2, d3] => { results := [.lit (.bool false)], args := [d1, d2, d3] }
  | _ => none }
def HashUnlikeWrongFalsely : Prop := hashUnlikeRow.holds Tryd.pinned (OpenSpec.ofChange hashUnlikeWrong)

/-- 'despatchlaw02.KdfBytes': WHATEVER THE INPUT: true; the input reads as it did. -/
def kdfBytesSpec : ChangeSpec := { name := "kdfBytes", fn := fun _ => fun
  | [d1, d2, d3, d4, d5] => { results := [.lit (.bool true)], args := [d1, d2, d3, d4, d5] }
  | _ => none }
def kdfBytesRow : OpenClaim := { program := "ytkegjpohielajaadoor", sum := "fa5dc2ca6fa550b24b3ff228e7bf9dd60f65ee3931b8a5690129d9e3aa72cd1e", func := "despatch/despatchlaw02.KdfBytes", spec := "kdfBytes", named := ["despatch/hash.rounds"], apart := false, laid := [("despatch/hash.rounds", laid_despatch_hash_rounds)] }
def KdfBytesSaid : Prop := kdfBytesRow.holds Tryd.pinned (OpenSpec.ofChange kdfBytesSpec)

/-- ITS FALSE NEIGHBOUR: 'it returns false'. Refute it at one input. -/
def kdfBytesWrong : ChangeSpec := { name := "kdfBytes", fn := fun _ => fun
  | [d1, d2, d3, d4, d5] => { results := [.lit (.bool false)], args := [d1, d2, d3, d4, d5] }
  | _ => none }
def KdfBytesWrongFalsely : Prop := kdfBytesRow.holds Tryd.pinned (OpenSpec.ofChange kdfBytesWrong)

/-- 'despatchlaw02.KdfKeys': WHATEVER THE INPUT: true; the input reads as it did. -/
def kdfKeysSpec : ChangeSpec := { name := "kdfKeys", fn := fun _ => fun
  | [d1, d2, d3, d4, d5] => { results := [.lit (.bool true)], args := [d1, d2, d3, d4, d5] }
  | _ => none }
def kdfKeysRow : OpenClaim := { program := "ytkegjpohielajaadoor", sum := "fa5dc2ca6fa550b24b3ff228e7bf9dd60f65ee3931b8a5690129d9e3aa72cd1e", func := "despatch/despatchlaw02.KdfKeys", spec := "kdfKeys", named := ["despatch/hash.rounds"], apart := false, laid := [("despatch/hash.rounds", laid_despatch_hash_rounds)] }
def KdfKeysSaid : Prop := kdfKeysRow.holds Tryd.pinned (OpenSpec.ofChange kdfKeysSpec)

/-- ITS FALSE NEIGHBOUR: 'it returns false'. Refute it at one input. -/
def kdfKeysWrong : ChangeSpec := { name := "kdfKeys", fn := fun _ => fun
  | [d1, d2, d3, d4, d5] => { results := [.lit (.bool false)], args := [d1, d2, d3, d4, d5] }
  | _ => none }
def KdfKeysWrongFalsely : Prop := kdfKeysRow.holds Tryd.pinned (OpenSpec.ofChange kdfKeysWrong)

/-- 'despatchlaw02.KdfFront': WHATEVER THE INPUT: true; the input reads as it did. -/
def kdfFrontSpec : ChangeSpec := { name := "kdfFront", fn := fun _ => fun
  | [d1, d2, d3, d4] => { results := [.lit (.bool true)], args := [d1, d2, d3, d4] }
  | _ => none }
def kdfFrontRow : OpenClaim := { program := "ytkegjpohielajaadoor", sum := "fa5dc2ca6fa550b24b3ff228e7bf9dd60f65ee3931b8a5690129d9e3aa72cd1e", func := "despatch/despatchlaw02.KdfFront", spec := "kdfFront", named := ["despatch/hash.rounds"], apart := false, laid := [("despatch/hash.rounds", laid_despatch_hash_rounds)] }
def KdfFrontSaid : Prop := kdfFrontRow.holds Tryd.pinned (OpenSpec.ofChange kdfFrontSpec)

/-- ITS FALSE NEIGHBOUR: 'it returns false'. Refute it at one input. -/
def kdfFrontWrong : ChangeSpec := { name := "kdfFront", fn := fun _ => fun
  | [d1, d2, d3, d4] => { results := [.lit (.bool false)], args := [d1, d2, d3, d4] }
  | _ => none }
def KdfFrontWrongFalsely : Prop := kdfFrontRow.holds Tryd.pinned (OpenSpec.ofChange kdfFrontWrong)

/-- 'despatchlaw02.KdfSteps': WHATEVER THE INPUT: true; the input reads as it did. -/
def kdfStepsSpec : ChangeSpec := { name := "kdfSteps", fn := fun _ => fun
  | [d1, d2] => { results := [.lit (.bool true)], args := [d1, d2] }
  | _ => none }
def kdfStepsRow : OpenClaim := { program := "ytkegjpohielajaadoor", sum := "fa5dc2ca6fa550b24b3ff228e7bf9dd60f65ee3931b8a5690129d9e3aa72cd1e", func := "despatch/despatchlaw02.KdfSteps", spec := "kdfSteps", named := ["despatch/hash.rounds"], apart := false, laid := [("despatch/hash.rounds", laid_despatch_hash_rounds)] }
def KdfStepsSaid : Prop := kdfStepsRow.holds Tryd.pinned (OpenSpec.ofChange kdfStepsSpec)

/-- ITS FALSE NEIGHBOUR: 'it returns false'. Refute it at one input. -/
def kdfStepsWrong : ChangeSpec := { name := "kdfSteps", fn := fun _ => fun
  | [d1, d2] => { results := [.lit (.bool false)], args := [d1, d2] }
  | _ => none }
def KdfStepsWrongFalsely : Prop := kdfStepsRow.holds Tryd.pinned (OpenSpec.ofChange kdfStepsWrong)

/- THE SECOND FORM. 'bulk': how many values and letters a reading holds, each counted each time it is reached (what is shared counts as often as it is met; a slice's spare places count too). A statement '..UptoSaid' is the law's where the arguments, and the package variables that the reading takes, are together of bulk at most 1048576: NARROWER than '..Said'. Prove '..Said' where nothing that the law and all that it calls make is longer than what came in: it says more and counts as full. Else prove '..UptoSaid'. A law counts once. -/
mutual
def uptoBulk {H : Type} : DataW H → Nat
  | .lit (.string bytes) => bytes.length + 1
  | .lit _ => 1
  | .nil => 1
  | .ptr d => uptoBulk d + 1
  | .slice elems spare => uptoBulkAll elems + uptoBulkAll spare + 1
  | .agg parts => uptoBulkAll parts + 1
  | .iface _ d => uptoBulk d + 1
  | .map entries => uptoBulkEntries entries + 1
  | .held _ => 1
def uptoBulkAll {H : Type} : List (DataW H) → Nat
  | [] => 0
  | d :: r => uptoBulk d + uptoBulkAll r
def uptoBulkEntries {H : Type} : List (Lit × DataW H) → Nat
  | [] => 0
  | x :: r => uptoBulkEntry x + uptoBulkEntries r
def uptoBulkEntry {H : Type} : Lit × DataW H → Nat
  | (.string bytes, d) => bytes.length + uptoBulk d + 1
  | (_, d) => uptoBulk d + 1
 end
def uptoSmall : (H : Type) → List (DataW H) → Bool := fun _ ds => decide (uptoBulkAll ds ≤ 1048576)
def OpenSpec.upto (s : _root_.Go.ChangeSpec) : _root_.Go.OpenSpec := { _root_.Go.OpenSpec.ofChange s with cond := some uptoSmall }

/-- 'despatchlaw01.HashSums', WHERE WHAT IT READS IS OF BULK AT MOST 1048576: true; the input reads as it did. -/
def hashSumsUptoRow : OpenClaim := { program := "ytkegjpohielajaadoor", sum := "fa5dc2ca6fa550b24b3ff228e7bf9dd60f65ee3931b8a5690129d9e3aa72cd1e", func := "despatch/despatchlaw01.HashSums", spec := "hashSums", named := ["despatch/hash.rounds"], apart := false, laid := [("despatch/hash.rounds", laid_despatch_hash_rounds)], narrowed := true }
def HashSumsUptoSaid : Prop := hashSumsUptoRow.holds Tryd.pinned (OpenSpec.upto hashSumsSpec)

/-- 'despatchlaw01.HashParts', WHERE WHAT IT READS IS OF BULK AT MOST 1048576: true; the input reads as it did. -/
def hashPartsUptoRow : OpenClaim := { program := "ytkegjpohielajaadoor", sum := "fa5dc2ca6fa550b24b3ff228e7bf9dd60f65ee3931b8a5690129d9e3aa72cd1e", func := "despatch/despatchlaw01.HashParts", spec := "hashParts", named := ["despatch/hash.rounds"], apart := false, laid := [("despatch/hash.rounds", laid_despatch_hash_rounds)], narrowed := true }
def HashPartsUptoSaid : Prop := hashPartsUptoRow.holds Tryd.pinned (OpenSpec.upto hashPartsSpec)

/-- 'despatchlaw01.HashKeys', WHERE WHAT IT READS IS OF BULK AT MOST 1048576: true; the input reads as it did. -/
def hashKeysUptoRow : OpenClaim := { program := "ytkegjpohielajaadoor", sum := "fa5dc2ca6fa550b24b3ff228e7bf9dd60f65ee3931b8a5690129d9e3aa72cd1e", func := "despatch/despatchlaw01.HashKeys", spec := "hashKeys", named := ["despatch/hash.rounds"], apart := false, laid := [("despatch/hash.rounds", laid_despatch_hash_rounds)], narrowed := true }
def HashKeysUptoSaid : Prop := hashKeysUptoRow.holds Tryd.pinned (OpenSpec.upto hashKeysSpec)

/-- 'despatchlaw01.HashUnlike', WHERE WHAT IT READS IS OF BULK AT MOST 1048576: true; the input reads as it did. -/
def hashUnlikeUptoRow : OpenClaim := { program := "ytkegjpohielajaadoor", sum := "fa5dc2ca6fa550b24b3ff228e7bf9dd60f65ee3931b8a5690129d9e3aa72cd1e", func := "despatch/despatchlaw01.HashUnlike", spec := "hashUnlike", named := ["despatch/hash.rounds"], apart := false, laid := [("despatch/hash.rounds", laid_despatch_hash_rounds)], narrowed := true }
def HashUnlikeUptoSaid : Prop := hashUnlikeUptoRow.holds Tryd.pinned (OpenSpec.upto hashUnlikeSpec)

/-- 'despatchlaw02.KdfBytes', WHERE WHAT IT READS IS OF BULK AT MOST 1048576: true; the input reads as it did. -/
def kdfBytesUptoRow : OpenClaim := { program := "ytkegjpohielajaadoor", sum := "fa5dc2ca6fa550b24b3ff228e7bf9dd60f65ee3931b8a5690129d9e3aa72cd1e", func := "despatch/despatchlaw02.KdfBytes", spec := "kdfBytes", named := ["despatch/hash.rounds"], apart := false, laid := [("despatch/hash.rounds", laid_despatch_hash_rounds)], narrowed := true }
def KdfBytesUptoSaid : Prop := kdfBytesUptoRow.holds Tryd.pinned (OpenSpec.upto kdfBytesSpec)

/-- 'despatchlaw02.KdfKeys', WHERE WHAT IT READS IS OF BULK AT MOST 1048576: true; the input reads as it did. -/
def kdfKeysUptoRow : OpenClaim := { program := "ytkegjpohielajaadoor", sum := "fa5dc2ca6fa550b24b3ff228e7bf9dd60f65ee3931b8a5690129d9e3aa72cd1e", func := "despatch/despatchlaw02.KdfKeys", spec := "kdfKeys", named := ["despatch/hash.rounds"], apart := false, laid := [("despatch/hash.rounds", laid_despatch_hash_rounds)], narrowed := true }
def KdfKeysUptoSaid : Prop := kdfKeysUptoRow.holds Tryd.pinned (OpenSpec.upto kdfKeysSpec)

/-- 'despatchlaw02.KdfFront', WHERE WHAT IT READS IS OF BULK AT MOST 1048576: true; the input reads as it did. -/
def kdfFrontUptoRow : OpenClaim := { program := "ytkegjpohielajaadoor", sum := "fa5dc2ca6fa550b24b3ff228e7bf9dd60f65ee3931b8a5690129d9e3aa72cd1e", func := "despatch/despatchlaw02.KdfFront", spec := "kdfFront", named := ["despatch/hash.rounds"], apart := false, laid := [("despatch/hash.rounds", laid_despatch_hash_rounds)], narrowed := true }
def KdfFrontUptoSaid : Prop := kdfFrontUptoRow.holds Tryd.pinned (OpenSpec.upto kdfFrontSpec)

/-- 'despatchlaw02.KdfSteps', WHERE WHAT IT READS IS OF BULK AT MOST 1048576: true; the input reads as it did. -/
def kdfStepsUptoRow : OpenClaim := { program := "ytkegjpohielajaadoor", sum := "fa5dc2ca6fa550b24b3ff228e7bf9dd60f65ee3931b8a5690129d9e3aa72cd1e", func := "despatch/despatchlaw02.KdfSteps", spec := "kdfSteps", named := ["despatch/hash.rounds"], apart := false, laid := [("despatch/hash.rounds", laid_despatch_hash_rounds)], narrowed := true }
def KdfStepsUptoSaid : Prop := kdfStepsUptoRow.holds Tryd.pinned (OpenSpec.upto kdfStepsSpec)

end Rows
end Go.Proofs.YtkegjpohielajaaDoor
