/-
  Of no statement by itself: facts of the program's types that many texts use.
  Conditions: none.
-/
import Derived.Test.YtbihfhkbkcplmaaProg
import Derived.Test.YtbihfhkbkcplmaaSlt
namespace Go.Proofs.Ytbihfhkbkcplmaa
set_option maxRecDepth 10000
open Sl
theorem mixT : Try.prog.follows .mixedOrders = true := by kernel_rfl
theorem u8s : szT Try.prog 5 = some 1 := by kernel_rfl
theorem u8c : scal Try.prog 5 = true := by kernel_rfl
theorem u8e : EI Try.prog 5 (.int .u8 0) 1 1 := by unfold EI; kernel_rfl
end Go.Proofs.Ytbihfhkbkcplmaa
