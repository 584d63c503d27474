/-
  Of no statement by itself: what the reference's Write (layer 10) gives.
  Conditions: each theorem's own.
-/
import Derived.Test.YtchoiikhepjdiaaDoorBf
namespace Go.Proofs.YtchoiikhepjdiaaDoor
set_option maxRecDepth 10000
open Sl Fld Tok
structure WS where
  i : Nat
  o : List Fld.By
  n : Nat
  b : Nat
  cap : Nat
theorem drop_pr {l : List Pr} {i : Nat} (h : i < l.length) : l.drop i = l.getD i ([], []) :: l.drop (i + 1) := by
  rw [List.drop_eq_getElem_cons h, List.getD_eq_getElem?_getD, List.getElem?_eq_getElem h]; rfl
theorem esc_cons (c : Fld.By) (r : List Fld.By) : esc (c :: r) = (if c = 34 ∨ c = 92 then [92, c] else [c]) ++ esc r := by unfold esc; rw [List.flatMap_cons]
end Go.Proofs.YtchoiikhepjdiaaDoor
