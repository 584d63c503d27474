/-
  Of no statement by itself: what despatchlaw10's TokenParams gives, over what token's functions owe (TokenOk).
  Conditions: TokenOk, and the theorem's own.
-/
import Derived.Test.YtchoiikhepjdiaaDoorBf
import Derived.Test.YtchoiikhepjdiaaDoorTokQ
namespace Go.Proofs.YtchoiikhepjdiaaDoor
set_option maxRecDepth 10000
open Sl Fld Tok
theorem goes_twrite : Goes Tryd.prog 36 := ⟨_, Tryd.func36, rfl, by kernel_rfl⟩
def short2 (a : Sl2) : Prop := ∀ p ∈ a.l, p.1.length ≤ 200 ∧ p.2.length ≤ 200
theorem short_all {a : Sl2} (h : ∀ i, i < a.l.length → (a.l.getD i ([], [])).1.length ≤ 200 ∧ (a.l.getD i ([], [])).2.length ≤ 200) : short2 a := by
  intro p hp
  obtain ⟨i, hi, rfl⟩ := List.mem_iff_getElem.1 hp
  have := h i hi
  rwa [List.getD_eq_getElem?_getD, List.getElem?_eq_getElem hi] at this
end Go.Proofs.YtchoiikhepjdiaaDoor
