/-
  Of no statement by itself: answers that are one slice of bytes, told as facts of the world.
  Conditions: each theorem's own.
-/
import Derived.Test.YtnopllkpfdgkkaaTyp
import Derived.Test.YtnopllkpfdgkkaaSlr
import Derived.Test.YtnopllkpfdgkkaaLinT
namespace Go.Proofs.Ytnopllkpfdgkkaa
open Sl Lin
/-- an answer that is one slice of bytes -/
def Gives (l : List Lin.By) (w : World) (e : Ending) (w' : World) : Prop := ∃ x : Sl8, e = .returned x.v ∧ Ext w w' ∧ x.l = l ∧ x.ok w'
/-- a call that gives one slice of bytes -/
theorem JL.callb {P : Program} {n : Nat} {w0 : World} {S S' : List Nat} {ops : Array Oper} {Q : Exit → Act → World → Prop} {l : List Oper} {E : Env} {M : List Ent} {d : Nat} {ty : TypeId} {pos : String} {aft : Array Edge} {r : List Bt} (M' : List Ent)
    {f : FuncId} {xs : List Operand} {ats : Array TypeId} {vs : List Value} (hg : Goes P f) (hx : evs E xs = some vs) (hd : Nat.blt d n = true)
    (hc : ∀ w1, Holds w0 S M w1 → Calls P f vs.toArray w1 (Gives r w1))
    (hM : Less M' M) (hS : ∀ e ∈ M', e.wr = true → e.b ∈ S')
    (k : ∀ x : Sl8, x.l = r → ∀ w1, Holds w0 S M w1 → x.ok w1 → JL P n w1 S' ops Q l ((d, x.v) :: E) M') : JL P n w0 S ops Q (⟨some d, .call ⟨.value (.func f), xs.toArray, ats⟩, ty, pos, aft, none⟩ :: l) E M :=
  JL.callw (ι := { x : Sl8 // x.l = r }) (fun x => x.1.v) (fun x w => x.1.ok w) M' hg hx hd (fun w1 h1 => (hc w1 h1).mono fun e w2 ⟨x, e1, e2, e3, e4⟩ => ⟨⟨x, e3⟩, e1, e2, e4⟩) hM hS fun x w1 h1 h2 => k x.1 x.2 w1 h1 h2
end Go.Proofs.Ytnopllkpfdgkkaa
