/-
  Of no statement by itself: the texts CrvC, CrvD, CrvE, CrvG, CrvH, CurA, CrvJ, CurB, CurC, CrvK, CurD, CrvW, CurE, CrvM, CurF, CrvU, CrvV, CrvX, CrvY in one.
  Conditions: each theorem's own.
-/
import Derived.Test.YtgkninhgcpbfnaaGreatDoorKc
import Derived.Test.YtgkninhgcpbfnaaGreatDoorProg
import Derived.KernelRfl
set_option linter.unusedSimpArgs false
set_option linter.unusedVariables false
namespace Go.Proofs.YtgkninhgcpbfnaaGreatDoor
section
namespace dO
def G4 (d x1 y1 x2 y2 : F) : F:=(x2*x2*x2*x2)+(y2*y2*y2*y2)+(-2*x2*x2*y2*y2*y2*y2)+(-2*x2*x2*x2*x2*y2*y2)+(4*x2*x2*y2*y2)+(-d*d*x2*x2*x2*x2*y2*y2*y2*y2)+(-2*d*x2*x2*y2*y2)+(2*d*x2*x2*x2*x2*y2*y2*y2*y2)+(d*d*x1*x1*x2*x2*x2*x2*y2*y2*y2*y2)+(d*d*x2*x2*x2*x2*y1*y1*y2*y2*y2*y2)+(-d*x1*x1*x2*x2*y2*y2*y2*y2)+(-d*x1*x1*x2*x2*x2*x2*y2*y2)+(-d*x2*x2*y1*y1*y2*y2*y2*y2)+(-d*x2*x2*x2*x2*y1*y1*y2*y2)+(d*d*d*x1*x1*x2*x2*x2*x2*y1*y1*y2*y2*y2*y2)
def G5 (d x1 y1 x2 y2 : F) : F:=(1)+(x2*x2)+(y2*y2)+(-x1*x1*x2*x2)+(-x1*x1*y2*y2)+(-x2*x2*y1*y1)+(-y1*y1*y2*y2)+(-2*x2*x2*y2*y2)+(d*x2*x2*y2*y2)+(2*x1*x1*x2*x2*y2*y2)+(2*x2*x2*y1*y1*y2*y2)+(d*x1*x1*x1*x1*x2*x2*y2*y2)+(d*x2*x2*y1*y1*y1*y1*y2*y2)+(-2*d*x1*x1*x2*x2*y2*y2)+(-2*d*x2*x2*y1*y1*y2*y2)
theorem FF (d x1 y1 x2 y2 : F) : (x1*y2+x2*y1)*(x1*y2+x2*y1)*((1-d*x1*x2*y1*y2)*(1-d*x1*x2*y1*y2))+(y1*y2-x1*x2)*(y1*y2-x1*x2)*((1+d*x1*x2*y1*y2)*(1+d*x1*x2*y1*y2))-(1-d*x1*x2*y1*y2)*(1-d*x1*x2*y1*y2)*((1+d*x1*x2*y1*y2)*(1+d*x1*x2*y1*y2))-d*((x1*y2+x2*y1)*(x1*y2+x2*y1))*((y1*y2-x1*x2)*(y1*y2-x1*x2))
    = G4 d x1 y1 x2 y2*(-d*x1*x1*y1*y1+x1*x1+y1*y1 - 1)+G5 d x1 y1 x2 y2*(-d*x2*x2*y2*y2+x2*x2+y2*y2 - 1):=by
  unfold G4 G5
  grobner
def Kg (d x1 y1 x2 y2 x3 y3 : F) : F:=(d*x1*x2*x2*x2*x3*y2*y2)+(d*x1*x2*x2*y2*y2*y2*y3*y3*y3)+(d*x2*x2*x3*x3*x3*y1*y2*y2*y2)+(d*x2*x2*x2*y1*y2*y2*y3*y3*y3)+(-d*x1*x2*x2*y2*y2*y2*y3)+(-d*x1*x2*x2*x2*x3*x3*x3*y2*y2)+(-d*x2*x2*x3*y1*y2*y2*y2)+(-d*x2*x2*x2*y1*y2*y2*y3)+(d*x1*x2*x3*y2*y2*y2*y2*y3*y3)+(d*d*x1*x2*x2*x2*x2*x3*x3*y2*y2*y2*y3)+(d*d*x2*x2*x2*x2*x3*y1*y2*y2*y2*y3*y3)+(d*d*x2*x2*x2*x3*x3*y1*y2*y2*y2*y2*y3)+(-d*x1*x2*x2*x2*x2*x3*x3*y2*y3)+(-d*x2*x3*x3*y1*y2*y2*y2*y2*y3)+(-d*x2*x2*x2*x2*x3*y1*y2*y3*y3)+(-d*d*x1*x2*x2*x2*x3*y2*y2*y2*y2*y3*y3)
def Kh (d x1 y1 x2 y2 x3 y3 : F) : F:=(x1*x2*x3*x3*x3)+(x1*y2*y3)+(x1*x1*x1*x2*x3)+(x2*y1*y3)+(x2*y1*y1*y1*y3*y3*y3)+(x3*y1*y2)+(x1*x1*x1*y2*y3*y3*y3)+(x3*x3*x3*y1*y1*y1*y2)+(-x1*x2*x3)+(-x1*y2*y3*y3*y3)+(-x2*y1*y3*y3*y3)+(-x2*y1*y1*y1*y3)+(-x1*x1*x1*x2*x3*x3*x3)+(-x3*y1*y1*y1*y2)+(-x3*x3*x3*y1*y2)+(-x1*x1*x1*y2*y3)+(x1*x2*x3*y1*y1)+(x1*x2*x3*y3*y3)+(x1*y1*y1*y2*y3*y3*y3)+(x1*x1*x2*y1*y3*y3*y3)+(x2*x3*x3*y1*y1*y1*y3)+(x3*y1*y1*y1*y2*y3*y3)+(x1*x1*x3*x3*x3*y1*y2)+(x1*x1*x1*x3*x3*y2*y3)+(-x1*x2*x3*x3*x3*y1*y1)+(-x1*x3*x3*y2*y3)+(-x1*y1*y1*y2*y3)+(-x1*x1*x1*x2*x3*y3*y3)+(-x1*x1*x2*y1*y3)+(-x2*x3*x3*y1*y3)+(-x1*x1*x3*y1*y2)+(-x3*y1*y2*y3*y3)+(d*x1*x3*x3*y2*y3*y3*y3)+(d*x2*x3*x3*y1*y3*y3*y3)+(d*x1*x1*x1*x2*x3*x3*x3*y3*y3)+(d*x3*x3*x3*y1*y2*y3*y3)+(x1*x3*x3*y1*y1*y2*y3)+(x1*x1*x2*x3*x3*y1*y3)+(x1*x1*x3*y1*y2*y3*y3)+(-d*x1*x2*x3*x3*x3*y3*y3)+(-d*x2*x3*x3*y1*y1*y1*y3*y3*y3)+(-d*x1*x1*x1*x3*x3*y2*y3*y3*y3)+(-d*x3*x3*x3*y1*y1*y1*y2*y3*y3)+(-x1*x2*x3*y1*y1*y3*y3)+(d*x1*x2*x3*y2*y2*y3*y3)+(d*x1*x2*x3*x3*x3*y1*y1*y3*y3)+(d*x2*x3*x3*y1*y1*y1*y2*y2*y3)+(d*x2*x2*x3*y1*y1*y1*y2*y3*y3)+(d*x1*x1*x1*x2*x2*x3*x3*y2*y3)+(-d*x1*x2*x2*x3*x3*y2*y3)+(-d*x1*x3*x3*y1*y1*y2*y3*y3*y3)+(-d*x1*x1*x1*x2*x3*y2*y2*y3*y3)+(-d*x2*x3*x3*y1*y2*y2*y3)+(-d*x1*x1*x2*x3*x3*y1*y3*y3*y3)+(-d*x2*x2*x3*y1*y2*y3*y3)+(-d*x1*x1*x3*x3*x3*y1*y2*y3*y3)+(d*x1*x2*x2*x3*x3*y1*y1*y2*y3)+(d*x1*x1*x2*x3*x3*y1*y2*y2*y3)+(d*x1*x1*x2*x2*x3*y1*y2*y3*y3)+(d*d*x1*x2*x3*x3*x3*y1*y1*y2*y2*y3*y3)+(-d*x1*x2*x3*y1*y1*y2*y2*y3*y3)+(-d*d*x1*x2*x2*x3*x3*y1*y1*y2*y3*y3*y3)+(-d*d*x1*x1*x2*x3*x3*y1*y2*y2*y3*y3*y3)+(-d*d*x1*x1*x2*x2*x3*x3*x3*y1*y2*y3*y3)
def Ki (d x1 y1 x2 y2 x3 y3 : F) : F:=(x1*x2*x3)+(x1*y2*y2*y2*y3)+(x2*y1*y1*y1*y3)+(x3*y1*y2*y2*y2)+(x3*y1*y1*y1*y2)+(x1*x1*x1*x2*x2*x2*x3)+(x2*x2*x2*y1*y3)+(x1*x1*x1*y2*y3)+(-x1*x2*x2*x2*x3)+(-x1*y2*y3)+(-x1*x1*x1*x2*x3)+(-x2*y1*y3)+(-x3*y1*y2)+(-x3*y1*y1*y1*y2*y2*y2)+(-x1*x1*x1*y2*y2*y2*y3)+(-x2*x2*x2*y1*y1*y1*y3)+(x1*x2*x2*x2*x3*y1*y1)+(x1*x2*x2*y2*y3)+(x1*y1*y1*y2*y3)+(x1*x1*x1*x2*x3*y2*y2)+(x1*x1*x2*y1*y3)+(x2*y1*y2*y2*y3)+(x1*x1*x3*y1*y2)+(x2*x2*x3*y1*y2)+(-x1*x2*x3*y1*y1)+(-x1*x2*x3*y2*y2)+(-x1*y1*y1*y2*y2*y2*y3)+(-x2*y1*y1*y1*y2*y2*y3)+(-x1*x1*x3*y1*y2*y2*y2)+(-x2*x2*x3*y1*y1*y1*y2)+(-x1*x1*x2*x2*x2*y1*y3)+(-x1*x1*x1*x2*x2*y2*y3)+(x1*x2*x3*y1*y1*y2*y2)+(-x1*x2*x2*y1*y1*y2*y3)+(-x1*x1*x2*y1*y2*y2*y3)+(-x1*x1*x2*x2*x3*y1*y2)+(d*x1*x2*x2*y1*y1*y2*y3)+(d*x1*x1*x2*y1*y2*y2*y3)+(d*x1*x1*x2*x2*x3*y1*y2)+(-d*x1*x2*x3*y1*y1*y2*y2)
theorem Is (d x1 y1 x2 y2 x3 y3 : F) : ((x1*y2+x2*y1)*(1-d*x1*x2*y1*y2)*y3+x3*(y1*y2-x1*x2)*(1+d*x1*x2*y1*y2))*((1-d*x2*x3*y2*y3)*(1+d*x2*x3*y2*y3)+d*x1*(x2*y3+x3*y2)*y1*(y2*y3-x2*x3))-(x1*(y2*y3-x2*x3)*(1+d*x2*x3*y2*y3)+(x2*y3+x3*y2)*y1*(1-d*x2*x3*y2*y3))*((1-d*x1*x2*y1*y2)*(1+d*x1*x2*y1*y2)+d*(x1*y2+x2*y1)*x3*(y1*y2-x1*x2)*y3)
    = Kg d x1 y1 x2 y2 x3 y3*(-d*x1*x1*y1*y1+x1*x1+y1*y1 - 1)+Kh d x1 y1 x2 y2 x3 y3*(-d*x2*x2*y2*y2+x2*x2+y2*y2 - 1)+Ki d x1 y1 x2 y2 x3 y3*(-d*x3*x3*y3*y3+x3*x3+y3*y3 - 1):=by
  unfold Kg Kh Ki
  grobner
def Kj (d x1 y1 x2 y2 x3 y3 : F) : F:=(d*x1*x2*x2*x3*y2*y2*y2)+(d*x1*x2*x2*x2*y2*y2*y3)+(d*x2*x2*x2*x3*y1*y2*y2)+(d*x2*x2*y1*y2*y2*y2*y3*y3*y3)+(-d*x1*x2*x2*x3*x3*x3*y2*y2*y2)+(-d*x1*x2*x2*x2*y2*y2*y3*y3*y3)+(-d*x2*x2*y1*y2*y2*y2*y3)+(-d*x2*x2*x2*x3*x3*x3*y1*y2*y2)+(d*x1*x2*x3*x3*y2*y2*y2*y2*y3)+(d*x1*x2*x2*x2*x2*x3*y2*y3*y3)+(d*x2*x3*y1*y2*y2*y2*y2*y3*y3)+(d*d*x2*x2*x2*x2*x3*x3*y1*y2*y2*y2*y3)+(-d*x2*x2*x2*x2*x3*x3*y1*y2*y3)+(-d*d*x1*x2*x2*x2*x2*x3*y2*y2*y2*y3*y3)+(-d*d*x1*x2*x2*x2*x3*x3*y2*y2*y2*y2*y3)+(-d*d*x2*x2*x2*x3*y1*y2*y2*y2*y2*y3*y3)
def Kl (d x1 y1 x2 y2 x3 y3 : F) : F:=(x1*x2*y3*y3*y3)+(x1*x3*x3*x3*y2)+(x2*x3*y1*y1*y1)+(x2*x3*x3*x3*y1)+(x1*x1*x1*x2*y3)+(x1*x1*x1*x3*y2)+(y1*y2*y3)+(y1*y1*y1*y2*y3*y3*y3)+(-x1*x2*y3)+(-x1*x3*y2)+(-x2*x3*y1)+(-x1*x1*x1*x2*y3*y3*y3)+(-x2*x3*x3*x3*y1*y1*y1)+(-y1*y2*y3*y3*y3)+(-y1*y1*y1*y2*y3)+(-x1*x1*x1*x3*x3*x3*y2)+(x1*x2*x3*x3*y3)+(x1*x2*y1*y1*y3)+(x1*x3*y1*y1*y2)+(x1*x3*y2*y3*y3)+(x1*x1*x2*x3*y1)+(x2*x3*y1*y3*y3)+(x1*x1*y1*y2*y3*y3*y3)+(x3*x3*y1*y1*y1*y2*y3)+(-x1*x2*y1*y1*y3*y3*y3)+(-x1*x3*x3*x3*y1*y1*y2)+(-x2*x3*y1*y1*y1*y3*y3)+(-x1*x1*x2*x3*x3*x3*y1)+(-x1*x1*x1*x2*x3*x3*y3)+(-x1*x1*x1*x3*y2*y3*y3)+(-x1*x1*y1*y2*y3)+(-x3*x3*y1*y2*y3)+(d*x1*x1*x1*x2*x3*x3*y3*y3*y3)+(d*x2*x3*x3*x3*y1*y1*y1*y3*y3)+(d*x3*x3*y1*y2*y3*y3*y3)+(d*x1*x1*x1*x3*x3*x3*y2*y3*y3)+(x1*x1*x3*x3*y1*y2*y3)+(-d*x1*x2*x3*x3*y3*y3*y3)+(-d*x1*x3*x3*x3*y2*y3*y3)+(-d*x2*x3*x3*x3*y1*y3*y3)+(-d*x3*x3*y1*y1*y1*y2*y3*y3*y3)+(-x1*x2*x3*x3*y1*y1*y3)+(-x1*x3*y1*y1*y2*y3*y3)+(-x1*x1*x2*x3*y1*y3*y3)+(d*x1*x2*x3*x3*y2*y2*y3)+(d*x1*x2*x3*x3*y1*y1*y3*y3*y3)+(d*x1*x2*x2*x3*y2*y3*y3)+(d*x1*x3*x3*x3*y1*y1*y2*y3*y3)+(d*x2*x3*y1*y2*y2*y3*y3)+(d*x1*x1*x2*x3*x3*x3*y1*y3*y3)+(d*x2*x2*x3*x3*y1*y1*y1*y2*y3)+(-d*x2*x3*y1*y1*y1*y2*y2*y3*y3)+(-d*x1*x1*x1*x2*x3*x3*y2*y2*y3)+(-d*x1*x1*x1*x2*x2*x3*y2*y3*y3)+(-d*x2*x2*x3*x3*y1*y2*y3)+(-d*x1*x1*x3*x3*y1*y2*y3*y3*y3)+(d*x1*x1*x2*x2*x3*x3*y1*y2*y3)+(d*d*x1*x2*x3*x3*y1*y1*y2*y2*y3*y3*y3)+(d*d*x1*x2*x2*x3*x3*x3*y1*y1*y2*y3*y3)+(d*d*x1*x1*x2*x3*x3*x3*y1*y2*y2*y3*y3)+(-d*x1*x2*x3*x3*y1*y1*y2*y2*y3)+(-d*x1*x2*x2*x3*y1*y1*y2*y3*y3)+(-d*x1*x1*x2*x3*y1*y2*y2*y3*y3)+(-d*d*x1*x1*x2*x2*x3*x3*y1*y2*y3*y3*y3)
def Km (d x1 y1 x2 y2 x3 y3 : F) : F:=(x1*x2*y3)+(x1*x3*y2)+(x2*x3*y1)+(x1*x1*x1*x3*y2*y2*y2)+(x2*x2*x2*x3*y1*y1*y1)+(y1*y2*y2*y2*y3)+(y1*y1*y1*y2*y3)+(x1*x1*x1*x2*x2*x2*y3)+(-x1*x3*y2*y2*y2)+(-x1*x2*x2*x2*y3)+(-x2*x3*y1*y1*y1)+(-x1*x1*x1*x2*y3)+(-x2*x2*x2*x3*y1)+(-x1*x1*x1*x3*y2)+(-y1*y2*y3)+(-y1*y1*y1*y2*y2*y2*y3)+(x1*x3*y1*y1*y2*y2*y2)+(x1*x2*x2*x2*y1*y1*y3)+(x2*x3*y1*y1*y1*y2*y2)+(x1*x1*x1*x2*y2*y2*y3)+(x1*x1*x2*x2*x2*x3*y1)+(x1*x1*x1*x2*x2*x3*y2)+(x1*x1*y1*y2*y3)+(x2*x2*y1*y2*y3)+(-x1*x2*y1*y1*y3)+(-x1*x2*y2*y2*y3)+(-x1*x2*x2*x3*y2)+(-x1*x3*y1*y1*y2)+(-x1*x1*x2*x3*y1)+(-x2*x3*y1*y2*y2)+(-x1*x1*y1*y2*y2*y2*y3)+(-x2*x2*y1*y1*y1*y2*y3)+(x1*x2*y1*y1*y2*y2*y3)+(x1*x2*x2*x3*y1*y1*y2)+(x1*x1*x2*x3*y1*y2*y2)+(-x1*x1*x2*x2*y1*y2*y3)+(d*x1*x1*x2*x2*y1*y2*y3)+(-d*x1*x2*y1*y1*y2*y2*y3)+(-d*x1*x2*x2*x3*y1*y1*y2)+(-d*x1*x1*x2*x3*y1*y2*y2)
theorem It (d x1 y1 x2 y2 x3 y3 : F) : ((y1*y2-x1*x2)*(1+d*x1*x2*y1*y2)*y3-(x1*y2+x2*y1)*x3*(1-d*x1*x2*y1*y2))*((1-d*x2*x3*y2*y3)*(1+d*x2*x3*y2*y3)-d*x1*(x2*y3+x3*y2)*y1*(y2*y3-x2*x3))-(y1*(y2*y3-x2*x3)*(1+d*x2*x3*y2*y3)-x1*(x2*y3+x3*y2)*(1-d*x2*x3*y2*y3))*((1-d*x1*x2*y1*y2)*(1+d*x1*x2*y1*y2)-d*(x1*y2+x2*y1)*x3*(y1*y2-x1*x2)*y3)
    = Kj d x1 y1 x2 y2 x3 y3*(-d*x1*x1*y1*y1+x1*x1+y1*y1 - 1)+Kl d x1 y1 x2 y2 x3 y3*(-d*x2*x2*y2*y2+x2*x2+y2*y2 - 1)+Km d x1 y1 x2 y2 x3 y3*(-d*x3*x3*y3*y3+x3*x3+y3*y3 - 1):=by
  unfold Kj Kl Km
  grobner
def Ad (d y1 x2 y2 : F) : F:=(4*x2*x2*y1*y2)+(-4*d*x2*x2*y1*y2*y2*y2)
def Ae (y1 y2 : F) : F:=(-4*y1*y1*y1*y2)+(4*y1*y2)
theorem BF (d x1 y1 x2 y2 : F) : ((1-d*x1*x2*y1*y2+y1*y2-x1*x2)*(1+d*x1*x2*y1*y2+y1*y2+x1*x2))*((y1-y2)*(y1-y2))-((1-d*x1*x2*y1*y2-y1*y2+x1*x2)*(1+d*x1*x2*y1*y2-y1*y2-x1*x2))*((y1+y2)*(y1+y2))
    = Ad d y1 x2 y2*(-d*x1*x1*y1*y1+x1*x1+y1*y1 - 1)+Ae y1 y2*(-d*x2*x2*y2*y2+x2*x2+y2*y2 - 1):=by
  unfold Ad Ae
  grobner
end dO
end
section
namespace dO
def NS (d : F) : Prop:=∀ t,t * t≠d
def On (d : F) (p : F × F) : Prop:=p.1 * p.1+p.2 * p.2=1+d * p.1 * p.1 * p.2 * p.2
def kk (d : F) (p q : F × F) : F:=d * p.1 * q.1 * p.2 * q.2
theorem den {d : F} {p q : F × F} (ns : NS d) (hp : On d p) (hq : On d q) {ε : F} (hε : ε * ε=1) : kk d p q≠ε:=by
  obtain ⟨x1,y1⟩:=p
  obtain ⟨x2,y2⟩:=q
  unfold kk On at *
  simp only at *
  intro h
  have e1 : (x1+ε * y1) * (x1+ε * y1)=d * (x1 * y1) * (x1 * y1) * ((x2+y2) * (x2+y2)):=by grobner
  have e2 : (x1 - ε * y1) * (x1 - ε * y1)=d * (x1 * y1) * (x1 * y1) * ((x2 - y2) * (x2 - y2)):=by grobner
  have one : (1 : F)≠0:=by decide
  have n0 : x1 * y1≠0:=fun z=>one (by grobner)
  have step : ∀ a b : F,a * a=d * (x1 * y1) * (x1 * y1) * (b * b)→b=0:=fun a b e=>by
    refine Classical.byContradiction fun hb=>?_
    have i:=fY (ej n0 hb)
    exact ns (a * inv (x1 * y1 * b)) (by grobner)
  have z1:=step _ _ e1
  have z2:=step _ _ e2
  have z3 : (2 : F) * x2=0:=by grobner
  have z4 : x2=0:=(mul_zero z3).elim (fun h=>absurd h pC) id
  exact one (by grobner)
theorem rN {d : F} {p q : F × F} (ns : NS d) (hp : On d p) (hq : On d q) : 1+kk d p q≠0:=fun h=>
  den ns hp hq (ε:=-1) (by decide) (by grobner)
theorem ng {d : F} {p q : F × F} (ns : NS d) (hp : On d p) (hq : On d q) : 1 - kk d p q≠0:=fun h=>
  den ns hp hq (ε:=1) (by decide) (by grobner)
def add (d : F) (p q : F × F) : F × F:=((p.1 * q.2+q.1 * p.2) * inv (1+kk d p q),(p.2 * q.2 - p.1 * q.1) * inv (1 - kk d p q))
theorem ua {d : F} {p q : F × F} (ns : NS d) (hp : On d p) (hq : On d q) : (add d p q).1 * (1+kk d p q)=p.1 * q.2+q.1 * p.2:=by
  have:=fY (rN ns hp hq)
  show (p.1 * q.2+q.1 * p.2) * inv (1+kk d p q) * (1+kk d p q)=_
  generalize inv (1+kk d p q)=i at *
  generalize kk d p q=k at *
  grobner
theorem nh {d : F} {p q : F × F} (ns : NS d) (hp : On d p) (hq : On d q) : (add d p q).2 * (1 - kk d p q)=p.2 * q.2 - p.1 * q.1:=by
  have:=fY (ng ns hp hq)
  show (p.2 * q.2 - p.1 * q.1) * inv (1 - kk d p q) * (1 - kk d p q)=_
  generalize inv (1 - kk d p q)=i at *
  generalize kk d p q=k at *
  grobner
theorem Iu {a b c0 c1 z0 z1 : F} (h : a - b=c0 * z0+c1 * z1) (h0 : z0=0) (h1 : z1=0) : a=b:=by grobner
theorem FG {a c0 c1 z0 z1 : F} (h : a=c0 * z0+c1 * z1) (h0 : z0=0) (h1 : z1=0) : a=0:=by grobner
theorem wV {a b c0 c1 c2 z0 z1 z2 : F} (h : a - b=c0 * z0+c1 * z1+c2 * z2) (h0 : z0=0) (h1 : z1=0) (h2 : z2=0) : a=b:=by grobner
theorem jo {d x y : F} (h : x * x+y * y=1+d * x * x * y * y) : -d*x*x*y*y+x*x+y*y - 1=0:=by grobner
theorem Iv {d k a b x y : F} (hx : x * (1+k)=a) (hy : y * (1 - k)=b)
    (c : a * a * ((1 - k) * (1 - k))+b * b * ((1+k) * (1+k)) - (1 - k) * (1 - k) * ((1+k) * (1+k)) - d * (a * a) * (b * b)=0) :
    (1+k) * (1 - k) * ((1+k) * (1 - k)) * (x * x+y * y)=(1+k) * (1 - k) * ((1+k) * (1 - k)) * (1+d * x * x * y * y):=by
  subst hx
  subst hy
  grobner
theorem yV {d : F} {p q : F × F} (ns : NS d) (hp : On d p) (hq : On d q) : On d (add d p q):=by
  have hx:=ua ns hp hq
  have hy:=nh ns hp hq
  have nn:=ej (rN ns hp hq) (ng ns hp hq)
  exact cancel (ej nn nn) (Iv hx hy (FG (FF d p.1 p.2 q.1 q.2) (jo hp) (jo hq)))
theorem G6 {d k a b x y u v : F} (h1 : x * (1+k)=a) (h2 : y * (1 - k)=b) : (1 - k) * (1+k)+d * a * u * b * v=(1 - k) * (1+k) * (1+d * x * u * y * v):=by
  subst h1
  subst h2
  grobner
theorem DE {d k a b x y u v l : F} (h1 : x * (1+k)=a) (h2 : y * (1 - k)=b) (hl : l * (1+d * x * u * y * v)=x * v+u * y) : l * ((1 - k) * (1+k)+d * a * u * b * v)=a * (1 - k) * v+u * b * (1+k):=by
  rw [G6 h1 h2]
  subst h1
  subst h2
  generalize 1+d * x * u * y * v=z at *
  grobner
theorem DF {d k a b x y u v l : F} (h1 : x * (1+k)=a) (h2 : y * (1 - k)=b) (hl : l * (1 - d * x * u * y * v)=y * v - x * u) : l * ((1 - k) * (1+k) - d * a * u * b * v)=b * (1+k) * v - a * u * (1 - k):=by
  have e : (1 - k) * (1+k) - d * a * u * b * v=(1 - k) * (1+k) * (1 - d * x * u * y * v):=by
    subst h1
    subst h2
    grobner
  rw [e]
  subst h1
  subst h2
  generalize 1 - d * x * u * y * v=z at *
  grobner
theorem Iw {d k a b x y u v l : F} (h1 : x * (1+k)=a) (h2 : y * (1 - k)=b) (hl : l * (1+d * u * x * v * y)=u * y+x * v) : l * ((1 - k) * (1+k)+d * u * a * v * b)=u * b * (1+k)+a * v * (1 - k):=by
  have e:=DE h1 h2 (l:=l) (d:=d) (u:=u) (v:=v) (by clear h1 h2;grobner)
  clear h1 h2 hl
  grobner
theorem Ix {d k a b x y u v l : F} (h1 : x * (1+k)=a) (h2 : y * (1 - k)=b) (hl : l * (1 - d * u * x * v * y)=v * y - u * x) : l * ((1 - k) * (1+k) - d * u * a * v * b)=v * b * (1+k) - u * a * (1 - k):=by
  have e:=DF h1 h2 (l:=l) (d:=d) (u:=u) (v:=v) (by clear h1 h2;grobner)
  clear h1 h2 hl
  grobner
theorem G7 {d k a b x y u v : F} (h1 : x * (1+k)=a) (h2 : y * (1 - k)=b) (n1 : 1+k≠0) (n2 : 1 - k≠0) (n3 : 1+d * x * u * y * v≠0) : (1 - k) * (1+k)+d * a * u * b * v≠0:=by
  rw [G6 h1 h2]
  exact ej (ej n2 n1) n3
theorem G8 {d k a b x y u v : F} (h1 : x * (1+k)=a) (h2 : y * (1 - k)=b) (n1 : 1+k≠0) (n2 : 1 - k≠0) (n3 : 1 - d * x * u * y * v≠0) : (1 - k) * (1+k) - d * a * u * b * v≠0:=by
  have e : (1 - k) * (1+k) - d * a * u * b * v=(1 - k) * (1+k) * (1 - d * x * u * y * v):=by
    subst h1
    subst h2
    clear n1 n2 n3
    grobner
  rw [e]
  exact ej (ej n2 n1) n3
theorem Iy {d k a b x y u v : F} (h1 : x * (1+k)=a) (h2 : y * (1 - k)=b) (n1 : 1+k≠0) (n2 : 1 - k≠0) (n3 : 1+d * u * x * v * y≠0) : (1 - k) * (1+k)+d * u * a * v * b≠0:=by
  have e : ∀ x y : F,d * u * x * v * y=d * x * u * y * v:=fun x y=>by clear h1 h2 n1 n2 n3;grobner
  rw [e]
  exact G7 h1 h2 n1 n2 (by rw [← e];exact n3)
theorem Iz {d k a b x y u v : F} (h1 : x * (1+k)=a) (h2 : y * (1 - k)=b) (n1 : 1+k≠0) (n2 : 1 - k≠0) (n3 : 1 - d * u * x * v * y≠0) : (1 - k) * (1+k) - d * u * a * v * b≠0:=by
  have e : ∀ x y : F,d * u * x * v * y=d * x * u * y * v:=fun x y=>by clear h1 h2 n1 n2 n3;grobner
  rw [e]
  exact G8 h1 h2 n1 n2 (by rw [← e];exact n3)
theorem G9 {l r a b c e : F} (h1 : l * b=a) (h2 : r * e=c) (h : a * e=c * b) (n1 : b≠0) (n2 : e≠0) : l=r:=by
  refine cancel (ej n1 n2) ?_
  subst h1
  subst h2
  grobner
theorem assoc {d : F} {p q r : F × F} (ns : NS d) (hp : On d p) (hq : On d q) (hr : On d r) : add d (add d p q) r=add d p (add d q r):=by
  have h12:=yV ns hp hq
  have h23:=yV ns hq hr
  have a1:=ua ns hp hq
  have a2:=nh ns hp hq
  have b1:=ua ns hq hr
  have b2:=nh ns hq hr
  have l1:=ua ns h12 hr
  have l2:=nh ns h12 hr
  have r1:=ua ns hp h23
  have r2:=nh ns hp h23
  have np:=rN ns hp hq
  have nm:=ng ns hp hq
  have mp:=rN ns hq hr
  have mm:=ng ns hq hr
  have lp:=rN ns h12 hr
  have lm:=ng ns h12 hr
  have rp:=rN ns hp h23
  have rm:=ng ns hp h23
  have cx:=wV (Is d p.1 p.2 q.1 q.2 r.1 r.2) (jo hp) (jo hq) (jo hr)
  have cy:=wV (It d p.1 p.2 q.1 q.2 r.1 r.2) (jo hp) (jo hq) (jo hr)
  generalize add d (add d p q) r=l at *
  generalize add d p (add d q r)=t at *
  generalize add d p q=s at *
  generalize add d q r=w at *
  obtain ⟨x1,y1⟩:=p
  obtain ⟨x2,y2⟩:=q
  obtain ⟨x3,y3⟩:=r
  obtain ⟨x12,y12⟩:=s
  obtain ⟨x23,y23⟩:=w
  obtain ⟨lx,ly⟩:=l
  obtain ⟨tx,ty⟩:=t
  unfold kk On at *
  simp only at *
  clear hp hq hr h12 h23
  generalize d * x1 * x2 * y1 * y2=k at *
  generalize d * x2 * x3 * y2 * y3=m at *
  generalize x1 * y2+x2 * y1=nx at *
  generalize y1 * y2 - x1 * x2=ny at *
  generalize x2 * y3+x3 * y2=mx at *
  generalize y2 * y3 - x2 * x3=my at *
  have ex : lx=tx:=G9 (DE a1 a2 l1) (Iw b1 b2 r1) cx (G7 a1 a2 np nm lp) (Iy b1 b2 mp mm rp)
  have ey : ly=ty:=G9 (DF a1 a2 l2) (Ix b1 b2 r2) cy (G8 a1 a2 np nm lm) (Iz b1 b2 mp mm rm)
  rw [ex,ey]
theorem add_comm (d : F) (p q : F × F) : add d p q=add d q p:=by
  have e : kk d p q=kk d q p:=by unfold kk;grobner
  unfold add
  rw [e]
  apply Prod.ext
  · show (p.1 * q.2+q.1 * p.2) * _=(q.1 * p.2+p.1 * q.2) * _
    congr 1
    grobner
  · show (p.2 * q.2 - p.1 * q.1) * _=(q.2 * p.2 - q.1 * p.1) * _
    congr 1
    grobner
def O : F × F:=(0,1)
theorem LX (d : F) : On d O:=by
  show (0 : F) * 0+1 * 1=1+d * 0 * 0 * 1 * 1
  grobner
theorem inv_one : inv 1=1:=by
  have:=fY (x:=1) (by decide)
  grobner
theorem He (d : F) (p : F × F) : add d O p=p:=by
  have e : kk d O p=0:=by show d * 0 * p.1 * 1 * p.2=0;grobner
  unfold add
  rw [e]
  have e1 : (1+0 : F)=1:=by decide
  have e2 : (1 - 0 : F)=1:=by decide
  rw [e1,e2,inv_one]
  apply Prod.ext
  · show (0 * p.2+p.1 * 1) * 1=p.1
    grobner
  · show (1 * p.2 - 0 * p.1) * 1=p.2
    grobner
def neg (p : F × F) : F × F:=(-p.1,p.2)
theorem lD {d : F} {p : F × F} (h : On d p) : On d (neg p):=by
  show -p.1 * -p.1+p.2 * p.2=1+d * -p.1 * -p.1 * p.2 * p.2
  unfold On at h
  grobner
theorem add_neg {d : F} {p : F × F} (ns : NS d) (h : On d p) : add d p (neg p)=O:=by
  have x:=ua ns h (lD h)
  have y:=nh ns h (lD h)
  have n1:=rN ns h (lD h)
  have n2:=ng ns h (lD h)
  generalize add d p (neg p)=r at *
  obtain ⟨rx,ry⟩:=r
  obtain ⟨px,py⟩:=p
  unfold neg kk On at *
  simp only at *
  have ex : rx=0:=by
    refine cancel n1 ?_
    generalize 1+d * px * -px * py * py=z at *
    grobner
  have ey : ry=1:=by
    refine cancel n2 ?_
    have : 1 - d * px * -px * py * py=py * py - px * -px:=by clear x y n1 n2 ex;grobner
    rw [← this] at y
    generalize 1 - d * px * -px * py * py=z at *
    clear x n1 n2 this ex h
    grobner
  rw [ex,ey];rfl
def nP (d : F) (p : F × F) : Nat→F × F
  | 0=>O
  | n+1=>add d (nP d p n) p
theorem wW {d : F} {p : F × F} (ns : NS d) (h : On d p) : ∀ n,On d (nP d p n)
  | 0=>LX d
  | n+1=>yV ns (wW ns h n) h
theorem yW {d : F} {p : F × F} (ns : NS d) (h : On d p) (m : Nat) : ∀ n,nP d p (m+n)=add d (nP d p m) (nP d p n)
  | 0=>by
    show nP d p m=add d (nP d p m) O
    rw [add_comm,He]
  | n+1=>by
    show add d (nP d p (m+n)) p=add d (nP d p m) (add d (nP d p n) p)
    rw [yW ns h m n,assoc ns (wW ns h m) (wW ns h n) h]
end dO
end
section
namespace dO
structure L4 where
  x2 : F
  z2 : F
  x3 : F
  z3 : F
def core (x1 : F) (s : L4) : L4:=
  let a:=s.x2+s.z2
  let b:=s.x2 - s.z2
  let c:=s.x3+s.z3
  let d:=s.x3 - s.z3
  let da:=d * a
  let cb:=c * b
  let aa:=a * a
  let bb:=b * b
  let e:=aa - bb
  ⟨aa * bb,e * (aa+121665 * e),(da+cb) * (da+cb),x1 * ((da - cb) * (da - cb))⟩
def swap (b : Bool) (s : L4) : L4:=if b then ⟨s.x3,s.z3,s.x2,s.z2⟩ else s
def Ag (x1 : F) (k : Nat) : Nat→L4→L4
  | 0,s=>s
  | n+1,s=>Ag x1 k n (swap (k.testBit n) (core x1 (swap (k.testBit n) s)))
def FH (k : Nat) (u : F) : F:=(Ag u k 255 ⟨1,0,u,1⟩).x2 * inv (Ag u k 255 ⟨1,0,u,1⟩).z2
def EY (σ y X Z : F) : Prop:=∃ l,l≠0∧X=l * (1+y)∧Z=l * (σ * (1 - y))
structure IA (σ d : F) : Prop where
  one : σ * σ=1
  num : d * (σ * ca+2)=σ * ca - 2
  ns : NS d
theorem DG {σ y X Z : F} (h1 : σ * σ=1) (h : σ * (1+y) * Z=(1 - y) * X) (n : X=0→Z=0→False) : EY σ y X Z:=by
  have h2:=fY pC
  refine ⟨(X+σ * Z) * inv 2,fun z=>?_,?_,?_⟩
  · have z1 : X+σ * Z=0:=by
      refine (mul_zero z).elim id fun e=>?_
      rw [e] at h2
      have one : (1 : F)≠0:=by decide
      exact absurd (by grobner) one
    have e : (2 : F) * X=0:=by
      clear z h2 n
      grobner
    have e1 : X=0:=(mul_zero e).elim (fun h=>absurd h pC) id
    refine n e1 ?_
    clear z h2 n
    grobner
  · clear n
    generalize inv 2=i at *
    grobner
  · clear n
    generalize inv 2=i at *
    grobner
theorem IB {d : F} {p : F × F} (ns : NS d) (hp : On d p) : (1+(add d p p).2) * ((1 - p.2 * p.2) * (1 - d * p.2 * p.2))=(1 - (add d p p).2) * (p.2 * p.2 * (1 - d)):=by
  have hy:=nh ns hp hp
  have n:=ng ns hp hp
  generalize add d p p=r at *
  obtain ⟨rx,y2⟩:=r
  obtain ⟨x,y⟩:=p
  unfold kk On at *
  simp only at *
  have e : 1 - d * x * x * y * y=2 - x * x - y * y:=by clear hy n;grobner
  rw [e] at hy n
  refine cancel n ?_
  have e1 : (2 - x * x - y * y) * (1+y2)=2 - 2 * (x * x):=by clear n e;grobner
  have e2 : (2 - x * x - y * y) * (1 - y2)=2 - 2 * (y * y):=by clear n e e1;grobner
  have e3 : (2 - x * x - y * y) * ((1+y2) * ((1 - y * y) * (1 - d * y * y)))=(2 - 2 * (x * x)) * ((1 - y * y) * (1 - d * y * y)):=by rw [← e1];clear n e e1 e2 hy hp;grobner
  have e4 : (2 - x * x - y * y) * ((1 - y2) * (y * y * (1 - d)))=(2 - 2 * (y * y)) * (y * y * (1 - d)):=by rw [← e2];clear n e e1 e2 e3 hy hp;grobner
  rw [e3,e4]
  clear e3 e4 e1 e2 n e hy
  grobner
theorem FI {d : F} {p q : F × F} (ns : NS d) (hp : On d p) (hq : On d q) :
    (1+(add d p q).2) * (1+(add d p (neg q)).2) * ((p.2 - q.2) * (p.2 - q.2))=(1 - (add d p q).2) * (1 - (add d p (neg q)).2) * ((p.2+q.2) * (p.2+q.2)):=by
  have a:=nh ns hp hq
  have b:=nh ns hp (lD hq)
  have n1:=ng ns hp hq
  have n2:=ng ns hp (lD hq)
  have c:=Iu (BF d p.1 p.2 q.1 q.2) (jo hp) (jo hq)
  generalize add d p q=r at *
  generalize add d p (neg q)=t at *
  obtain ⟨rx,ry⟩:=r
  obtain ⟨tx,ty⟩:=t
  obtain ⟨x1,y1⟩:=p
  obtain ⟨x2,y2⟩:=q
  unfold neg kk On at *
  simp only at *
  clear hp hq
  have e : 1 - d * x1 * -x2 * y1 * y2=1+d * x1 * x2 * y1 * y2:=by clear a b n1 n2 c;grobner
  rw [e] at b n2
  generalize d * x1 * x2 * y1 * y2=k at *
  have e1 : (1 - k) * (1+ry)=1 - k+y1 * y2 - x1 * x2:=by clear b n1 n2 c e;grobner
  have e2 : (1 - k) * (1 - ry)=1 - k - y1 * y2+x1 * x2:=by clear b n1 n2 c e e1;grobner
  have e3 : (1+k) * (1+ty)=1+k+y1 * y2+x1 * x2:=by clear a n1 n2 c e e1 e2;grobner
  have e4 : (1+k) * (1 - ty)=1+k - y1 * y2 - x1 * x2:=by clear a n1 n2 c e e1 e2 e3;grobner
  rw [← e1,← e2,← e3,← e4] at c
  refine cancel (ej n1 n2) ?_
  clear e1 e2 e3 e4 a b e n1 n2
  generalize 1+ry=r1 at *
  generalize 1 - ry=r2 at *
  generalize 1+ty=t1 at *
  generalize 1 - ty=t2 at *
  generalize 1+k=k1 at *
  generalize 1 - k=k2 at *
  generalize y1 - y2=f at *
  generalize y1+y2=g at *
  grobner
theorem FJ (d : F) (p q : F × F) : (add d p (neg q)).2=(add d q (neg p)).2:=by
  show (p.2 * q.2 - p.1 * -q.1) * inv (1 - d * p.1 * -q.1 * p.2 * q.2)=(q.2 * p.2 - q.1 * -p.1) * inv (1 - d * q.1 * -p.1 * q.2 * p.2)
  have e1 : p.2 * q.2 - p.1 * -q.1=q.2 * p.2 - q.1 * -p.1:=by grobner
  have e2 : 1 - d * p.1 * -q.1 * p.2 * q.2=1 - d * q.1 * -p.1 * q.2 * p.2:=by grobner
  rw [e1,e2]
theorem IA.LY {σ d : F} (h : IA σ d) : 1 - d≠0:=fun z=>h.ns 1 (by grobner)
theorem Ah {σ d : F} (hp : IA σ d) {p : F × F} (h : On d p) {s : L4} (r : EY σ p.2 s.x2 s.z2) (x1 : F) : EY σ (add d p p).2 (core x1 s).x2 (core x1 s).z2:=by
  obtain ⟨l,l0,ex,ez⟩:=r
  have id:=IB hp.ns h
  have nd:=hp.LY
  have h1:=hp.one
  have h2:=hp.num
  show EY σ (add d p p).2 ((s.x2+s.z2) * (s.x2+s.z2) * ((s.x2 - s.z2) * (s.x2 - s.z2))) (((s.x2+s.z2) * (s.x2+s.z2) - (s.x2 - s.z2) * (s.x2 - s.z2)) * ((s.x2+s.z2) * (s.x2+s.z2)+121665 * ((s.x2+s.z2) * (s.x2+s.z2) - (s.x2 - s.z2) * (s.x2 - s.z2))))
  rw [ex,ez]
  generalize p.2=y at *
  generalize (add d p p).2=y2 at *
  clear ex ez h hp
  have fx : (l * (1+y)+l * (σ * (1 - y))) * (l * (1+y)+l * (σ * (1 - y))) * ((l * (1+y) - l * (σ * (1 - y))) * (l * (1+y) - l * (σ * (1 - y))))=16 * (l * l * (l * l)) * (y * y):=by
    have e : (l * (1+y)+l * (σ * (1 - y))) * (l * (1+y) - l * (σ * (1 - y)))=l * l * (4 * y):=by clear id h2 nd l0;grobner
    clear id h1 h2 nd l0
    generalize l * (1+y)+l * (σ * (1 - y))=a at *
    generalize l * (1+y) - l * (σ * (1 - y))=b at *
    grobner
  have ge : (l * (1+y)+l * (σ * (1 - y))) * (l * (1+y)+l * (σ * (1 - y))) - (l * (1+y) - l * (σ * (1 - y))) * (l * (1+y) - l * (σ * (1 - y)))=4 * (l * l) * (σ * (1 - y * y)):=by clear id h1 h2 nd l0 fx;grobner
  have ga : (l * (1+y)+l * (σ * (1 - y))) * (l * (1+y)+l * (σ * (1 - y)))=l * l * (2+2 * (y * y)+2 * (σ * (1 - y * y))):=by clear id h2 nd l0 fx ge;grobner
  rw [fx,ge,ga]
  have ca4 : (121665 : F) * 4=ca - 2:=by decide +kernel
  have gz : (1 - d) * (4 * (l * l) * (σ * (1 - y * y)) * (l * l * (2+2 * (y * y)+2 * (σ * (1 - y * y)))+121665 * (4 * (l * l) * (σ * (1 - y * y)))))=16 * (l * l * (l * l)) * (σ * ((1 - y * y) * (1 - d * y * y))):=by
    have e1 : l * l * (2+2 * (y * y)+2 * (σ * (1 - y * y)))+121665 * (4 * (l * l) * (σ * (1 - y * y)))=l * l * (2+2 * (y * y)+σ * ca * (1 - y * y)):=by
      clear id h1 h2 nd l0 fx ge ga
      generalize ca=A at *
      grobner
    have e2 : (1 - d) * (2+2 * (y * y)+σ * ca * (1 - y * y))=4 * (1 - d * y * y):=by
      clear id h1 nd l0 fx ge ga e1 ca4
      generalize ca=A at *
      grobner
    rw [e1]
    clear id h1 h2 nd l0 fx ge ga e1 ca4
    generalize 2+2 * (y * y)+σ * ca * (1 - y * y)=w at *
    grobner
  generalize 4 * (l * l) * (σ * (1 - y * y)) * (l * l * (2+2 * (y * y)+2 * (σ * (1 - y * y)))+121665 * (4 * (l * l) * (σ * (1 - y * y))))=Z at *
  have n16 : 16 * (l * l * (l * l))≠0:=ej (by decide) (ej (ej l0 l0) (ej l0 l0))
  clear fx ge ga ca4 h2 l0
  generalize 16 * (l * l * (l * l))=K at *
  refine DG h1 (cancel nd ?_) fun z1 z2=>?_
  · have e : (1 - d) * (σ * (1+y2) * Z)=σ * (1+y2) * ((1 - d) * Z):=by clear id h1 gz nd n16;grobner
    rw [e,gz]
    clear e gz nd n16
    generalize (1 - y * y) * (1 - d * y * y)=w at *
    grobner
  · have y0 : y=0:=(mul_zero z1).elim (fun h=>absurd h n16) u6
    have s0 : σ≠0:=fun e=>by
      rw [e] at h1
      have : (0 : F) * 0≠1:=by decide
      exact this h1
    refine ej n16 s0 ?_
    rw [y0,z2] at gz
    clear id h1 nd n16 z1 z2 y0 s0
    grobner
theorem Ai {σ d u : F} (hp : IA σ d) {p q : F × F} (h : On d p) (h' : On d q) {s : L4} (r : EY σ p.2 s.x2 s.z2) (r' : EY σ q.2 s.x3 s.z3)
    (hu : u≠0) (hd : u * (σ * (1 - (add d p (neg q)).2))=1+(add d p (neg q)).2) : EY σ (add d p q).2 (core u s).x3 (core u s).z3:=by
  obtain ⟨l,l0,ex,ez⟩:=r
  obtain ⟨m,m0,fx,fz⟩:=r'
  have id:=FI hp.ns h h'
  have ty:=nh hp.ns h (lD h')
  have h1:=hp.one
  show EY σ (add d p q).2 (((s.x3 - s.z3) * (s.x2+s.z2)+(s.x3+s.z3) * (s.x2 - s.z2)) * ((s.x3 - s.z3) * (s.x2+s.z2)+(s.x3+s.z3) * (s.x2 - s.z2)))
    (u * (((s.x3 - s.z3) * (s.x2+s.z2) - (s.x3+s.z3) * (s.x2 - s.z2)) * ((s.x3 - s.z3) * (s.x2+s.z2) - (s.x3+s.z3) * (s.x2 - s.z2))))
  rw [ex,ez,fx,fz]
  generalize (add d p q).2=ry at *
  generalize add d p (neg q)=t at *
  obtain ⟨tx,t⟩:=t
  obtain ⟨x1,y1⟩:=p
  obtain ⟨x2,y2⟩:=q
  unfold neg kk On at *
  simp only at *
  clear ex ez fx fz hp
  have one : (1 : F)≠0:=by decide
  have ga : (m * (1+y2) - m * (σ * (1 - y2))) * (l * (1+y1)+l * (σ * (1 - y1)))+(m * (1+y2)+m * (σ * (1 - y2))) * (l * (1+y1) - l * (σ * (1 - y1)))=4 * (l * m) * (y1+y2):=by
    clear id ty h h' hu hd l0 m0 one
    grobner
  have gb : (m * (1+y2) - m * (σ * (1 - y2))) * (l * (1+y1)+l * (σ * (1 - y1))) - (m * (1+y2)+m * (σ * (1 - y2))) * (l * (1+y1) - l * (σ * (1 - y1)))=4 * (l * m) * (σ * (y2 - y1)):=by
    clear id ty h h' hu hd l0 m0 one ga h1
    grobner
  rw [ga,gb]
  have n4 : 4 * (l * m)≠0:=ej (by decide) (ej l0 m0)
  clear ga gb l0 m0
  generalize 4 * (l * m)=K at *
  have t1 : 1 - t≠0:=fun z=>by
    have e : (2 : F)=0:=by
      rw [z] at hd
      clear id ty h h' hu h1 one n4
      grobner
    exact pC e
  refine DG h1 (cancel t1 ?_) fun z1 z2=>?_
  · have e : (1 - t) * (σ * (1+ry) * (u * (K * (σ * (y2 - y1)) * (K * (σ * (y2 - y1))))))=K * K * (σ * σ) * ((1+ry) * (u * (σ * (1 - t))) * ((y1 - y2) * (y1 - y2))):=by
      clear id ty h h' hu hd h1 one n4 t1
      grobner
    rw [e,hd,id,h1]
    clear id ty h h' hu hd h1 one n4 t1 e
    grobner
  · have a1 : y1+y2=0:=(mul_zero (u6 z1)).elim (fun h=>absurd h n4) (fun h=>h)
    have a2 : σ * (y2 - y1)=0:=(mul_zero ((mul_zero z2).elim (fun h=>absurd h hu) u6)).elim (fun h=>absurd h n4) (fun h=>h)
    have a3 : y2 - y1=0:=by clear id ty h h' hu hd one n4 t1 z1 z2 a1;grobner
    have a4 : (2 : F) * y1=0:=by clear id ty h h' hu hd one n4 t1 z1 z2 a2 h1;grobner
    have a5 : y1=0:=(mul_zero a4).elim (fun h=>absurd h pC) (fun h=>h)
    have a6 : y2=0:=by rw [a5] at a1;clear id ty h h' hu hd one n4 t1 z1 z2 a2 h1 a3 a4 a5;grobner
    rw [a5] at h ty
    rw [a6] at h' ty
    have b1 : x1 * x1=1:=by clear id ty h' hu hd one n4 t1 z1 z2 a1 a2 h1 a3 a4 a5 a6;grobner
    have b2 : x2 * x2=1:=by clear id ty h hu hd one n4 t1 z1 z2 a1 a2 h1 a3 a4 a5 a6 b1;grobner
    have b3 : t=x1 * x2:=by clear id h h' hu hd one n4 t1 z1 z2 a1 a2 h1 a3 a4 a5 a6 b1 b2;grobner
    have b4 : (1 - t) * (1+t)=0:=by clear id h h' hu hd one n4 t1 z1 z2 a1 a2 h1 a3 a4 a5 a6 ty;grobner
    have b5 : 1+t=0:=(mul_zero b4).elim (fun h=>absurd h t1) (fun h=>h)
    have s0 : σ≠0:=fun e=>by
      rw [e] at h1
      have : (0 : F) * 0≠1:=by decide
      exact this h1
    rw [b5] at hd
    exact ej hu (ej s0 t1) hd
end dO
end
section
namespace dO
theorem DH {d : F} {p r : F × F} (ns : NS d) (hp : On d p) (hr : On d r) : add d (add d r p) (neg r)=p:=by
  rw [add_comm d r p,assoc ns hp hr (lD hr),add_neg ns hr,add_comm,He]
theorem DI {d : F} {p : F × F} (ns : NS d) (h : On d p) (m : Nat) : add d (nP d p m) (nP d p m)=nP d p (2 * m):=by
  rw [← yW ns h,Nat.two_mul]
theorem Aj {d : F} {p : F × F} (ns : NS d) (h : On d p) (m : Nat) : add d (nP d p m) (nP d p (m+1))=nP d p (2 * m+1):=by
  rw [← yW ns h]
  congr 1
  omega
def Inv (σ d : F) (p : F × F) (m : Nat) (s : L4) : Prop:=EY σ (nP d p m).2 s.x2 s.z2∧EY σ (nP d p (m+1)).2 s.x3 s.z3
theorem Inv.step {σ d u : F} {p : F × F} (hp : IA σ d) (h : On d p) (hu : u≠0) (hd : u * (σ * (1 - p.2))=1+p.2) {m : Nat} {s : L4} (i : Inv σ d p m s) (b : Bool) :
    Inv σ d p (2 * m+b.toNat) (swap b (core u (swap b s))):=by
  obtain ⟨i1,i2⟩:=i
  have o1:=wW hp.ns h m
  have o2:=wW hp.ns h (m+1)
  have df : add d (nP d p (m+1)) (neg (nP d p m))=p:=DH hp.ns h o1
  have dg : (add d (nP d p m) (neg (nP d p (m+1)))).2=p.2:=by rw [FJ,df]
  cases b with
  | false=>
    have a1:=Ah hp o1 i1 u
    have a2:=Ai hp o1 o2 i1 i2 hu (by rw [dg];exact hd)
    rw [DI hp.ns h] at a1
    rw [Aj hp.ns h] at a2
    exact ⟨a1,a2⟩
  | true=>
    have a1:=Ah hp o2 (s:=⟨s.x3,s.z3,s.x2,s.z2⟩) i2 u
    have a2:=Ai hp o2 o1 (s:=⟨s.x3,s.z3,s.x2,s.z2⟩) i2 i1 hu (by rw [df];exact hd)
    rw [DI hp.ns h] at a1
    rw [add_comm,Aj hp.ns h] at a2
    exact ⟨a2,a1⟩
theorem BG (k n : Nat) : k % 2 ^ (n+1)=(k.testBit n).toNat * 2 ^ n+k % 2 ^ n:=by
  rw [Nat.pow_succ,Nat.mod_mul,Nat.testBit_eq_decide_div_mod_eq,Nat.add_comm,Nat.mul_comm]
  congr 2
  by_cases h : k / 2 ^ n % 2=1
  · rw [h];rfl
  · have h0 : k / 2 ^ n % 2=0:=by omega
    rw [h0];rfl
theorem Inv.all {σ d u : F} {p : F × F} (hp : IA σ d) (h : On d p) (hu : u≠0) (hd : u * (σ * (1 - p.2))=1+p.2) (k : Nat) :
    ∀ n m s,Inv σ d p m s→Inv σ d p (m * 2 ^ n+k % 2 ^ n) (Ag u k n s)
  | 0,m,s,i=>by
    have e : m * 2 ^ 0+k % 2 ^ 0=m:=by rw [Nat.pow_zero,Nat.mod_one,Nat.mul_one];rfl
    rw [e];exact i
  | n+1,m,s,i=>by
    have r:=Inv.all hp h hu hd k n _ _ (i.step hp h hu hd (k.testBit n))
    have e : m * 2 ^ (n+1)+k % 2 ^ (n+1)=(2 * m+(k.testBit n).toNat) * 2 ^ n+k % 2 ^ n:=by
      rw [BG,Nat.add_mul,Nat.pow_succ,Nat.mul_comm (2 ^ n) 2,← Nat.mul_assoc,Nat.mul_comm m 2,Nat.add_assoc]
    rw [e];exact r
def U (σ : F) (p : F × F) : F:=(1+p.2) * inv (σ * (1 - p.2))
theorem MO {σ u s : F} (h1 : σ * σ=1) (hs : σ * (σ * ca+2) * (u * (u * u+ca * u+1))=s * s) : ∃ d p,IA σ d∧On d p∧U σ p=u:=by
  have nr:=FE
  have hc : σ * ca+2≠0:=fun z=>nr 0 (by
    generalize ca=A at *
    clear nr hs
    grobner)
  have hv : σ * u+1≠0:=fun z=>nr s (by
    rw [← hs]
    generalize ca=A at *
    clear nr hs hc
    grobner)
  have hD : u * u+ca * u+1≠0:=fun z=>nr (2 * u+ca) (by
    generalize ca=A at *
    clear nr hs hc hv
    grobner)
  have ic:=fY hc
  have iv:=fY hv
  have iD:=fY hD
  have num : (σ * ca - 2) * inv (σ * ca+2) * (σ * ca+2)=σ * ca - 2:=by
    clear hs hv hD iv iD nr h1
    generalize inv (σ * ca+2)=a at *
    generalize σ * ca+2=b at *
    generalize σ * ca - 2=c at *
    grobner
  have ns : NS ((σ * ca - 2) * inv (σ * ca+2)):=fun t e=>nr (t * (σ * ca+2)) (by
    rw [← e] at num
    clear hs hv hD iv iD nr e ic hc
    generalize ca=A at *
    grobner)
  have hx : s * inv (u * u+ca * u+1) * (u * u+ca * u+1)=s:=by
    clear hs hv ns iv nr ic hc num h1
    generalize inv (u * u+ca * u+1)=a at *
    generalize u * u+ca * u+1=b at *
    grobner
  have hy : (σ * u - 1) * inv (σ * u+1) * (σ * u+1)=σ * u - 1:=by
    clear hs hD ns iD nr ic hc num h1 hx
    generalize inv (σ * u+1)=a at *
    generalize σ * u+1=b at *
    generalize σ * u - 1=c at *
    grobner
  generalize s * inv (u * u+ca * u+1)=x at *
  generalize (σ * u - 1) * inv (σ * u+1)=y at *
  generalize (σ * ca - 2) * inv (σ * ca+2)=d at *
  refine ⟨d,(x,y),⟨h1,num,ns⟩,?_,?_⟩
  · show x * x+y * y=1+d * x * x * y * y
    have e1 : x * x * (u * u+ca * u+1)=(σ * ca+2) * (σ * u):=by
      refine cancel hD ?_
      clear nr hc hv hD ic iv iD num ns hy
      have e : (u * u+ca * u+1) * (x * x * (u * u+ca * u+1))=s * s:=by
        rw [← hx]
        clear hx hs h1
        generalize u * u+ca * u+1=D at *
        grobner
      rw [e,← hs]
      clear e hx hs
      generalize u * u+ca * u+1=D at *
      generalize ca=A at *
      grobner
    refine cancel hD (cancel (ej hv hv) ?_)
    have l : (σ * u+1) * (σ * u+1) * ((u * u+ca * u+1) * (x * x+y * y))=(σ * ca+2) * (σ * u) * ((σ * u+1) * (σ * u+1))+(u * u+ca * u+1) * ((σ * u - 1) * (σ * u - 1)):=by
      rw [← e1,← hy]
      clear e1 hy hx hs nr hc hv hD ic iv iD num ns h1
      generalize σ * u+1=E at *
      generalize u * u+ca * u+1=D at *
      grobner
    have r : (σ * u+1) * (σ * u+1) * ((u * u+ca * u+1) * (1+d * x * x * y * y))=(u * u+ca * u+1) * ((σ * u+1) * (σ * u+1))+d * (σ * ca+2) * (σ * u) * ((σ * u - 1) * (σ * u - 1)):=by
      have e2 : d * (σ * ca+2) * (σ * u)=d * (x * x * (u * u+ca * u+1)):=by
        rw [e1]
        clear l e1 hy hx hs nr hc hv hD ic iv iD num ns h1
        generalize σ * ca+2=C at *
        generalize σ * u=v at *
        grobner
      rw [e2,← hy]
      clear l e1 e2 hy hx hs nr hc hv hD ic iv iD num ns h1
      generalize σ * u+1=E at *
      generalize u * u+ca * u+1=D at *
      grobner
    rw [l,r,num]
    clear l r e1 hy hx hs nr hc hv hD ic iv iD num ns
    generalize ca=A at *
    grobner
  · show (1+y) * inv (σ * (1 - y))=u
    have e1 : (σ * u+1) * (1+y)=2 * (σ * u):=by
      clear hx hs nr hc hv hD ic iv iD num ns h1
      grobner
    have e2 : (σ * u+1) * (1 - y)=2:=by
      clear hx hs nr hc hv hD ic iv iD num ns h1 e1
      grobner
    have e3 : u * (σ * (1 - y))=1+y:=by
      refine cancel hv ?_
      rw [e1]
      clear hx hs nr hc hv hD ic iv iD num ns h1 e1 hy
      grobner
    have n : σ * (1 - y)≠0:=fun z=>by
      have e4 : (2 : F)=0:=by
        clear hx hs nr hc hv hD ic iv iD num ns e1 hy e3
        grobner
      exact pC e4
    have i:=fY n
    rw [← e3]
    clear hx hs nr hc hv hD ic iv iD num ns e1 hy e3 e2 n h1
    generalize inv (σ * (1 - y))=a at *
    generalize σ * (1 - y)=b at *
    grobner
end dO
end
section
namespace dO
def val : List Int→Int
  | []=>0
  | a::l=>a+65536 * val l
def nth (l : List Int) (i : Nat) : Int:=l.getD i 0
theorem bF (l : List Int) (i j : Nat) (x : Int) (h : i<l.length) : nth (l.set i x) j=if i=j then x else nth l j:=by
  unfold nth
  simp only [List.getD_eq_getElem?_getD,List.getElem?_set]
  by_cases e : i=j
  · subst e
    simp [h]
  · simp [e]
theorem fZ : ∀ (l : List Int) (i : Nat) (x : Int),i<l.length→val (l.set i x)=val l+(x - nth l i) * 65536 ^ i
  | [],i,x,h=>absurd h (by simp)
  | a::l,0,x,_=>by
    show x+65536 * val l=a+65536 * val l+(x - a) * 65536 ^ 0
    rw [Int.pow_zero];omega
  | a::l,i+1,x,h=>by
    have ih:=fZ l i x (by simpa using h)
    show a+65536 * val (l.set i x)=a+65536 * val l+(x - nth l i) * 65536 ^ (i+1)
    rw [ih,Int.pow_succ,Int.mul_add,Int.mul_comm (65536 ^ i) 65536,Int.mul_left_comm,Int.add_assoc]
def ew (l : List Int) (i : Nat) : List Int:=
  let q:=nth l i / 65536
  let m:=l.set i (nth l i - q * 65536)
  if i<15 then m.set (i+1) (nth m (i+1)+q) else m.set 0 (nth m 0+38 * q)
def e9 (l : List Int) : Nat→List Int
  | 0=>l
  | i+1=>ew (e9 l i) i
def qg (l : List Int) : List Int:=e9 l 16
theorem BH (l : List Int) (i : Nat) : (ew l i).length=l.length:=by
  unfold ew
  simp only
  split <;> simp
theorem ke (l : List Int) : ∀ i,(e9 l i).length=l.length
  | 0=>rfl
  | i+1=>by show (ew (e9 l i) i).length=_;rw [BH,ke l i]
theorem BI {l : List Int} (hl : l.length=16) {i : Nat} (h : i<15) : val (ew l i)=val l:=by
  unfold ew
  simp only [h,if_true]
  rw [fZ _ _ _ (by simp [hl];omega),fZ _ _ _ (by omega),Int.pow_succ]
  have e : nth (l.set i (nth l i - nth l i / 65536 * 65536)) (i+1)+nth l i / 65536 - nth (l.set i (nth l i - nth l i / 65536 * 65536)) (i+1)=nth l i / 65536:=by omega
  have e2 : nth l i - nth l i / 65536 * 65536 - nth l i=-(nth l i / 65536 * 65536):=by omega
  rw [e,e2]
  generalize nth l i / 65536=q
  rw [Int.neg_mul,Int.mul_assoc q,Int.mul_comm 65536 (65536 ^ i)]
  omega
theorem wX {l : List Int} (hl : l.length=16) : ∃ q,val (ew l 15)=val l - q * (2 * P):=by
  refine ⟨nth l 15 / 65536,?_⟩
  unfold ew
  simp only [show ¬ (15 : Nat)<15 by decide,if_false]
  rw [fZ _ _ _ (by simp [hl]),fZ _ _ _ (by omega)]
  have e2 : nth l 15 - nth l 15 / 65536 * 65536 - nth l 15=-(nth l 15 / 65536 * 65536):=by omega
  rw [e2]
  generalize nth l 15 / 65536=q
  generalize nth (l.set 15 (nth l 15 - q * 65536)) 0=z
  have e3 : (65536 : Int) ^ 15=1766847064778384329583297500742918515827483896875618958121606201292619776:=by decide
  have e4 : (2 * (P : Int))=115792089237316195423570985008687907853269984665640564039457584007913129639898:=by decide
  rw [e3,e4,Int.pow_zero]
  omega
theorem u7 {l : List Int} (hl : l.length=16) : ∀ i,i≤15→val (e9 l i)=val l
  | 0,_=>rfl
  | i+1,h=>by
    show val (ew (e9 l i) i)=val l
    rw [BI (by rw [ke,hl]) (by omega),u7 hl i (by omega)]
theorem FK {l : List Int} (hl : l.length=16) : ∃ q,val (qg l)=val l - q * (2 * P):=by
  obtain ⟨q,e⟩:=wX (l:=e9 l 15) (by rw [ke,hl])
  exact ⟨q,by show val (ew (e9 l 15) 15)=_;rw [e,u7 hl 15 (by omega)]⟩
def hU (lo : List Int) : Nat→Int
  | 0=>0
  | i+1=>(nth lo i+hU lo i) / 65536
def IC (lo hi l : List Int) : Prop:=∀ j,j<16→nth lo j≤nth l j∧nth l j≤nth hi j
structure BJ (lo hi : List Int) (i : Nat) (l : List Int) : Prop where
  len : l.length=16
  done : ∀ j,j<i→0≤nth l j∧nth l j≤65535
  here : nth lo i+hU lo i≤nth l i∧nth l i≤nth hi i+hU hi i
  rest : ∀ j,i<j→j<16→nth lo j≤nth l j∧nth l j≤nth hi j
theorem BJ.step {lo hi l : List Int} {i : Nat} (h : i<15) (c : BJ lo hi i l) : BJ lo hi (i+1) (ew l i):=by
  obtain ⟨len,done,here,rest⟩:=c
  unfold ew
  simp only [h,if_true]
  have l1 : (l.set i (nth l i - nth l i / 65536 * 65536)).length=16:=by simp [len]
  refine ⟨by simp [len],fun j hj=>?_,?_,fun j hj hj2=>?_⟩
  · rw [bF _ _ _ _ (by omega),if_neg (by omega),bF _ _ _ _ (by omega)]
    split
    next e=>omega
    next e=>exact done j (by omega)
  · rw [bF _ _ _ _ (by omega),if_pos rfl,bF _ _ _ _ (by omega),if_neg (by omega)]
    have r:=rest (i+1) (by omega) (by omega)
    have e1 : hU lo (i+1)=(nth lo i+hU lo i) / 65536:=rfl
    have e2 : hU hi (i+1)=(nth hi i+hU hi i) / 65536:=rfl
    rw [e1,e2]
    omega
  · rw [bF _ _ _ _ (by omega),if_neg (by omega),bF _ _ _ _ (by omega),if_neg (by omega)]
    exact rest j (by omega) hj2
theorem BJ.all {lo hi l : List Int} (hl : l.length=16) (b : IC lo hi l) : ∀ i,i≤15→BJ lo hi i (e9 l i)
  | 0,_=>⟨hl,fun j h=>absurd h (by omega),by have:=b 0 (by omega);show nth lo 0+0≤nth l 0∧nth l 0≤nth hi 0+0;omega,fun j _ h=>b j h⟩
  | i+1,h=>(BJ.all hl b i (by omega)).step (by omega)
structure Small (l0 h0 : Int) (l : List Int) : Prop where
  len : l.length=16
  first : l0≤nth l 0∧nth l 0≤h0
  rest : ∀ j,0<j→j<16→0≤nth l j∧nth l j≤65535
theorem BJ.last {lo hi l : List Int} (c : BJ lo hi 15 l) : Small (38 * hU lo 16) (65535+38 * hU hi 16) (ew l 15):=by
  obtain ⟨len,done,here,rest⟩:=c
  unfold ew
  simp only [show ¬ (15 : Nat)<15 by decide,if_false]
  have l1 : (l.set 15 (nth l 15 - nth l 15 / 65536 * 65536)).length=16:=by simp [len]
  have d0:=done 0 (by omega)
  have e1 : hU lo 16=(nth lo 15+hU lo 15) / 65536:=rfl
  have e2 : hU hi 16=(nth hi 15+hU hi 15) / 65536:=rfl
  refine ⟨by simp [len],?_,fun j hj hj2=>?_⟩
  · rw [bF _ _ _ _ (by omega),if_pos rfl,bF _ _ _ _ (by omega),if_neg (by omega),e1,e2]
    omega
  · rw [bF _ _ _ _ (by omega),if_neg (by omega),bF _ _ _ _ (by omega)]
    split
    next e=>omega
    next e=>exact done j (by omega)
theorem jJ {lo hi l : List Int} (hl : l.length=16) (b : IC lo hi l) : Small (38 * hU lo 16) (65535+38 * hU hi 16) (qg l):=
  (BJ.all hl b 15 (by omega)).last
theorem Small.weak {a b c d : Int} {l : List Int} (h : Small a b l) (h1 : c≤a) (h2 : b≤d) : Small c d l:=
  ⟨h.len,by have:=h.first;omega,h.rest⟩
def BK (a b : Int) : List Int:=a::List.replicate 15 b
theorem gf (a b : Int) (j : Nat) (h : j<16) : nth (BK a b) j=if j=0 then a else b:=by
  cases j with
  | zero=>rfl
  | succ j=>
    unfold nth BK
    rw [List.getD_cons_succ,List.getD_eq_getElem?_getD,List.getElem?_replicate,if_pos (by omega),if_neg (by omega)]
    rfl
theorem Small.Jr {a b : Int} {l : List Int} (h : Small a b l) : IC (BK a 0) (BK b 65535) l:=fun j hj=>by
  rw [gf _ _ _ hj,gf _ _ _ hj]
  by_cases e : j=0
  · subst e;simpa using h.first
  · simpa [e] using h.rest j (by omega) hj
end dO
end
section
set_option maxRecDepth 10000
open Sl dO
theorem eD : Tryz.prog.follows .mixedOrders=true:=by kernel_rfl
theorem kP : dJ Tryz.prog 2=some 1:=by kernel_rfl
theorem qC : ie Tryz.prog 2=true:=by kernel_rfl
theorem bg : dJ Tryz.prog 97=some 16:=by kernel_rfl
theorem cu : gm Tryz.prog 97=true:=by kernel_rfl
theorem jq : zc Tryz.prog 97=some ((List.replicate 16 (0 : Int)).map I):=by kernel_rfl
theorem gy : aK Tryz.prog 73:=⟨_,Tryz.func73,rfl,by kernel_rfl⟩
theorem fR {l : List Int} {i : Nat} (h : i<l.length) : (l.map I)[i]?=some (I (nth l i)):=by
  simp [nth,h]
theorem iG (l : List Int) (i : Nat) (x : Int) : (l.map I).set i (I x)=(l.set i x).map I:=by rw [List.map_set]
def Fit (l : List Int) : Prop:=∀ j,j<16→-288230376151711744≤nth l j∧nth l j≤288230376151711744
def wlo : List Int:=List.replicate 16 (-288230376151711744)
def whi : List Int:=List.replicate 16 288230376151711744
theorem jg (x : Int) (j : Nat) (h : j<16) : nth (List.replicate 16 x) j=x:=by
  unfold nth
  rw [List.getD_eq_getElem?_getD,List.getElem?_replicate,if_pos h];rfl
theorem Fit.Jr {l : List Int} (h : Fit l) : IC wlo whi l:=fun j hj=>by
  rw [wlo,whi,jg _ _ hj,jg _ _ hj];exact h j hj
theorem Ak : ∀ i,i≤16→-8796093022208≤hU wlo i∧hU wlo i≤0
  | 0,_=>by decide
  | i+1,h=>by
    have ih:=Ak i (by omega)
    have e : hU wlo (i+1)=(nth wlo i+hU wlo i) / 65536:=rfl
    rw [e,wlo,jg _ _ (by omega),← wlo]
    omega
theorem Al : ∀ i,i≤16→0≤hU whi i∧hU whi i≤8796093022208
  | 0,_=>by decide
  | i+1,h=>by
    have ih:=Al i (by omega)
    have e : hU whi (i+1)=(nth whi i+hU whi i) / 65536:=rfl
    rw [e,whi,jg _ _ (by omega),← whi]
    omega
theorem Fit.here {l : List Int} (hl : l.length=16) (h : Fit l) {i : Nat} (hi : i<16) : -297237575406452736≤nth (e9 l i) i∧nth (e9 l i) i≤297237575406452736:=by
  have c:=(BJ.all hl h.Jr i (by omega)).here
  have a:=Ak i (by omega)
  have b:=Al i (by omega)
  rw [wlo,whi,jg _ _ hi,jg _ _ hi,← wlo,← whi] at c
  omega
theorem Fit.next {l : List Int} (hl : l.length=16) (h : Fit l) {i : Nat} (hi : i<15) : -288230376151711744≤nth (e9 l i) (i+1)∧nth (e9 l i) (i+1)≤288230376151711744:=by
  have c:=(BJ.all hl h.Jr i (by omega)).rest (i+1) (by omega) (by omega)
  rw [wlo,whi,jg _ _ (by omega),jg _ _ (by omega)] at c
  exact c
theorem Fit.zero {l : List Int} (hl : l.length=16) (h : Fit l) : 0≤nth (e9 l 15) 0∧nth (e9 l 15) 0≤65535:=(BJ.all hl h.Jr 15 (by omega)).done 0 (by omega)
theorem DJ {l : List Int} {i : Nat} (h : i<15) : ((e9 l i).set i (nth (e9 l i) i - nth (e9 l i) i / 65536 * 65536)).set (i+1) (nth ((e9 l i).set i (nth (e9 l i) i - nth (e9 l i) i / 65536 * 65536)) (i+1)+nth (e9 l i) i / 65536)=e9 l (i+1):=by
  show _=ew (e9 l i) i
  unfold ew
  simp only [h,if_true]
theorem DK {l : List Int} : ((e9 l 15).set 15 (nth (e9 l 15) 15 - nth (e9 l 15) 15 / 65536 * 65536)).set 0 (nth ((e9 l 15).set 15 (nth (e9 l 15) 15 - nth (e9 l 15) 15 / 65536 * 65536)) 0+38 * (nth (e9 l 15) 15 / 65536))=e9 l 16:=by
  show _=ew (e9 l 15) 15
  unfold ew
  simp only [show ¬ (15 : Nat)<15 by decide,if_false]
set_option maxHeartbeats 8000000 in
theorem iu (l : List Int) (hl : l.length=16) (hf : Fit l) (w : World) : Calls Tryz.prog 73 [.agg (l.map I).toArray].toArray w fun e w'=>e=.returned (.agg ((qg l).map I).toArray)∧Ext w w':=by
  refine enter (n:=36) Tryz.func73 rfl rfl rfl (ah.start w []) ?_
  repeat (first | refine JC.seq ?_ | refine JC.region ?_)
  refine JL.box (r:=l.map I) rfl rfl rfl fun b1 _=>?_
  refine JL.alloc jq rfl fun b2 _=>?_
  repeat (first | refine JL.q (by (apply OQ.assign;rfl)) rfl ?_ | refine JC.seq ?_ | refine JC.region ?_ | refine JC.block ?_ | refine JL.nil ?_ | refine JE.next ?_)
  refine JC.loop (fun i : Nat=>[(1,Pt b1 0),(2,Pt b2 0),(3,N i)])
    (fun i=>[⟨b2,Row 97 ((List.replicate 16 (0 : Int)).map I),true⟩,⟨b1,Row 97 ((e9 l i).map I),true⟩])
    (fun i=>16 - i) (fun i=>i≤16) 0 (by omega) (by repeat (first | exact ai.nil | refine ai.cons _ _ _ rfl ?_)) (aq.refl _) ?_
  intro i hi
  have len:=ke l i
  rw [hl] at len
  repeat (first | refine JL.q (by first|(apply OQ.move;rfl)|(apply OQ.bJ;rfl;rfl)) rfl ?_ | refine JC.seq ?_ | refine JC.region ?_ | refine JL.nil ?_ | refine JE.next ?_)
  refine JC.cond rfl (fun h=>?_) (fun h=>?_)
  · have hi' : i<16:=of_decide_eq_true h
    clear h hi
    have hh:=hf.here hl hi'
    have hc:=fR (l:=e9 l i) (i:=i) (by omega)
    repeat (first | refine JL.q (by first|(apply OQ.aD;exact Tryz.underlying97;exact kP;rfl;rfl;exact (by (try simp only []);omega))|(apply OQ.load;exact qC;rfl;exact (.there .here);exact (Row.cell hc))|(apply OQ.E6 (m:=65536) (k:=16);exact (by decide);exact (by decide);rfl;rfl)|(apply OQ.Ll (m:=65536) (k:=16);exact (by decide);exact (by decide);rfl;rfl;exact (by omega);exact (by omega))|(apply OQ.od;rfl;rfl;exact (by omega);exact (by omega))|(apply OQ.move;rfl)|(apply OQ.assign;rfl)) rfl ?_ | refine JC.seq ?_ | refine JC.region ?_ | refine JC.block ?_ | refine JC.skip ?_ | refine JL.nil ?_ | refine JE.next ?_)
    refine JL.az (r':=((e9 l i).set i (nth (e9 l i) i - nth (e9 l i) i / 65536 * 65536)).map I) kP rfl rfl rfl rfl (.there .here) (by rw [List.length_map];omega) (iG _ _ _) ?_
    repeat (first | refine JL.q (by first|(apply OQ.move;rfl)|(apply OQ.bJ;rfl;rfl)) rfl ?_ | refine JC.seq ?_ | refine JC.region ?_ | refine JL.nil ?_ | refine JE.next ?_)
    refine JC.cond rfl (fun h=>?_) (fun h=>?_)
    · have h15 : i<15:=of_decide_eq_true h
      clear h
      have hn:=hf.next hl h15
      have hm : nth ((e9 l i).set i (nth (e9 l i) i - nth (e9 l i) i / 65536 * 65536)) (i+1)=nth (e9 l i) (i+1):=by rw [bF _ _ _ _ (by omega),if_neg (by omega)]
      have hd:=fR (l:=(e9 l i).set i (nth (e9 l i) i - nth (e9 l i) i / 65536 * 65536)) (i:=i+1) (by rw [List.length_set];omega)
      repeat (first | refine JL.q (by first|(apply OQ.aD;exact Tryz.underlying97;exact kP;rfl;rfl;exact (by (try simp only []);omega))|(apply OQ.load;exact qC;rfl;exact (.there .here);exact (Row.cell hd))|(apply OQ.CU;rfl;rfl;exact (by omega);exact (by omega))|(apply OQ.move;rfl)) rfl ?_ | refine JC.region ?_)
      refine JL.az (r':=(e9 l (i+1)).map I) kP rfl rfl rfl rfl (.there .here) (by rw [List.length_map,List.length_set,len];(try simp only []);omega) (by rw [iG,DJ h15]) ?_
      repeat (first | refine JL.q (by first|(apply OQ.move;rfl)|(apply OQ.assign;rfl)|(apply OQ.aY;rfl;rfl;exact (by (try simp only []);omega))) rfl ?_ | refine JC.region ?_ | refine JL.nil ?_ | refine JE.next ?_ | refine JE.an ?_)
      exact JE.again (i:=i) (i+1) (by omega) (by omega) (by repeat (first | exact ai.nil | refine ai.cons _ _ _ rfl ?_)) (aq.refl _)
    · have h15 : ¬ i<15:=of_decide_eq_false h
      obtain rfl : i=15:=by omega
      clear h
      have hn:=hf.zero hl
      have hm : nth ((e9 l 15).set 15 (nth (e9 l 15) 15 - nth (e9 l 15) 15 / 65536 * 65536)) 0=nth (e9 l 15) 0:=by rw [bF _ _ _ _ (by omega),if_neg (by omega)]
      have hd:=fR (l:=(e9 l 15).set 15 (nth (e9 l 15) 15 - nth (e9 l 15) 15 / 65536 * 65536)) (i:=0) (by rw [List.length_set];omega)
      repeat (first | refine JL.q (by first|(apply OQ.aD;exact Tryz.underlying97;exact kP;rfl;rfl;exact (by decide))|(apply OQ.load;exact qC;rfl;exact (.there .here);exact (Row.cell hd))|(apply OQ.HJ (a:=38);rfl;rfl;exact (by omega);exact (by omega))|(apply OQ.CU;rfl;rfl;exact (by omega);exact (by omega))|(apply OQ.move;rfl)) rfl ?_ | refine JC.region ?_)
      refine JL.az (r':=(e9 l 16).map I) kP rfl rfl rfl rfl (.there .here) (by rw [List.length_map,List.length_set,len];(try simp only []);omega) (by rw [iG,DK]) ?_
      repeat (first | refine JL.q (by first|(apply OQ.move;rfl)|(apply OQ.assign;rfl)|(apply OQ.aY;rfl;rfl;exact (by (try simp only []);omega))) rfl ?_ | refine JC.region ?_ | refine JL.nil ?_ | refine JE.next ?_ | refine JE.an ?_)
      exact JE.again (i:=15) 16 (by omega) (by omega) (by repeat (first | exact ai.nil | refine ai.cons _ _ _ rfl ?_)) (aq.refl _)
  · have hi' : ¬ i<16:=of_decide_eq_false h
    obtain rfl : i=16:=by omega
    clear h hi hi'
    have hl' : ((e9 l 16).map I).length=16:=by rw [List.length_map];exact len
    repeat (first | refine JL.q (by (apply OQ.af (cs:=(e9 l 16).map I);exact cu;exact bg;rfl;exact (.there .here);exact hl';exact Row.all)) rfl ?_ | refine JC.seq ?_ | refine JC.region ?_ | refine JC.exit ?_ | refine JE.next ?_ | refine JE.ax ?_ | refine JE.aA ?_)
    refine JL.ag bg rfl rfl hl' (bE _) .here (by simp) ?_
    repeat (first | refine JL.nil ?_ | refine JE.next ?_)
    refine JC.ret (JE.aQ rfl (RV.av cu bg rfl .here hl' Row.all) ?_)
    exact fun w' hw=>⟨rfl,hw.aL⟩
end
section
namespace dO
def fi (x : Int) : F:=⟨(x % (P : Int)).toNat,by
  have h1 : 0≤x % (P : Int):=Int.emod_nonneg _ (by decide)
  have h2 : x % (P : Int)<(P : Int):=Int.emod_lt_of_pos _ (by decide)
  omega⟩
theorem kf (x : Int) : ((fi x).val : Int)=x % (P : Int):=Int.toNat_of_nonneg (Int.emod_nonneg _ (by decide))
theorem DL {a b : F} (h : (a.val : Int)=(b.val : Int)) : a=b:=Fin.ext (by omega)
theorem u9 (x y : Int) : fi (x+y)=fi x+fi y:=DL (by
  rw [kf,Fin.val_add,Int.natCast_emod,Int.natCast_add,kf,kf,← Int.add_emod])
theorem DM (x y : Int) : fi (x * y)=fi x * fi y:=DL (by
  rw [kf,Fin.val_mul,Int.natCast_emod,Int.natCast_mul,kf,kf,← Int.mul_emod])
theorem ID (x y : Int) : fi (x - y)=fi x - fi y:=by
  have h:=u9 (x - y) y
  rw [Int.sub_add_cancel] at h
  rw [h]
  generalize fi (x - y)=a
  generalize fi y=b
  clear h
  grobner
theorem LZ (q : Int) : fi (q * P)=0:=DL (by rw [kf,Int.mul_emod_left];rfl)
theorem yX {x y q : Int} (h : x=y+q * P) : fi x=fi y:=by
  rw [h,u9,LZ]
  generalize fi y=a
  clear h
  grobner
def fv (l : List Int) : F:=fi (val l)
theorem rO {l : List Int} (hl : l.length=16) : fv (qg l)=fv l:=by
  obtain ⟨q,e⟩:=FK hl
  refine yX (q:=-(2 * q)) ?_
  rw [e,Int.sub_eq_add_neg,← Int.neg_mul,← Int.mul_assoc,Int.mul_comm (-q) 2,Int.mul_neg]
def ps (l : List Int) : Nat→Int
  | 0=>0
  | k+1=>ps l k+nth l k * 65536 ^ k
theorem Am (a : Int) (l : List Int) : ∀ k,ps (a::l) (k+1)=a+65536 * ps l k
  | 0=>by
    show 0+nth (a::l) 0 * 65536 ^ 0=a+65536 * 0
    rw [Int.pow_zero]
    show 0+a * 1=a+65536 * 0
    omega
  | k+1=>by
    show ps (a::l) (k+1)+nth (a::l) (k+1) * 65536 ^ (k+1)=a+65536 * (ps l k+nth l k * 65536 ^ k)
    rw [Am a l k,Int.pow_succ,Int.mul_comm (65536 ^ k) 65536,Int.mul_add,Int.mul_left_comm]
    show a+65536 * ps l k+65536 * (nth l k * 65536 ^ k)=_
    rw [Int.add_assoc]
theorem DN : ∀ k,ps [] k=0
  | 0=>rfl
  | k+1=>by show ps [] k+0 * 65536 ^ k=0;rw [DN k,Int.zero_mul];rfl
theorem gI : ∀ (l : List Int) (k : Nat),l.length≤k→val l=ps l k
  | [],k,_=>(DN k).symm
  | a::l,0,h=>absurd h (by simp)
  | a::l,k+1,h=>by rw [Am,← gI l k (by simpa using h)];rfl
def fB (f : Int→Int→Int) (a b : List Int) : Nat→List Int
  | 0=>a
  | i+1=>(fB f a b i).set i (f (nth (fB f a b i) i) (nth b i))
theorem gh (f : Int→Int→Int) (a b : List Int) : ∀ i,(fB f a b i).length=a.length
  | 0=>rfl
  | i+1=>by rw [fB,List.length_set,gh f a b i]
theorem lE (f : Int→Int→Int) (a b : List Int) (j : Nat) : ∀ i,i≤a.length→nth (fB f a b i) j=if j<i then f (nth a j) (nth b j) else nth a j
  | 0,_=>rfl
  | i+1,h=>by
    have ih:=lE f a b j i (by omega)
    rw [fB,bF _ _ _ _ (by rw [gh];omega)]
    by_cases e : i=j
    · subst e
      rw [if_pos rfl,if_pos (by omega),ih,if_neg (by omega)]
    · rw [if_neg e,ih]
      by_cases e2 : j<i
      · rw [if_pos e2,if_pos (by omega)]
      · rw [if_neg e2,if_neg (by omega)]
theorem rP (s : Int) (a b : List Int) : ∀ i,i≤a.length→val (fB (fun x y=>x+s * y) a b i)=val a+s * ps b i
  | 0,_=>by show val a=val a+s * 0;rw [Int.mul_zero,Int.add_zero]
  | i+1,h=>by
    rw [fB,fZ _ _ _ (by rw [gh];omega),rP s a b i (by omega)]
    show val a+s * ps b i+(nth (fB (fun x y=>x+s * y) a b i) i+s * nth b i - nth (fB (fun x y=>x+s * y) a b i) i) * 65536 ^ i=val a+s * (ps b i+nth b i * 65536 ^ i)
    generalize nth (fB (fun x y=>x+s * y) a b i) i=z
    rw [show z+s * nth b i - z=s * nth b i by omega,Int.mul_add,Int.mul_assoc,Int.add_assoc]
def nJ (a b : List Int) : List Int:=qg (fB (fun x y=>x+y) a b 16)
def nK (a b : List Int) : List Int:=qg (fB (fun x y=>x - y) a b 16)
theorem FL (a b : List Int) : fB (fun x y=>x+y) a b=fB (fun x y=>x+1 * y) a b:=by
  have : (fun x y : Int=>x+y)=fun x y=>x+1 * y:=by funext x y;omega
  rw [this]
theorem FM (a b : List Int) : fB (fun x y=>x - y) a b=fB (fun x y=>x+-1 * y) a b:=by
  have : (fun x y : Int=>x - y)=fun x y=>x+-1 * y:=by funext x y;omega
  rw [this]
abbrev Good (l : List Int) : Prop:=Small (-128) 65663 l
theorem wY {f : Int→Int→Int} {a b : List Int} {x0 y0 x1 y1 : Int} (ha : Good a) (hb : Good b)
    (h0 : ∀ x y,-128≤x→x≤65663→-128≤y→y≤65663→x0≤f x y∧f x y≤y0)
    (h1 : ∀ x y,0≤x→x≤65535→0≤y→y≤65535→x1≤f x y∧f x y≤y1) : IC (BK x0 x1) (BK y0 y1) (fB f a b 16):=fun j hj=>by
  rw [gf _ _ _ hj,gf _ _ _ hj,lE _ _ _ _ _ (by rw [ha.len];omega),if_pos hj]
  by_cases e : j=0
  · subst e
    rw [if_pos rfl,if_pos rfl]
    have p:=ha.first
    have q:=hb.first
    exact h0 _ _ p.1 p.2 q.1 q.2
  · rw [if_neg e,if_neg e]
    have p:=ha.rest j (by omega) hj
    have q:=hb.rest j (by omega) hj
    exact h1 _ _ p.1 p.2 q.1 q.2
theorem cv {a b : List Int} (ha : Good a) (hb : Good b) : Good (nJ a b):=
  (jJ (by rw [gh,ha.len]) (wY (x0:=-256) (y0:=131326) (x1:=0) (y1:=131070) ha hb (fun x y _ _ _ _=>by omega) (fun x y _ _ _ _=>by omega))).weak (by decide) (by decide)
theorem bT {a b : List Int} (ha : Good a) (hb : Good b) : Good (nK a b):=
  (jJ (by rw [gh,ha.len]) (wY (x0:=-65791) (y0:=65791) (x1:=-65535) (y1:=65535) ha hb (fun x y _ _ _ _=>by omega) (fun x y _ _ _ _=>by omega))).weak (by decide) (by decide)
theorem FN {a b : List Int} (ha : a.length=16) (hb : b.length=16) : fv (nJ a b)=fv a+fv b:=by
  rw [nJ,rO (by rw [gh,ha]),FL]
  unfold fv
  rw [rP _ _ _ _ (by omega),← gI b 16 (by omega),u9,Int.one_mul]
theorem FO {a b : List Int} (ha : a.length=16) (hb : b.length=16) : fv (nK a b)=fv a - fv b:=by
  rw [nK,rO (by rw [gh,ha]),FM]
  unfold fv
  rw [rP _ _ _ _ (by omega),← gI b 16 (by omega),show val a+-1 * val b=val a - val b by omega,ID]
def wZ (t a b : List Int) (i : Nat) : Nat→List Int
  | 0=>t
  | k+1=>(wZ t a b i k).set (i+k) (nth (wZ t a b i k) (i+k)+nth a i * nth b k)
def fu (a b : List Int) : Nat→List Int
  | 0=>List.replicate 31 0
  | i+1=>wZ (fu a b i) a b i 16
theorem oA (t a b : List Int) (i : Nat) : ∀ k,(wZ t a b i k).length=t.length
  | 0=>rfl
  | k+1=>by rw [wZ,List.length_set,oA t a b i k]
theorem iH (a b : List Int) : ∀ i,(fu a b i).length=31
  | 0=>rfl
  | i+1=>by rw [fu,oA,iH a b i]
theorem An (t a b : List Int) (i : Nat) (h : i<16) (ht : t.length=31) : ∀ k,k≤16→val (wZ t a b i k)=val t+nth a i * 65536 ^ i * ps b k
  | 0,_=>by show val t=val t+nth a i * 65536 ^ i * 0;rw [Int.mul_zero,Int.add_zero]
  | k+1,hk=>by
    rw [wZ,fZ _ _ _ (by rw [oA];omega),An t a b i h ht k (by omega)]
    show val t+nth a i * 65536 ^ i * ps b k+(nth (wZ t a b i k) (i+k)+nth a i * nth b k - nth (wZ t a b i k) (i+k)) * 65536 ^ (i+k)=val t+nth a i * 65536 ^ i * (ps b k+nth b k * 65536 ^ k)
    generalize nth (wZ t a b i k) (i+k)=z
    rw [show z+nth a i * nth b k - z=nth a i * nth b k by omega,Int.pow_add,Int.mul_add,Int.add_assoc]
    congr 2
    rw [Int.mul_assoc,Int.mul_assoc]
    congr 1
    rw [Int.mul_left_comm]
theorem w5 (a b : List Int) : ∀ i,i≤16→val (fu a b i)=ps a i * ps b 16
  | 0,_=>by show val (List.replicate 31 0)=0 * ps b 16;rw [Int.zero_mul];decide
  | i+1,h=>by
    rw [fu,An _ _ _ _ (by omega) (iH a b i) 16 (by omega),w5 a b i (by omega)]
    show ps a i * ps b 16+nth a i * 65536 ^ i * ps b 16=(ps a i+nth a i * 65536 ^ i) * ps b 16
    rw [Int.add_mul]
def pD (m : Int) (l : List Int) : Prop:=∀ j,-m≤nth l j∧nth l j≤m
theorem Ao {x y : Int} (h1 : -131072≤x) (h2 : x≤131072) (h3 : -131072≤y) (h4 : y≤131072) : -17179869184≤x * y∧x * y≤17179869184:=by
  have a : x.natAbs≤131072:=by omega
  have b : y.natAbs≤131072:=by omega
  have c:=Nat.mul_le_mul a b
  rw [← Int.natAbs_mul] at c
  omega
theorem rQ {t a b : List Int} {i : Nat} {m : Int} (h : i<16) (ht : t.length=31) (ha : pD 131072 a) (hb : pD 131072 b) (hw : pD m t) : ∀ k : Nat,k≤16→pD (m+17179869184 * k) (wZ t a b i k)
  | 0,_=>fun j=>by have:=hw j;show -(m+17179869184 * (0 : Nat))≤nth t j∧nth t j≤m+17179869184 * (0 : Nat);omega
  | k+1,hk=>fun j=>by
    have ih:=rQ h ht ha hb hw k (by omega)
    have p:=Ao (ha i).1 (ha i).2 (hb k).1 (hb k).2
    rw [wZ,bF _ _ _ _ (by rw [oA];omega)]
    generalize nth a i * nth b k=z at p
    split
    · have:=ih (i+k)
      omega
    · have:=ih j
      omega
theorem iI (n j : Nat) : nth (List.replicate n 0) j=0:=by
  unfold nth
  rw [List.getD_eq_getElem?_getD,List.getElem?_replicate]
  split <;> rfl
theorem mD {a b : List Int} (ha : pD 131072 a) (hb : pD 131072 b) : ∀ i : Nat,i≤16→pD (274877906944 * i) (fu a b i)
  | 0,_=>fun j=>by rw [fu,iI];omega
  | i+1,h=>fun j=>by
    have ih:=rQ (i:=i) (by omega) (iH a b i) ha hb (mD ha hb i (by omega)) 16 (by omega) j
    rw [fu]
    omega
theorem Good.wide {l : List Int} (h : Good l) : pD 131072 l:=fun j=>by
  by_cases e : j=0
  · subst e;have:=h.first;omega
  · by_cases e2 : j<16
    · have:=h.rest j (by omega) e2;omega
    · have : nth l j=0:=by
        unfold nth
        rw [List.getD_eq_getElem?_getD,List.getElem?_eq_none (by rw [h.len];omega)];rfl
      omega
def fold (t : List Int) : Nat→List Int
  | 0=>List.replicate 16 0
  | i+1=>if i<15 then ((fold t i).set i (nth t i)).set i (nth ((fold t i).set i (nth t i)) i+38 * nth t (i+16)) else (fold t i).set i (nth t i)
theorem iJ (t : List Int) : ∀ i,(fold t i).length=16
  | 0=>rfl
  | i+1=>by rw [fold];split <;> simp [iJ t i]
theorem oB (t : List Int) : ∀ i,i≤16→∀ j,nth (fold t i) j=if j<i then (if j<15 then nth t j+38 * nth t (j+16) else nth t j) else 0
  | 0,_,j=>by rw [fold,iI];rfl
  | i+1,h,j=>by
    have ih:=oB t i (by omega) j
    have l:=iJ t i
    have x1 : ∀ z,nth ((fold t i).set i z) j=if i=j then z else nth (fold t i) j:=fun z=>bF _ _ _ _ (by omega)
    have x2 : ∀ z y,nth (((fold t i).set i z).set i y) j=if i=j then y else nth ((fold t i).set i z) j:=fun z y=>bF _ _ _ _ (by rw [List.length_set];omega)
    have x3 : ∀ z,nth ((fold t i).set i z) i=z:=fun z=>by rw [bF _ _ _ _ (by omega),if_pos rfl]
    rw [fold]
    by_cases e : i<15
    · rw [if_pos e,x2,x1,x3,ih]
      by_cases e2 : i=j
      · subst e2
        rw [if_pos rfl,if_pos (by omega),if_pos e]
      · rw [if_neg e2,if_neg e2]
        by_cases e3 : j<i
        · rw [if_pos e3];exact (if_pos (by omega)).symm
        · rw [if_neg e3,if_neg (by omega)]
    · rw [if_neg e,x1,ih]
      by_cases e2 : i=j
      · subst e2
        rw [if_pos rfl,if_pos (by omega),if_neg e]
      · rw [if_neg e2]
        by_cases e3 : j<i
        · rw [if_pos e3];exact (if_pos (by omega)).symm
        · rw [if_neg e3,if_neg (by omega)]
def yY (t : List Int) : Nat→Int
  | 0=>0
  | k+1=>yY t k+nth t (k+16) * 65536 ^ k
theorem Hf (t : List Int) : ∀ k,ps t (16+k)=ps t 16+65536 ^ 16 * yY t k
  | 0=>by show ps t 16=ps t 16+65536 ^ 16 * 0;rw [Int.mul_zero,Int.add_zero]
  | k+1=>by
    show ps t (16+k)+nth t (16+k) * 65536 ^ (16+k)=ps t 16+65536 ^ 16 * (yY t k+nth t (k+16) * 65536 ^ k)
    rw [Hf t k,Int.mul_add,Int.add_assoc,Nat.add_comm 16 k,Int.pow_add,Int.mul_comm (65536 ^ k),← Int.mul_assoc,Int.mul_comm (nth t (k+16)),Int.mul_assoc (65536 ^ 16)]
theorem Ap (t : List Int) : ∀ k,k≤15→ps (fold t 16) k=ps t k+38 * yY t k
  | 0,_=>rfl
  | k+1,h=>by
    show ps (fold t 16) k+nth (fold t 16) k * 65536 ^ k=ps t k+nth t k * 65536 ^ k+38 * (yY t k+nth t (k+16) * 65536 ^ k)
    rw [Ap t k (by omega),oB t 16 (by omega),if_pos (by omega),if_pos (by omega),Int.add_mul,Int.mul_add,Int.mul_assoc]
    omega
theorem DO {t : List Int} (ht : t.length=31) : val t=val (fold t 16)+2 * yY t 15 * P:=by
  rw [gI t 31 (by omega),gI (fold t 16) 16 (by rw [iJ];omega)]
  have a:=Hf t 15
  have b:=Ap t 15 (by omega)
  have c : ps (fold t 16) 16=ps (fold t 16) 15+nth (fold t 16) 15 * 65536 ^ 15:=rfl
  have d : ps t 16=ps t 15+nth t 15 * 65536 ^ 15:=rfl
  have e : nth (fold t 16) 15=nth t 15:=by rw [oB t 16 (by omega),if_pos (by omega),if_neg (by omega)]
  rw [a,c,b,e,d]
  generalize nth t 15 * 65536 ^ 15=z
  generalize yY t 15=y
  have e4 : (65536 : Int) ^ 16=2 * (P : Int)+38:=by decide
  rw [e4]
  have e5 : ((P : Nat) : Int)=57896044618658097711785492504343953926634992332820282019728792003956564819949:=rfl
  rw [e5]
  omega
def mulL (a b : List Int) : List Int:=qg (qg (fold (fu a b 16) 16))
theorem uc {a b : List Int} (ha : Good a) (hb : Good b) : pD 171523813933056 (fold (fu a b 16) 16):=fun j=>by
  have w:=mD ha.wide hb.wide 16 (by omega)
  have w1:=w j
  have w2:=w (j+16)
  rw [oB _ 16 (by omega)]
  split
  · split <;> omega
  · omega
theorem DP {a b : List Int} (w : pD 171523813933056 (fold (fu a b 16) 16)) : pD 100000000000 (qg (fold (fu a b 16) 16)):=fun j=>by
  have b1 : IC (BK (-171523813933056) (-171523813933056)) (BK 171523813933056 171523813933056) (fold (fu a b 16) 16):=fun j hj=>by
    rw [gf _ _ _ hj,gf _ _ _ hj]
    have:=w j
    split <;> omega
  have s1:=(jJ (iJ _ 16) b1).weak (c:=-100000000000) (d:=100000000000) (by decide) (by decide)
  by_cases e : j=0
  · subst e;exact s1.first
  · by_cases e2 : j<16
    · have:=s1.rest j (by omega) e2;omega
    · have : nth (qg (fold (fu a b 16) 16)) j=0:=by
        unfold nth
        rw [List.getD_eq_getElem?_getD,List.getElem?_eq_none (by rw [s1.len];omega)];rfl
      omega
theorem aI {a b : List Int} (ha : Good a) (hb : Good b) : Good (mulL a b):=by
  have w:=uc ha hb
  have b1 : IC (BK (-171523813933056) (-171523813933056)) (BK 171523813933056 171523813933056) (fold (fu a b 16) 16):=fun j hj=>by
    rw [gf _ _ _ hj,gf _ _ _ hj]
    have:=w j
    split <;> omega
  have s1:=(jJ (iJ _ 16) b1).weak (c:=-100000000000) (d:=100000000000) (by decide) (by decide)
  exact (jJ s1.len s1.Jr).weak (by decide) (by decide)
theorem qD {a b : List Int} (ha : a.length=16) (hb : b.length=16) : fv (mulL a b)=fv a * fv b:=by
  have l1:=iJ (fu a b 16) 16
  have e1 : fv (fold (fu a b 16) 16)=fi (val (fu a b 16)):=(yX (DO (iH a b 16))).symm
  rw [mulL,rO (by rw [qg,ke,l1]),rO l1,e1,w5 a b 16 (by omega),← gI a 16 (by omega),← gI b 16 (by omega),DM]
  rfl
end dO
end
section
set_option maxRecDepth 10000
open Sl dO
theorem mE : aK Tryz.prog 49:=⟨_,Tryz.func49,rfl,by kernel_rfl⟩
theorem kg : aK Tryz.prog 50:=⟨_,Tryz.func50,rfl,by kernel_rfl⟩
theorem cw : aK Tryz.prog 51:=⟨_,Tryz.func51,rfl,by kernel_rfl⟩
theorem L0 : dJ Tryz.prog 116=some 31:=by kernel_rfl
theorem L1 : zc Tryz.prog 116=some ((List.replicate 31 (0 : Int)).map I):=by kernel_rfl
theorem Fit.ve {l : List Int} {m : Int} (h : pD m l) (hm : m≤288230376151711744) : Fit l:=fun j _=>by have:=h j;omega
theorem w6 {f : Int→Int→Int} {a b : List Int} (ha : Good a) (hb : Good b) (h : ∀ x y,-131072≤x→x≤131072→-131072≤y→y≤131072→-300000≤f x y∧f x y≤300000) : Fit (fB f a b 16):=fun j hj=>by
  rw [lE _ _ _ _ _ (by rw [ha.len];omega),if_pos hj]
  have p:=ha.wide j
  have q:=hb.wide j
  have:=h _ _ p.1 p.2 q.1 q.2
  omega
set_option maxHeartbeats 8000000 in
theorem oC (a b : List Int) (ha : Good a) (hb : Good b) (w : World) : Calls Tryz.prog 49 [.agg (a.map I).toArray,.agg (b.map I).toArray].toArray w fun e w'=>e=.returned (.agg ((nJ a b).map I).toArray)∧Ext w w':=by
  refine enter (n:=20) Tryz.func49 rfl rfl rfl (ah.start w []) ?_
  repeat (first | refine JC.seq ?_ | refine JC.region ?_)
  refine JL.box (r:=a.map I) rfl rfl rfl fun b2 _=>?_
  refine JL.box (r:=b.map I) rfl rfl rfl fun b3 _=>?_
  refine JL.alloc jq rfl fun b4 _=>?_
  repeat (first | refine JL.q (by (apply OQ.assign;rfl)) rfl ?_ | refine JC.seq ?_ | refine JC.region ?_ | refine JC.block ?_ | refine JL.nil ?_ | refine JE.next ?_)
  refine JC.loop (fun i : Nat=>[(2,Pt b2 0),(3,Pt b3 0),(4,Pt b4 0),(5,N i)])
    (fun i=>[⟨b4,Row 97 ((List.replicate 16 (0 : Int)).map I),true⟩,⟨b3,Row 97 (b.map I),true⟩,⟨b2,Row 97 ((fB (fun x y=>x+y) a b i).map I),true⟩])
    (fun i=>16 - i) (fun i=>i≤16) 0 (by omega) (by repeat (first | exact ai.nil | refine ai.cons _ _ _ rfl ?_)) (aq.refl _) ?_
  intro i hi
  have len:=gh (fun x y=>x+y) a b i
  rw [ha.len] at len
  repeat (first | refine JL.q (by first|(apply OQ.move;rfl)|(apply OQ.bJ;rfl;rfl)) rfl ?_ | refine JC.seq ?_ | refine JC.region ?_ | refine JL.nil ?_ | refine JE.next ?_)
  refine JC.cond rfl (fun h=>?_) (fun h=>?_)
  · have hi' : i<16:=of_decide_eq_true h
    clear h hi
    have hc:=fR (l:=fB (fun x y=>x+y) a b i) (i:=i) (by omega)
    have hd:=fR (l:=b) (i:=i) (by rw [hb.len];omega)
    have e1 : nth (fB (fun x y=>x+y) a b i) i=nth a i:=by rw [lE _ _ _ _ _ (by rw [ha.len];omega),if_neg (by omega)]
    have w1:=ha.wide i
    have w2:=hb.wide i
    repeat (first | refine JC.seq ?_ | refine JC.block ?_ | refine JC.skip ?_ | refine JE.next ?_)
    refine JC.tail 8 eD (by kernel_rfl) ?_
    simp only [List.take_succ_cons,List.take_zero,List.drop_succ_cons,List.drop_zero]
    repeat (first | refine JQ.q (by first|(apply OQ.aD;exact Tryz.underlying97;exact kP;rfl;rfl;exact (by (try simp only []);omega))|(apply OQ.load;exact qC;rfl;exact (.there (.there .here));exact (Row.cell hc))|(apply OQ.load;exact qC;rfl;exact (.there .here);exact (Row.cell hd))|(apply OQ.CU;rfl;rfl;exact (by omega);exact (by omega))|(apply OQ.move;rfl)) rfl ?_ | refine JQ.bC ?_)
    refine JL.az (r':=(fB (fun x y=>x+y) a b (i+1)).map I) kP rfl rfl rfl rfl (.there (.there .here)) (by rw [List.length_map,len];(try simp only []);omega) (iG _ _ _) ?_
    repeat (first | refine JL.q (by first|(apply OQ.move;rfl)|(apply OQ.assign;rfl)|(apply OQ.aY;rfl;rfl;exact (by (try simp only []);omega))) rfl ?_ | refine JC.region ?_ | refine JL.nil ?_ | refine JE.next ?_ | refine JE.an ?_)
    exact JE.again (i:=i) (i+1) (by omega) (by omega) (by repeat (first | exact ai.nil | refine ai.cons _ _ _ rfl ?_)) (aq.refl _)
  · have hi' : ¬ i<16:=of_decide_eq_false h
    obtain rfl : i=16:=by omega
    clear h hi hi'
    have hl' : ((fB (fun x y=>x+y) a b 16).map I).length=16:=by rw [List.length_map];exact len
    have hl2 : ((nJ a b).map I).length=16:=by rw [List.length_map];exact (cv ha hb).len
    have hf : Fit (fB (fun x y=>x+y) a b 16):=w6 ha hb fun x y _ _ _ _=>by omega
    repeat (first | refine JL.q (by first|(apply OQ.af (cs:=(fB (fun x y=>x+y) a b 16).map I);exact cu;exact bg;rfl;exact (.there (.there .here));exact hl';exact Row.all)|(apply OQ.au;exact gy;rfl;exact (fun w' _=>iu _ len hf w'))) rfl ?_ | refine JC.seq ?_ | refine JC.region ?_ | refine JC.exit ?_ | refine JE.next ?_ | refine JE.ax ?_ | refine JE.aA ?_)
    refine JL.ag bg rfl rfl hl2 (bE _) .here (by simp) ?_
    repeat (first | refine JL.nil ?_ | refine JE.next ?_)
    refine JC.ret (JE.aQ rfl (RV.av cu bg rfl .here hl2 Row.all) ?_)
    exact fun w' hw=>⟨rfl,hw.aL⟩
set_option maxHeartbeats 8000000 in
theorem mF (a b : List Int) (ha : Good a) (hb : Good b) (w : World) : Calls Tryz.prog 50 [.agg (a.map I).toArray,.agg (b.map I).toArray].toArray w fun e w'=>e=.returned (.agg ((nK a b).map I).toArray)∧Ext w w':=by
  refine enter (n:=20) Tryz.func50 rfl rfl rfl (ah.start w []) ?_
  repeat (first | refine JC.seq ?_ | refine JC.region ?_)
  refine JL.box (r:=a.map I) rfl rfl rfl fun b2 _=>?_
  refine JL.box (r:=b.map I) rfl rfl rfl fun b3 _=>?_
  refine JL.alloc jq rfl fun b4 _=>?_
  repeat (first | refine JL.q (by (apply OQ.assign;rfl)) rfl ?_ | refine JC.seq ?_ | refine JC.region ?_ | refine JC.block ?_ | refine JL.nil ?_ | refine JE.next ?_)
  refine JC.loop (fun i : Nat=>[(2,Pt b2 0),(3,Pt b3 0),(4,Pt b4 0),(5,N i)])
    (fun i=>[⟨b4,Row 97 ((List.replicate 16 (0 : Int)).map I),true⟩,⟨b3,Row 97 (b.map I),true⟩,⟨b2,Row 97 ((fB (fun x y=>x - y) a b i).map I),true⟩])
    (fun i=>16 - i) (fun i=>i≤16) 0 (by omega) (by repeat (first | exact ai.nil | refine ai.cons _ _ _ rfl ?_)) (aq.refl _) ?_
  intro i hi
  have len:=gh (fun x y=>x - y) a b i
  rw [ha.len] at len
  repeat (first | refine JL.q (by first|(apply OQ.move;rfl)|(apply OQ.bJ;rfl;rfl)) rfl ?_ | refine JC.seq ?_ | refine JC.region ?_ | refine JL.nil ?_ | refine JE.next ?_)
  refine JC.cond rfl (fun h=>?_) (fun h=>?_)
  · have hi' : i<16:=of_decide_eq_true h
    clear h hi
    have hc:=fR (l:=fB (fun x y=>x - y) a b i) (i:=i) (by omega)
    have hd:=fR (l:=b) (i:=i) (by rw [hb.len];omega)
    have e1 : nth (fB (fun x y=>x - y) a b i) i=nth a i:=by rw [lE _ _ _ _ _ (by rw [ha.len];omega),if_neg (by omega)]
    have w1:=ha.wide i
    have w2:=hb.wide i
    repeat (first | refine JC.seq ?_ | refine JC.block ?_ | refine JC.skip ?_ | refine JE.next ?_)
    refine JC.tail 8 eD (by kernel_rfl) ?_
    simp only [List.take_succ_cons,List.take_zero,List.drop_succ_cons,List.drop_zero]
    repeat (first | refine JQ.q (by first|(apply OQ.aD;exact Tryz.underlying97;exact kP;rfl;rfl;exact (by (try simp only []);omega))|(apply OQ.load;exact qC;rfl;exact (.there (.there .here));exact (Row.cell hc))|(apply OQ.load;exact qC;rfl;exact (.there .here);exact (Row.cell hd))|(apply OQ.od;rfl;rfl;exact (by omega);exact (by omega))|(apply OQ.move;rfl)) rfl ?_ | refine JQ.bC ?_)
    refine JL.az (r':=(fB (fun x y=>x - y) a b (i+1)).map I) kP rfl rfl rfl rfl (.there (.there .here)) (by rw [List.length_map,len];(try simp only []);omega) (iG _ _ _) ?_
    repeat (first | refine JL.q (by first|(apply OQ.move;rfl)|(apply OQ.assign;rfl)|(apply OQ.aY;rfl;rfl;exact (by (try simp only []);omega))) rfl ?_ | refine JC.region ?_ | refine JL.nil ?_ | refine JE.next ?_ | refine JE.an ?_)
    exact JE.again (i:=i) (i+1) (by omega) (by omega) (by repeat (first | exact ai.nil | refine ai.cons _ _ _ rfl ?_)) (aq.refl _)
  · have hi' : ¬ i<16:=of_decide_eq_false h
    obtain rfl : i=16:=by omega
    clear h hi hi'
    have hl' : ((fB (fun x y=>x - y) a b 16).map I).length=16:=by rw [List.length_map];exact len
    have hl2 : ((nK a b).map I).length=16:=by rw [List.length_map];exact (bT ha hb).len
    have hf : Fit (fB (fun x y=>x - y) a b 16):=w6 ha hb fun x y _ _ _ _=>by omega
    repeat (first | refine JL.q (by first|(apply OQ.af (cs:=(fB (fun x y=>x - y) a b 16).map I);exact cu;exact bg;rfl;exact (.there (.there .here));exact hl';exact Row.all)|(apply OQ.au;exact gy;rfl;exact (fun w' _=>iu _ len hf w'))) rfl ?_ | refine JC.seq ?_ | refine JC.region ?_ | refine JC.exit ?_ | refine JE.next ?_ | refine JE.ax ?_ | refine JE.aA ?_)
    refine JL.ag bg rfl rfl hl2 (bE _) .here (by simp) ?_
    repeat (first | refine JL.nil ?_ | refine JE.next ?_)
    refine JC.ret (JE.aQ rfl (RV.av cu bg rfl .here hl2 Row.all) ?_)
    exact fun w' hw=>⟨rfl,hw.aL⟩
end
section
set_option maxRecDepth 10000
open Sl dO
def ki (t : List Int) (i : Nat) : List Int:=(fold t i).set i (nth t i)
set_option maxHeartbeats 16000000 in
theorem dx (a b : List Int) (ha : Good a) (hb : Good b) (w : World) : Calls Tryz.prog 51 [.agg (a.map I).toArray,.agg (b.map I).toArray].toArray w fun e w'=>e=.returned (.agg ((mulL a b).map I).toArray)∧Ext w w':=by
  have wa:=ha.wide
  have wb:=hb.wide
  refine enter (n:=58) Tryz.func51 rfl rfl rfl (ah.start w []) ?_
  repeat (first | refine JC.seq ?_ | refine JC.region ?_)
  refine JL.box (r:=a.map I) rfl rfl rfl fun b2 _=>?_
  refine JL.box (r:=b.map I) rfl rfl rfl fun b3 _=>?_
  refine JL.alloc jq rfl fun b4 _=>?_
  repeat (first | refine JC.seq ?_ | refine JC.region ?_ | refine JL.nil ?_ | refine JE.next ?_)
  refine JL.q (OQ.pure (v:=.agg ((fu a b 0).map I).toArray) rfl rfl (by kernel_rfl)) rfl ?_
  refine JL.alloc L1 rfl fun b5 _=>?_
  refine JL.ag L0 rfl rfl rfl (bE _) .here (by simp) ?_
  repeat (first | refine JL.q (by (apply OQ.assign;rfl)) rfl ?_ | refine JC.seq ?_ | refine JC.region ?_ | refine JC.block ?_ | refine JL.nil ?_ | refine JE.next ?_)
  refine JC.loop (fun i : Nat=>[(2,Pt b2 0),(3,Pt b3 0),(4,Pt b4 0),(5,Pt b5 0),(6,N i)])
    (fun i=>[⟨b5,Row 116 ((fu a b i).map I),true⟩,⟨b4,Row 97 ((List.replicate 16 (0 : Int)).map I),true⟩,⟨b3,Row 97 (b.map I),true⟩,⟨b2,Row 97 (a.map I),true⟩])
    (fun i=>16 - i) (fun i=>i≤16) 0 (by omega) (by repeat (first | exact ai.nil | refine ai.cons _ _ _ rfl ?_)) (aq.refl _) ?_
  intro i hi
  repeat (first | refine JL.q (by first|(apply OQ.move;rfl)|(apply OQ.bJ;rfl;rfl)) rfl ?_ | refine JC.seq ?_ | refine JC.region ?_ | refine JL.nil ?_ | refine JE.next ?_)
  refine JC.cond rfl (fun h=>?_) (fun h=>?_)
  · have hi' : i<16:=of_decide_eq_true h
    clear h hi
    repeat (first | refine JL.q (by (apply OQ.assign;rfl)) rfl ?_ | refine JC.seq ?_ | refine JC.region ?_ | refine JC.block ?_ | refine JC.skip ?_ | refine JL.nil ?_ | refine JE.next ?_)
    refine JC.loop (fun k : Nat=>[(2,Pt b2 0),(3,Pt b3 0),(4,Pt b4 0),(5,Pt b5 0),(6,N i),(7,N k)])
      (fun k=>[⟨b5,Row 116 ((wZ (fu a b i) a b i k).map I),true⟩,⟨b4,Row 97 ((List.replicate 16 (0 : Int)).map I),true⟩,⟨b3,Row 97 (b.map I),true⟩,⟨b2,Row 97 (a.map I),true⟩])
      (fun k=>16 - k) (fun k=>k≤16) 0 (by omega) (by repeat (first | exact ai.nil | refine ai.cons _ _ _ rfl ?_)) (aq.refl _) ?_
    intro k hk
    have len:=oA (fu a b i) a b i k
    rw [iH] at len
    repeat (first | refine JL.q (by first|(apply OQ.move;rfl)|(apply OQ.bJ;rfl;rfl)) rfl ?_ | refine JC.seq ?_ | refine JC.region ?_ | refine JL.nil ?_ | refine JE.next ?_)
    refine JC.cond rfl (fun h=>?_) (fun h=>?_)
    · have hk' : k<16:=of_decide_eq_true h
      clear h hk
      have hc:=fR (l:=wZ (fu a b i) a b i k) (i:=i+k) (by omega)
      have hd:=fR (l:=a) (i:=i) (by rw [ha.len];omega)
      have he:=fR (l:=b) (i:=k) (by rw [hb.len];omega)
      have p:=Ao (wa i).1 (wa i).2 (wb k).1 (wb k).2
      have q:=rQ hi' (iH a b i) wa wb (mD wa wb i (by omega)) k (by omega) (i+k)
      have q1 : -9007199254740992≤nth (wZ (fu a b i) a b i k) (i+k)∧nth (wZ (fu a b i) a b i k) (i+k)≤9007199254740992:=by omega
      repeat (first | refine JC.seq ?_ | refine JC.block ?_ | refine JC.skip ?_ | refine JE.next ?_)
      refine JC.tail 14 eD (by kernel_rfl) ?_
      simp only [List.take_succ_cons,List.take_zero,List.drop_succ_cons,List.drop_zero]
      repeat (first | refine JQ.q (by first|(apply OQ.aD;exact Tryz.underlying97;exact kP;rfl;rfl;exact (by (try simp only []);omega))|(apply OQ.aD;exact Tryz.underlying116;exact kP;rfl;rfl;exact (by (try simp only []);omega))|(apply OQ.load;exact qC;rfl;exact .here;exact (Row.cell hc))|(apply OQ.load;exact qC;rfl;exact (.there (.there (.there .here)));exact (Row.cell hd))|(apply OQ.load;exact qC;rfl;exact (.there (.there .here));exact (Row.cell he))|(apply OQ.HJ (a:=nth a i) (b:=nth b k);rfl;rfl;exact (by omega);exact (by omega))|(apply OQ.CU;rfl;rfl;exact (by omega);exact (by omega))|(apply OQ.move;rfl)) rfl ?_ | refine JQ.bC ?_)
      refine JL.az (r':=(wZ (fu a b i) a b i (k+1)).map I) kP rfl rfl rfl rfl .here (by rw [List.length_map,len];(try simp only []);omega) (iG _ _ _) ?_
      repeat (first | refine JL.q (by first|(apply OQ.move;rfl)|(apply OQ.assign;rfl)|(apply OQ.aY;rfl;rfl;exact (by (try simp only []);omega))) rfl ?_ | refine JC.region ?_ | refine JL.nil ?_ | refine JE.next ?_ | refine JE.an ?_)
      exact JE.again (i:=k) (k+1) (by omega) (by omega) (by repeat (first | exact ai.nil | refine ai.cons _ _ _ rfl ?_)) (aq.refl _)
    · have hk' : ¬ k<16:=of_decide_eq_false h
      obtain rfl : k=16:=by omega
      clear h hk hk'
      repeat (first | refine JL.q (by first|(apply OQ.move;rfl)|(apply OQ.assign;rfl)|(apply OQ.aY;rfl;rfl;exact (by (try simp only []);omega))) rfl ?_ | refine JC.region ?_ | refine JC.exit ?_ | refine JL.nil ?_ | refine JE.next ?_ | refine JE.an ?_ | refine JE.ax ?_ | refine JE.aA ?_)
      exact JE.again (i:=i) (i+1) (by omega) (by omega) (by repeat (first | exact ai.nil | refine ai.cons _ _ _ rfl ?_)) (aq.refl _)
  · have hi' : ¬ i<16:=of_decide_eq_false h
    obtain rfl : i=16:=by omega
    clear h hi hi'
    have tw:=mD wa wb 16 (by omega)
    have tl:=iH a b 16
    generalize ht : fu a b 16=t at tw tl
    repeat (first | refine JC.seq ?_ | refine JC.region ?_ | refine JC.exit ?_ | refine JE.next ?_ | refine JE.ax ?_ | refine JE.aA ?_)
    refine JL.q (OQ.pure (v:=.agg ((fold t 0).map I).toArray) rfl rfl (by kernel_rfl)) rfl ?_
    refine JL.alloc jq rfl fun b8 _=>?_
    refine JL.ag bg rfl rfl rfl (bE _) .here (by simp) ?_
    repeat (first | refine JL.q (by (apply OQ.assign;rfl)) rfl ?_ | refine JC.seq ?_ | refine JC.region ?_ | refine JC.block ?_ | refine JL.nil ?_ | refine JE.next ?_)
    refine JC.loop (fun i : Nat=>[(4,Pt b4 0),(5,Pt b5 0),(8,Pt b8 0),(9,N i)])
      (fun i=>[⟨b8,Row 97 ((fold t i).map I),true⟩,⟨b5,Row 116 (t.map I),true⟩,⟨b4,Row 97 ((List.replicate 16 (0 : Int)).map I),true⟩])
      (fun i=>16 - i) (fun i=>i≤16) 0 (by omega) (by repeat (first | exact ai.nil | refine ai.cons _ _ _ rfl ?_)) (.keep _ _ _ _ _ _ (fun _ h=>h) (.keep _ _ _ _ _ _ (fun _ h=>h) (.keep _ _ _ _ _ _ (fun _ h=>h) (aq.nil _)))) ?_
    intro i hi
    have len:=iJ t i
    repeat (first | refine JL.q (by first|(apply OQ.move;rfl)|(apply OQ.bJ;rfl;rfl)) rfl ?_ | refine JC.seq ?_ | refine JC.region ?_ | refine JL.nil ?_ | refine JE.next ?_)
    refine JC.cond rfl (fun h=>?_) (fun h=>?_)
    · have hi' : i<16:=of_decide_eq_true h
      clear h hi
      have hc:=fR (l:=t) (i:=i) (by omega)
      have w1:=tw i
      repeat (first | refine JL.q (by first|(apply OQ.aD;exact Tryz.underlying97;exact kP;rfl;rfl;exact (by (try simp only []);omega))|(apply OQ.aD;exact Tryz.underlying116;exact kP;rfl;rfl;exact (by (try simp only []);omega))|(apply OQ.load;exact qC;rfl;exact (.there .here);exact (Row.cell hc))|(apply OQ.move;rfl)) rfl ?_ | refine JC.seq ?_ | refine JC.region ?_ | refine JC.block ?_ | refine JC.skip ?_ | refine JE.next ?_)
      refine JL.az (r':=(ki t i).map I) kP rfl rfl rfl rfl .here (by rw [List.length_map,len];(try simp only []);omega) (iG _ _ _) ?_
      repeat (first | refine JL.q (by first|(apply OQ.move;rfl)|(apply OQ.bJ;rfl;rfl)) rfl ?_ | refine JC.seq ?_ | refine JC.region ?_ | refine JL.nil ?_ | refine JE.next ?_)
      have len2 : (ki t i).length=16:=by rw [ki,List.length_set];exact len
      refine JC.cond rfl (fun h=>?_) (fun h=>?_)
      · have h15 : i<15:=of_decide_eq_true h
        clear h
        have hd:=fR (l:=ki t i) (i:=i) (by omega)
        have e1 : nth (ki t i) i=nth t i:=by rw [ki,bF _ _ _ _ (by omega),if_pos rfl]
        have he:=fR (l:=t) (i:=i+16) (by omega)
        have w2:=tw (i+16)
        have e2 : fold t (i+1)=(ki t i).set i (nth (ki t i) i+38 * nth t (i+16)):=by rw [fold,if_pos h15];rfl
        skip
        refine JC.tail 10 eD (by kernel_rfl) ?_
        simp only [List.take_succ_cons,List.take_zero,List.drop_succ_cons,List.drop_zero]
        repeat (first | refine JQ.q (by first|(apply OQ.aD;exact Tryz.underlying97;exact kP;rfl;rfl;exact (by (try simp only []);omega))|(apply OQ.aD;exact Tryz.underlying116;exact kP;rfl;rfl;exact (by (try simp only []);omega))|(apply OQ.load;exact qC;rfl;exact .here;exact (Row.cell hd))|(apply OQ.load;exact qC;rfl;exact (.there .here);exact (Row.cell he))|(apply OQ.HJ (a:=38);rfl;rfl;exact (by omega);exact (by omega))|(apply OQ.CU;rfl;rfl;exact (by omega);exact (by omega))|(apply OQ.move;rfl)) rfl ?_ | refine JQ.bC ?_)
        refine JL.az (r':=(fold t (i+1)).map I) kP rfl rfl rfl rfl .here (by rw [List.length_map,len2];(try simp only []);omega) (by rw [iG,e2]) ?_
        repeat (first | refine JL.q (by first|(apply OQ.move;rfl)|(apply OQ.assign;rfl)|(apply OQ.aY;rfl;rfl;exact (by (try simp only []);omega))) rfl ?_ | refine JC.region ?_ | refine JL.nil ?_ | refine JE.next ?_ | refine JE.an ?_)
        exact JE.again (i:=i) (i+1) (by omega) (by omega) (by repeat (first | exact ai.nil | refine ai.cons _ _ _ rfl ?_)) (aq.refl _)
      · have h15 : ¬ i<15:=of_decide_eq_false h
        clear h
        have e2 : fold t (i+1)=ki t i:=by rw [fold,if_neg h15];rfl
        rw [← e2]
        repeat (first | refine JL.q (by first|(apply OQ.move;rfl)|(apply OQ.assign;rfl)|(apply OQ.aY;rfl;rfl;exact (by (try simp only []);omega))) rfl ?_ | refine JC.region ?_ | refine JC.skip ?_ | refine JL.nil ?_ | refine JE.next ?_ | refine JE.an ?_)
        exact JE.again (i:=i) (i+1) (by omega) (by omega) (by repeat (first | exact ai.nil | refine ai.cons _ _ _ rfl ?_)) (aq.refl _)
    · have hi' : ¬ i<16:=of_decide_eq_false h
      obtain rfl : i=16:=by omega
      clear h hi hi'
      subst ht
      have fw:=uc ha hb
      have hf1:=Fit.ve fw (by decide)
      have l1 : (qg (fold (fu a b 16) 16)).length=16:=by rw [qg,ke,len]
      have w2 : pD 100000000000 (qg (fold (fu a b 16) 16)):=DP fw
      have hf2:=Fit.ve w2 (by decide)
      have c1:=iu _ len hf1
      have c2:=iu _ l1 hf2
      have eM : qg (qg (fold (fu a b 16) 16))=mulL a b:=rfl
      have hl2 : ((mulL a b).map I).length=16:=by rw [List.length_map];exact (aI ha hb).len
      have hl' : ((fold (fu a b 16) 16).map I).length=16:=by rw [List.length_map];exact len
      rw [eM] at c2
      clear eM hf1 hf2 w2 fw l1 tw tl len
      generalize mulL a b=M at *
      generalize qg (fold (fu a b 16) 16)=G at *
      generalize fold (fu a b 16) 16=X at *
      generalize fu a b 16=T at *
      repeat (first | refine JL.q (by first|(apply OQ.af (cs:=X.map I);exact cu;exact bg;rfl;exact .here;exact hl';exact Row.all)|(apply OQ.au (vs:=[.agg (X.map I).toArray]);exact gy;rfl;exact (fun w' _=>c1 w'))|(apply OQ.au (vs:=[.agg (G.map I).toArray]);exact gy;rfl;exact (fun w' _=>c2 w'))) rfl ?_ | refine JC.seq ?_ | refine JC.region ?_ | refine JC.exit ?_ | refine JE.next ?_ | refine JE.ax ?_ | refine JE.aA ?_)
      refine JL.ag (cs:=M.map I) bg rfl rfl hl2 (bE _) (.there (.there .here)) (by simp) ?_
      repeat (first | refine JL.nil ?_ | refine JE.next ?_)
      refine JC.ret (JE.aQ rfl (RV.av cu bg rfl (.there (.there .here)) hl2 Row.all) ?_)
      exact fun w' hw=>⟨rfl,hw.aL⟩
end
section
namespace dO
abbrev By:=BitVec 8
def le : List By→Nat
  | []=>0
  | b::l=>b.toNat+256 * le l
def gQ (u : List By) (i : Nat) : Nat:=(u.getD (2 * i) 0).toNat+256 * (u.getD (2 * i+1) 0).toNat
theorem rR (u : List By) (i : Nat) : gQ u i<65536:=by
  have a:=(u.getD (2 * i) 0).isLt
  have b:=(u.getD (2 * i+1) 0).isLt
  unfold gQ
  omega
def Aq (u : List By) : Nat→List Int
  | 0=>List.replicate 16 0
  | i+1=>(Aq u i).set i ((gQ u i : Nat) : Int)
def iK (u : List By) : List Int:=(Aq u 16).set 15 ((gQ u 15 % 32768 : Nat) : Int)
theorem kn (u : List By) : ∀ i,(Aq u i).length=16
  | 0=>rfl
  | i+1=>by rw [Aq,List.length_set,kn u i]
theorem oD (u : List By) (j : Nat) : ∀ i,i≤16→nth (Aq u i) j=if j<i then ((gQ u j : Nat) : Int) else 0
  | 0,_=>by rw [Aq,iI];rfl
  | i+1,h=>by
    rw [Aq,bF _ _ _ _ (by rw [kn];omega),oD u j i (by omega)]
    by_cases e : i=j
    · subst e
      rw [if_pos rfl,if_pos (by omega)]
    · rw [if_neg e]
      by_cases e2 : j<i
      · rw [if_pos e2,if_pos (by omega)]
      · rw [if_neg e2,if_neg (by omega)]
def lw (u : List By) : Nat→Nat
  | 0=>0
  | k+1=>lw u k+gQ u k * 65536 ^ k
theorem Hg (u : List By) : ∀ k,k≤16→ps (Aq u 16) k=(lw u k : Nat)
  | 0,_=>rfl
  | k+1,h=>by
    show ps (Aq u 16) k+nth (Aq u 16) k * 65536 ^ k=((lw u k+gQ u k * 65536 ^ k : Nat) : Int)
    rw [Hg u k (by omega),oD u k 16 (by omega),if_pos (by omega)]
    simp
theorem Hh (u : List By) : ∀ k,lw u k<65536 ^ k
  | 0=>by show 0<65536 ^ 0;rw [Nat.pow_zero];omega
  | k+1=>by
    have ih:=Hh u k
    have w:=rR u k
    have m:=Nat.mul_le_mul_right (65536 ^ k) (Nat.le_of_lt_succ (show gQ u k<65535+1 by omega))
    show lw u k+gQ u k * 65536 ^ k<65536 ^ (k+1)
    rw [Nat.pow_succ]
    omega
theorem Hi (u : List By) (hu : u.length=32) : ∀ k,k≤16→le u=lw u k+65536 ^ k * le (u.drop (2 * k))
  | 0,_=>by rw [lw,Nat.zero_add,Nat.pow_zero,Nat.one_mul,Nat.mul_zero,List.drop_zero]
  | k+1,h=>by
    rw [Hi u hu k (by omega)]
    have e1 : u.drop (2 * k)=u.getD (2 * k) 0::u.getD (2 * k+1) 0::u.drop (2 * (k+1)):=by
      rw [List.drop_eq_getElem_cons (by omega),List.drop_eq_getElem_cons (by omega)]
      simp only [List.getD_eq_getElem?_getD,List.getElem?_eq_getElem (show 2 * k<u.length by omega),List.getElem?_eq_getElem (show 2 * k+1<u.length by omega),Option.getD_some]
      rfl
    rw [e1]
    show lw u k+65536 ^ k * ((u.getD (2 * k) 0).toNat+256 * ((u.getD (2 * k+1) 0).toNat+256 * le (u.drop (2 * (k+1)))))=lw u k+gQ u k * 65536 ^ k+65536 ^ (k+1) * le (u.drop (2 * (k+1)))
    have e2 : (u.getD (2 * k) 0).toNat+256 * ((u.getD (2 * k+1) 0).toNat+256 * le (u.drop (2 * (k+1))))=gQ u k+65536 * le (u.drop (2 * (k+1))):=by unfold gQ;omega
    rw [e2,Nat.mul_add,Nat.pow_succ,Nat.mul_comm (gQ u k),Nat.mul_assoc,Nat.add_assoc]
theorem FP (M x y : Nat) (hy : y<M) : (y+x * M) % (32768 * M)=y+(x % 32768) * M:=by
  have e : y+x * M=(y+(x % 32768) * M)+(x / 32768) * (32768 * M):=by
    have h : x=x % 32768+(x / 32768) * 32768:=by omega
    rw [Nat.add_assoc,← Nat.mul_assoc,← Nat.add_mul,← h]
  have l : (x % 32768) * M≤32767 * M:=Nat.mul_le_mul_right M (by omega)
  have l2 : 32768 * M=32767 * M+M:=by omega
  rw [e,Nat.add_mul_mod_self_right,Nat.mod_eq_of_lt (by omega)]
def top : Nat:=32768 * 65536 ^ 15
theorem BL (u : List By) (hu : u.length=32) : val (iK u)=((le u % top : Nat) : Int):=by
  have e:=Hi u hu 16 (by omega)
  have e0 : u.drop (2 * 16)=[]:=List.drop_eq_nil_of_le (by omega)
  have e1 : lw u 16=lw u 15+gQ u 15 * 65536 ^ 15:=rfl
  have e2:=Hh u 15
  rw [e0] at e
  have e3 : le u=lw u 15+gQ u 15 * 65536 ^ 15:=by
    rw [e,← e1]
    show lw u 16+65536 ^ 16 * 0=lw u 16
    rw [Nat.mul_zero,Nat.add_zero]
  rw [e3,top,FP _ _ _ e2,iK,fZ _ _ _ (by rw [kn];omega),oD u 15 16 (by omega),if_pos (by omega),gI _ 16 (by rw [kn];omega),Hg u 16 (by omega),e1]
  clear e e0 e1 e2 e3
  generalize gQ u 15=x
  generalize lw u 15=y
  rw [Int.natCast_add,Int.natCast_add,Int.natCast_mul,Int.natCast_mul,Int.natCast_pow,Int.sub_mul]
  rw [show ((65536 : Nat) : Int)=65536 from rfl]
  generalize (65536 : Int) ^ 15=M
  omega
theorem nL (u : List By) : Good (iK u):=by
  have n : ∀ j,j<16→0≤nth (iK u) j∧nth (iK u) j≤65535:=fun j hj=>by
    have a:=rR u j
    have b:=rR u 15
    rw [iK,bF _ _ _ _ (by rw [kn];omega),oD u j 16 (by omega),if_pos hj]
    split <;> omega
  refine ⟨by rw [iK,List.length_set,kn],?_,fun j _ h=>n j h⟩
  have:=n 0 (by omega)
  omega
def pt (u : List By) : F:=fi ((le u % top : Nat) : Int)
theorem DQ (u : List By) (hu : u.length=32) : fv (iK u)=pt u:=by rw [fv,BL u hu];rfl
def kO : List Int:=1::List.replicate 15 0
theorem pF : Good kO:=⟨rfl,by decide,fun j h0 h1=>by rw [show kO=BK 1 0 from rfl,gf _ _ _ h1,if_neg (by omega)];omega⟩
theorem Ar : fv kO=1:=by decide +kernel
def fO (a : List Int) : Nat→List Int
  | 0=>kO
  | n+1=>if n=252∨n=250 then mulL (fO a n) (fO a n) else mulL (mulL (fO a n) (fO a n)) a
def vg : Nat→Nat
  | 0=>0
  | n+1=>if n=252∨n=250 then 2 * vg n else 2 * vg n+1
theorem jK {a : List Int} (ha : Good a) : ∀ n,Good (fO a n)
  | 0=>pF
  | n+1=>by
    have ih:=jK ha n
    rw [fO]
    split
    · exact aI ih ih
    · exact aI (aI ih ih) ha
theorem As {a : List Int} (ha : Good a) : ∀ n,fv (fO a n)=pw (fv a) (vg n)
  | 0=>Ar
  | n+1=>by
    have ih:=As ha n
    have g:=jK ha n
    rw [fO,vg]
    have e : pw (fv a) (2 * vg n)=pw (fv a) (vg n) * pw (fv a) (vg n):=by rw [Nat.two_mul,pB]
    split
    · rw [qD g.len g.len,ih,e]
    · rw [qD (aI g g).len ha.len,qD g.len g.len,ih]
      show _=pw (fv a) (2 * vg n) * fv a
      rw [e]
theorem DR : vg 255=P - 2:=by decide +kernel
theorem FQ {a : List Int} (ha : Good a) : fv (fO a 255)=inv (fv a):=by rw [As ha,DR];rfl
end dO
end
section
set_option maxRecDepth 10000
open Sl dO
theorem yZ : aK Tryz.prog 48:=⟨_,Tryz.func48,rfl,by kernel_rfl⟩
theorem BM : aK Tryz.prog 53:=⟨_,Tryz.func53,rfl,by kernel_rfl⟩
theorem aB : dJ Tryz.prog 23=some 32:=by kernel_rfl
theorem aP : gm Tryz.prog 23=true:=by kernel_rfl
theorem vS : dJ Tryz.prog 5=some 1:=by kernel_rfl
theorem FR : ie Tryz.prog 5=true:=by kernel_rfl
theorem ko {l : List By} {i : Nat} (h : i<l.length) : (l.map U8)[i]?=some (U8 (l.getD i 0)):=by
  simp [h]
section
variable {P : Program} {n : Nat} {E : Env} {C : World→Prop} {dst : Option Tmp} {ty t t' : TypeId} {pos : String} {aft : Array Edge} {g : Option (Nat × Bool)} {x y : Operand}
theorem OQ.Hj {k : IntKind} {a b : Int} (hx : ev E x=some (.int k a)) (hy : ev E y=some (.int k b)) (h : ¬ a=b) : OQ P n E C ⟨dst,.binOp .neq t x y t',ty,pos,aft,g⟩ (.bool true):=by
  have e : (!decide (a=b))=true:=by rw [decide_eq_false h];rfl
  exact e ▸ OQ.JB hx hy
end
set_option maxHeartbeats 8000000 in
theorem BN (u : List By) (hu : u.length=32) (w : World) : Calls Tryz.prog 48 [.agg (u.map U8).toArray].toArray w fun e w'=>e=.returned (.agg ((iK u).map I).toArray)∧Ext w w':=by
  refine enter (n:=30) Tryz.func48 rfl rfl rfl (ah.start w []) ?_
  repeat (first | refine JC.seq ?_ | refine JC.region ?_)
  refine JL.box (r:=u.map U8) rfl rfl rfl fun b1 _=>?_
  refine JL.alloc jq rfl fun b2 _=>?_
  repeat (first | refine JC.seq ?_ | refine JC.region ?_ | refine JL.nil ?_ | refine JE.next ?_)
  refine JL.q (OQ.pure (v:=.agg ((Aq u 0).map I).toArray) rfl rfl (by kernel_rfl)) rfl ?_
  refine JL.alloc jq rfl fun b3 _=>?_
  refine JL.ag bg rfl rfl rfl (bE _) .here (by simp) ?_
  repeat (first | refine JL.q (by (apply OQ.assign;rfl)) rfl ?_ | refine JC.seq ?_ | refine JC.region ?_ | refine JC.block ?_ | refine JL.nil ?_ | refine JE.next ?_)
  refine JC.loop (fun i : Nat=>[(1,Pt b1 0),(2,Pt b2 0),(3,Pt b3 0),(4,N i)])
    (fun i=>[⟨b3,Row 97 ((Aq u i).map I),true⟩,⟨b2,Row 97 ((List.replicate 16 (0 : Int)).map I),true⟩,⟨b1,Row 23 (u.map U8),true⟩])
    (fun i=>16 - i) (fun i=>i≤16) 0 (by omega) (by repeat (first | exact ai.nil | refine ai.cons _ _ _ rfl ?_)) (aq.refl _) ?_
  intro i hi
  have len:=kn u i
  repeat (first | refine JL.q (by first|(apply OQ.move;rfl)|(apply OQ.bJ;rfl;rfl)) rfl ?_ | refine JC.seq ?_ | refine JC.region ?_ | refine JL.nil ?_ | refine JE.next ?_)
  refine JC.cond rfl (fun h=>?_) (fun h=>?_)
  · have hi' : i<16:=of_decide_eq_true h
    clear h hi
    have hc:=ko (l:=u) (i:=2 * i) (by omega)
    have hd:=ko (l:=u) (i:=2 * i+1) (by omega)
    have q1:=(u.getD (2 * i) 0).isLt
    have q2:=(u.getD (2 * i+1) 0).isLt
    repeat (first | refine JC.seq ?_ | refine JC.block ?_ | refine JC.skip ?_ | refine JE.next ?_)
    refine JC.tail 15 eD (by kernel_rfl) ?_
    simp only [List.take_succ_cons,List.take_zero,List.drop_succ_cons,List.drop_zero]
    repeat (first | refine JQ.q (by first|(apply OQ.aD;exact Tryz.underlying23;exact vS;rfl;rfl;exact (by (try simp only []);omega))|(apply OQ.aD;exact Tryz.underlying97;exact kP;rfl;rfl;exact (by (try simp only []);omega))|(apply OQ.load;exact FR;rfl;exact (.there (.there .here));exact (Row.cell hc))|(apply OQ.load;exact FR;rfl;exact (.there (.there .here));exact (Row.cell hd))|(apply OQ.zQ;rfl;rfl;rfl)|(apply OQ.move;rfl)|(apply OQ.aY;rfl;rfl;exact (by (try simp only []);omega))|(apply OQ.iB;rfl;rfl;exact (by (try simp only []);omega))) rfl ?_ | refine JQ.bC ?_)
    refine JL.az (r':=(Aq u (i+1)).map I) kP rfl rfl rfl rfl .here (by rw [List.length_map,len];(try simp only []);omega) (iG _ _ _) ?_
    repeat (first | refine JL.q (by first|(apply OQ.move;rfl)|(apply OQ.assign;rfl)|(apply OQ.aY;rfl;rfl;exact (by (try simp only []);omega))) rfl ?_ | refine JC.region ?_ | refine JL.nil ?_ | refine JE.next ?_ | refine JE.an ?_)
    exact JE.again (i:=i) (i+1) (by omega) (by omega) (by repeat (first | exact ai.nil | refine ai.cons _ _ _ rfl ?_)) (aq.refl _)
  · have hi' : ¬ i<16:=of_decide_eq_false h
    obtain rfl : i=16:=by omega
    clear h hi hi'
    have hc : ((Aq u 16).map I)[15]?=some (N (gQ u 15)):=by
      rw [fR (by rw [len];decide),oD u 15 16 (by omega)]
      rfl
    have hl' : ((iK u).map I).length=16:=by rw [List.length_map];exact (nL u).len
    repeat (first | refine JL.q (by first|(apply OQ.aD;exact Tryz.underlying97;exact kP;rfl;rfl;exact (by decide))|(apply OQ.load;exact qC;rfl;exact .here;exact (Row.cell hc))|(apply OQ.AZ;rfl;rfl;exact (by (try simp only []);omega))) rfl ?_ | refine JC.seq ?_ | refine JC.region ?_ | refine JC.exit ?_ | refine JE.next ?_ | refine JE.ax ?_ | refine JE.aA ?_)
    refine JL.az (r':=(iK u).map I) kP rfl rfl rfl rfl .here (by rw [List.length_map,len];decide) (iG _ _ _) ?_
    repeat (first | refine JL.q (by (apply OQ.af (cs:=(iK u).map I);exact cu;exact bg;rfl;exact .here;exact hl';exact Row.all)) rfl ?_ | refine JC.seq ?_ | refine JC.region ?_ | refine JL.nil ?_ | refine JE.next ?_)
    refine JL.ag bg rfl rfl hl' (bE _) (.there .here) (by simp) ?_
    repeat (first | refine JL.nil ?_ | refine JE.next ?_)
    refine JC.ret (JE.aQ rfl (RV.av cu bg rfl (.there .here) hl' Row.all) ?_)
    exact fun w' hw=>⟨rfl,hw.aL⟩
set_option maxHeartbeats 8000000 in
theorem DS (a : List Int) (ha : Good a) (w : World) : Calls Tryz.prog 53 [.agg (a.map I).toArray].toArray w fun e w'=>e=.returned (.agg ((fO a 255).map I).toArray)∧Ext w w':=by
  refine enter (n:=23) Tryz.func53 rfl rfl rfl (ah.start w []) ?_
  repeat (first | refine JC.seq ?_ | refine JC.region ?_)
  refine JL.box (r:=a.map I) rfl rfl rfl fun b1 _=>?_
  refine JL.alloc jq rfl fun b2 _=>?_
  repeat (first | refine JC.seq ?_ | refine JC.region ?_ | refine JL.nil ?_ | refine JE.next ?_)
  refine JL.q (OQ.pure (v:=.agg ((fO a 0).map I).toArray) rfl rfl (by kernel_rfl)) rfl ?_
  refine JL.alloc jq rfl fun b3 _=>?_
  refine JL.ag bg rfl rfl rfl (bE _) .here (by simp) ?_
  repeat (first | refine JL.q (by (apply OQ.assign;rfl)) rfl ?_ | refine JC.seq ?_ | refine JC.region ?_ | refine JC.block ?_ | refine JL.nil ?_ | refine JE.next ?_)
  refine JC.loop (fun i : Nat=>[(1,Pt b1 0),(2,Pt b2 0),(3,Pt b3 0),(4,I (254 - i))])
    (fun i=>[⟨b3,Row 97 ((fO a i).map I),true⟩,⟨b2,Row 97 ((List.replicate 16 (0 : Int)).map I),true⟩,⟨b1,Row 97 (a.map I),true⟩])
    (fun i=>255 - i) (fun i=>i≤255) 0 (by omega) (by repeat (first | exact ai.nil | refine ai.cons _ _ _ rfl ?_)) (aq.refl _) ?_
  intro i hi
  have g0:=jK ha i
  have hl0 : ((fO a i).map I).length=16:=by rw [List.length_map];exact g0.len
  have hla : (a.map I).length=16:=by rw [List.length_map];exact ha.len
  repeat (first | refine JL.q (by first|(apply OQ.CK (b:=0);rfl;rfl)|(apply OQ.move;rfl)) rfl ?_ | refine JC.seq ?_ | refine JC.region ?_ | refine JL.nil ?_ | refine JE.next ?_)
  refine JC.cond rfl (fun h=>?_) (fun h=>?_)
  · have hi' : (0 : Int)≤254 - i:=of_decide_eq_true h
    clear h hi
    have g1:=aI g0 g0
    have c1:=dx _ _ g0 g0
    have c2:=dx _ _ g1 ha
    have hl1 : ((mulL (fO a i) (fO a i)).map I).length=16:=by rw [List.length_map];exact g1.len
    have hl2 : ((mulL (mulL (fO a i) (fO a i)) a).map I).length=16:=by rw [List.length_map];exact (aI g1 ha).len
    have e1 : fO a (i+1)=if i=252∨i=250 then mulL (fO a i) (fO a i) else mulL (mulL (fO a i) (fO a i)) a:=rfl
    generalize mulL (mulL (fO a i) (fO a i)) a=Z at *
    generalize mulL (fO a i) (fO a i)=Y at *
    generalize fO a i=X at *
    repeat (first | refine JL.q (by first|(apply OQ.af (cs:=X.map I);exact cu;exact bg;rfl;exact .here;exact hl0;exact Row.all)|(apply OQ.au (vs:=[.agg (X.map I).toArray,.agg (X.map I).toArray]);exact cw;rfl;exact (fun w' _=>c1 w'))) rfl ?_ | refine JC.seq ?_ | refine JC.region ?_ | refine JC.block ?_ | refine JC.skip ?_ | refine JE.next ?_)
    refine JL.ag (cs:=Y.map I) bg rfl rfl hl1 (bE _) .here (by rw [hl0]) ?_
    by_cases k1 : i=252
    · repeat (first | refine JL.q (by first|(apply OQ.v7;rfl;rfl;exact (by omega))|(apply OQ.dK;rfl;rfl)|(apply OQ.move;rfl)) rfl ?_ | refine JC.seq ?_ | refine JC.region ?_ | refine JL.nil ?_ | refine JE.next ?_ | refine JL.iX rfl rfl rfl rfl ?_)
      refine JC.cond_false rfl rfl ?_
      rw [if_pos (Or.inl k1)] at e1
      rw [← e1]
      repeat (first | refine JL.q (by first|(apply OQ.od (b:=1);rfl;rfl;exact (by omega);exact (by omega))|(apply OQ.move;rfl)|(apply OQ.assign;rfl)) rfl ?_ | refine JC.region ?_ | refine JC.skip ?_ | refine JL.nil ?_ | refine JE.next ?_ | refine JE.an ?_)
      refine JE.again (i:=i) (i+1) (by omega) (by omega) ?_ (aq.refl _)
      rw [show (254 - ((i+1 : Nat) : Int))=254 - (i : Int) - 1 by omega]
      exact (by repeat (first | exact ai.nil | refine ai.cons _ _ _ rfl ?_))
    · by_cases k2 : i=250
      · repeat (first | refine JL.q (by first|(apply OQ.Hj;rfl;rfl;exact (by omega))|(apply OQ.v7;rfl;rfl;exact (by omega))|(apply OQ.eP;rfl;rfl)|(apply OQ.move;rfl)) rfl ?_ | refine JC.seq ?_ | refine JC.region ?_ | refine JL.nil ?_ | refine JE.next ?_ | refine JL.aU rfl rfl ?_)
        refine JC.cond_false rfl rfl ?_
        rw [if_pos (Or.inr k2)] at e1
        rw [← e1]
        repeat (first | refine JL.q (by first|(apply OQ.od (b:=1);rfl;rfl;exact (by omega);exact (by omega))|(apply OQ.move;rfl)|(apply OQ.assign;rfl)) rfl ?_ | refine JC.region ?_ | refine JC.skip ?_ | refine JL.nil ?_ | refine JE.next ?_ | refine JE.an ?_)
        refine JE.again (i:=i) (i+1) (by omega) (by omega) ?_ (aq.refl _)
        rw [show (254 - ((i+1 : Nat) : Int))=254 - (i : Int) - 1 by omega]
        exact (by repeat (first | exact ai.nil | refine ai.cons _ _ _ rfl ?_))
      · repeat (first | refine JL.q (by first|(apply OQ.Hj;rfl;rfl;exact (by omega))|(apply OQ.eP;rfl;rfl)|(apply OQ.move;rfl)) rfl ?_ | refine JC.seq ?_ | refine JC.region ?_ | refine JL.nil ?_ | refine JE.next ?_ | refine JL.aU rfl rfl ?_)
        refine JC.cond_true rfl rfl ?_
        rw [if_neg (by omega)] at e1
        repeat (first | refine JL.q (by first|(apply OQ.af (cs:=Y.map I);exact cu;exact bg;rfl;exact .here;exact hl1;exact Row.all)|(apply OQ.af (cs:=a.map I);exact cu;exact bg;rfl;exact (.there (.there .here));exact hla;exact Row.all)|(apply OQ.au (vs:=[.agg (Y.map I).toArray,.agg (a.map I).toArray]);exact cw;rfl;exact (fun w' _=>c2 w'))) rfl ?_ | refine JC.region ?_)
        refine JL.ag (cs:=Z.map I) bg rfl rfl hl2 (bE _) .here (by rw [hl1]) ?_
        rw [← e1]
        repeat (first | refine JL.q (by first|(apply OQ.od (b:=1);rfl;rfl;exact (by omega);exact (by omega))|(apply OQ.move;rfl)|(apply OQ.assign;rfl)) rfl ?_ | refine JC.region ?_ | refine JL.nil ?_ | refine JE.next ?_ | refine JE.an ?_)
        refine JE.again (i:=i) (i+1) (by omega) (by omega) ?_ (aq.refl _)
        rw [show (254 - ((i+1 : Nat) : Int))=254 - (i : Int) - 1 by omega]
        exact (by repeat (first | exact ai.nil | refine ai.cons _ _ _ rfl ?_))
  · have hi' : ¬ (0 : Int)≤254 - i:=of_decide_eq_false h
    obtain rfl : i=255:=by omega
    clear h hi hi'
    generalize fO a 255=X at *
    repeat (first | refine JL.q (by (apply OQ.af (cs:=X.map I);exact cu;exact bg;rfl;exact .here;exact hl0;exact Row.all)) rfl ?_ | refine JC.seq ?_ | refine JC.region ?_ | refine JC.exit ?_ | refine JE.next ?_ | refine JE.ax ?_ | refine JE.aA ?_)
    refine JL.ag (cs:=X.map I) bg rfl rfl hl0 (bE _) (.there .here) (by simp) ?_
    repeat (first | refine JL.nil ?_ | refine JE.next ?_)
    refine JC.ret (JE.aQ rfl (RV.av cu bg rfl (.there .here) hl0 Row.all) ?_)
    exact fun w' hw=>⟨rfl,hw.aL⟩
end
section
namespace dO
structure Norm (l : List Int) : Prop where
  len : l.length=16
  all : ∀ j,j<16→0≤nth l j∧nth l j≤65535
theorem Norm.y5 {l : List Int} (h : Norm l) : Good l:=⟨h.len,by have:=h.all 0 (by omega);omega,fun j _ hj=>h.all j hj⟩
theorem rS (l : List Int) (i : Nat) (h : i<l.length) : l.set i (nth l i)=l:=by
  unfold nth
  rw [List.getD_eq_getElem?_getD,List.getElem?_eq_getElem h]
  exact List.set_getElem_self h
theorem Norm.ew {l : List Int} (h : Norm l) {i : Nat} (hi : i<16) : dO.ew l i=l:=by
  have a:=h.all i hi
  have q : nth l i / 65536=0:=by omega
  have e : l.set i (nth l i - nth l i / 65536 * 65536)=l:=by
    rw [q,Int.zero_mul,Int.sub_zero,rS _ _ (by rw [h.len];omega)]
  unfold dO.ew
  simp only
  rw [e,q,Int.mul_zero,Int.add_zero,Int.add_zero]
  split
  · exact rS _ _ (by rw [h.len];omega)
  · exact rS _ _ (by rw [h.len];omega)
theorem Norm.e9 {l : List Int} (h : Norm l) : ∀ i,i≤16→dO.e9 l i=l
  | 0,_=>rfl
  | i+1,hi=>by
    show dO.ew (dO.e9 l i) i=l
    rw [h.e9 i (by omega),h.ew (by omega)]
theorem Norm.qg {l : List Int} (h : Norm l) : dO.qg l=l:=h.e9 16 (by omega)
theorem DT (l : List Int) : ∀ k,(∀ j,j<k→0≤nth l j∧nth l j≤65535)→0≤ps l k∧ps l k≤65536 ^ k - 1
  | 0,_=>by show (0 : Int)≤0∧(0 : Int)≤65536 ^ 0 - 1;rw [Int.pow_zero];omega
  | k+1,h=>by
    have ih:=DT l k fun j hj=>h j (by omega)
    have a:=h k (by omega)
    have m : (0 : Int)<65536 ^ k:=Int.pow_pos (by decide)
    show 0≤ps l k+nth l k * 65536 ^ k∧ps l k+nth l k * 65536 ^ k≤65536 ^ (k+1) - 1
    rw [Int.pow_succ]
    generalize (65536 : Int) ^ k=M at *
    have p0:=Int.mul_nonneg a.1 (Int.le_of_lt m)
    have p1:=Int.mul_le_mul_of_nonneg_right a.2 (Int.le_of_lt m)
    omega
theorem rT (l : List Int) : ∀ k,∃ s,ps l (k+1)=nth l 0+65536 * s∧((∀ j,0<j→j<k+1→0≤nth l j∧nth l j≤65535)→0≤s∧s≤65536 ^ k - 1)
  | 0=>⟨0,by show 0+nth l 0 * 65536 ^ 0=_;rw [Int.pow_zero];omega,fun _=>by rw [Int.pow_zero];omega⟩
  | k+1=>by
    obtain ⟨s,e,b⟩:=rT l k
    refine ⟨s+nth l (k+1) * 65536 ^ k,?_,fun h=>?_⟩
    · show ps l (k+1)+nth l (k+1) * 65536 ^ (k+1)=_
      rw [e,Int.pow_succ,Int.mul_add,Int.mul_comm (65536 ^ k) 65536,Int.mul_left_comm,Int.add_assoc]
    · have b:=b fun j h0 h1=>h j h0 (by omega)
      have a:=h (k+1) (by omega) (by omega)
      have m : (0 : Int)<65536 ^ k:=Int.pow_pos (by decide)
      rw [Int.pow_succ]
      generalize (65536 : Int) ^ k=M at *
      have p0:=Int.mul_nonneg a.1 (Int.le_of_lt m)
      have p1:=Int.mul_le_mul_of_nonneg_right a.2 (Int.le_of_lt m)
      omega
theorem BO {M N q r S S' f V S'' f0 : Int} (hM : M=65536 * N) (e1 : S+(q * 65536+r) * M=V) (e2 : S=f+65536 * S') (b0 : 0≤S') (b1 : S'≤N - 1) (hr : 0≤r) (hr2 : r≤65535) (hf : 0≤f) (hf2 : f≤65535)
    (hq : q=-1∨q=0∨q=1) (v0 : V=f0+65536 * S'') (hf0 : -128≤f0) (hf1 : f0≤65663) (c0 : 0≤S'') (c1 : S''≤M - 1) : 0≤f+38 * q∧f+38 * q≤65535:=by
  have m0 : 0≤M:=by omega
  have p0:=Int.mul_nonneg hr m0
  have p1:=Int.mul_le_mul_of_nonneg_right hr2 m0
  rw [Int.add_mul] at e1
  generalize r * M=R at *
  rcases hq with rfl | rfl | rfl
  · rw [show (-1 * 65536 * M : Int)=-(65536 * M) by omega] at e1
    omega
  · omega
  · rw [show (1 * 65536 * M : Int)=65536 * M by omega] at e1
    omega
theorem Good.norm {l : List Int} (h : Good l) : Norm (qg l):=by
  have c:=BJ.all h.len h.Jr 15 (by omega)
  have v:=u7 h.len 15 (by omega)
  have len:=ke l 15
  rw [h.len] at len
  show Norm (ew (e9 l 15) 15)
  obtain ⟨_,done,here,_⟩:=c
  have k1 : hU (BK (-128) 0) 15=-1:=by decide
  have k2 : hU (BK 65663 65535) 15=1:=by decide
  rw [k1,k2,gf _ _ _ (by omega),gf _ _ _ (by omega),if_neg (by omega),if_neg (by omega)] at here
  obtain ⟨S',e2,b2⟩:=rT (e9 l 15) 14
  obtain ⟨S'',e3,b3⟩:=rT l 15
  have b2:=b2 fun j _ hj=>done j hj
  have b3:=b3 fun j h0 hj=>h.rest j h0 hj
  have f0:=h.first
  have d0:=done 0 (by omega)
  rw [gI _ 16 (by omega),gI l 16 (by rw [h.len];omega),e3] at v
  have v1 : ps (e9 l 15) 16=ps (e9 l 15) 15+nth (e9 l 15) 15 * 65536 ^ 15:=rfl
  rw [v1] at v
  have hM : (65536 : Int) ^ 15=65536 * 65536 ^ 14:=by rw [Int.pow_succ,Int.mul_comm]
  have top:=BO (q:=nth (e9 l 15) 15 / 65536) (r:=nth (e9 l 15) 15 % 65536) hM (by rw [show nth (e9 l 15) 15 / 65536 * 65536+nth (e9 l 15) 15 % 65536=nth (e9 l 15) 15 by omega];exact v) e2 b2.1 b2.2 (by omega) (by omega) d0.1 d0.2 (by omega) rfl f0.1 f0.2 b3.1 b3.2
  clear v v1 e2 e3 b2 b3 hM
  generalize e9 l 15=m at *
  unfold ew
  simp only [show ¬ (15 : Nat)<15 by decide,if_false]
  refine ⟨by simp [len],fun j hj=>?_⟩
  have n0 : nth (m.set 15 (nth m 15 - nth m 15 / 65536 * 65536)) 0=nth m 0:=by rw [bF _ _ _ _ (by omega),if_neg (by omega)]
  rw [bF _ 0 j _ (by simp [len]),n0]
  by_cases e : 0=j
  · rw [if_pos e];exact top
  · rw [if_neg e,bF _ 15 j _ (by omega)]
    split
    · omega
    · exact done j (by omega)
def kq (i : Nat) : Int:=if i=15 then 32767 else 65535
def pl (i : Nat) : Int:=if i=0 then 65517 else kq i
def sb (a : List Int) : Nat→List Int
  | 0=>(List.replicate 16 0).set 0 (nth a 0 - 65517)
  | k+1=>((sb a k).set (k+1) (nth a (k+1) - kq (k+1) - nth (sb a k) k / 65536 % 2)).set k (nth ((sb a k).set (k+1) (nth a (k+1) - kq (k+1) - nth (sb a k) k / 65536 % 2)) k % 65536)
structure Jt (a : List Int) (k : Nat) (m : List Int) : Prop where
  len : m.length=16
  done : ∀ j,j<k→0≤nth m j∧nth m j≤65535
  here : -65536≤nth m k∧nth m k≤65535
  zero : ∀ j,k<j→nth m j=0
  sum : val m=ps a (k+1) - ps ((List.range 16).map pl) (k+1)
theorem DU (j : Nat) (h : j<16) : nth ((List.range 16).map pl) j=pl j:=by
  unfold nth
  rw [List.getD_eq_getElem?_getD,List.getElem?_map,List.getElem?_range h];rfl
theorem Jt.all {a : List Int} (h : Norm a) : ∀ k,k≤15→Jt a k (sb a k)
  | 0,_=>by
    have a0:=h.all 0 (by omega)
    refine ⟨rfl,fun j hj=>absurd hj (by omega),?_,fun j hj=>?_,?_⟩
    · show -65536≤nth a 0 - 65517∧nth a 0 - 65517≤65535
      omega
    · rw [sb,bF _ _ _ _ (by simp),if_neg (by omega),iI]
    · rw [sb,fZ _ _ _ (by simp),iI,show val (List.replicate 16 0)=0 by decide]
      show 0+(nth a 0 - 65517 - 0) * 65536 ^ 0=0+nth a 0 * 65536 ^ 0 - (0+nth ((List.range 16).map pl) 0 * 65536 ^ 0)
      rw [DU 0 (by omega),Int.pow_zero,show pl 0=65517 from rfl]
      omega
  | k+1,hk=>by
    have c:=Jt.all h k (by omega)
    obtain ⟨len,done,here,zero,sum⟩:=c
    have ak:=h.all (k+1) (by omega)
    have tp : 32767≤kq (k+1)∧kq (k+1)≤65535:=by unfold kq;split <;> omega
    have z1:=zero (k+1) (by omega)
    rw [sb]
    have n1 : nth ((sb a k).set (k+1) (nth a (k+1) - kq (k+1) - nth (sb a k) k / 65536 % 2)) k=nth (sb a k) k:=by rw [bF _ _ _ _ (by omega),if_neg (by omega)]
    have l1 : ((sb a k).set (k+1) (nth a (k+1) - kq (k+1) - nth (sb a k) k / 65536 % 2)).length=16:=by rw [List.length_set];exact len
    rw [n1]
    refine ⟨by rw [List.length_set];exact l1,fun j hj=>?_,?_,fun j hj=>?_,?_⟩
    · rw [bF _ _ _ _ (by omega),bF _ _ _ _ (by omega)]
      split
      · omega
      · rw [if_neg (by omega)];exact done j (by omega)
    · rw [bF _ _ _ _ (by omega),if_neg (by omega),bF _ _ _ _ (by omega),if_pos rfl]
      omega
    · rw [bF _ _ _ _ (by omega),if_neg (by omega),bF _ _ _ _ (by omega),if_neg (by omega)]
      exact zero j (by omega)
    · rw [fZ _ _ _ (by omega),fZ _ _ _ (by omega),sum,z1,n1]
      show _=ps a (k+1)+nth a (k+1) * 65536 ^ (k+1) - (ps ((List.range 16).map pl) (k+1)+nth ((List.range 16).map pl) (k+1) * 65536 ^ (k+1))
      rw [DU (k+1) (by omega),show pl (k+1)=kq (k+1) by unfold pl;rw [if_neg (by omega)]]
      have b : nth (sb a k) k % 65536 - nth (sb a k) k=(nth (sb a k) k / 65536 % 2) * 65536:=by omega
      rw [b]
      generalize nth (sb a k) k / 65536 % 2=q
      generalize nth a (k+1)=x
      generalize kq (k+1)=y
      rw [Int.pow_succ,Int.sub_zero,Int.mul_assoc q,Int.mul_comm 65536 (65536 ^ k),Int.sub_mul,Int.sub_mul]
      omega
theorem IE : ps ((List.range 16).map pl) 16=(P : Int):=by decide +kernel
def off (a : List Int) : List Int:=if 0≤nth (sb a 15) 15 then sb a 15 else a
theorem oE {a : List Int} (h : Norm a) : Norm (off a):=by
  have c:=Jt.all h 15 (by omega)
  unfold off
  split
  next hp=>
    refine ⟨c.len,fun j hj=>?_⟩
    by_cases e : j=15
    · subst e;exact ⟨hp,c.here.2⟩
    · exact c.done j (by omega)
  next=>exact h
theorem Norm.val {a : List Int} (h : Norm a) : 0≤dO.val a∧dO.val a≤65536 ^ 16 - 1:=by
  rw [gI a 16 (by rw [h.len];omega)]
  exact DT a 16 fun j hj=>h.all j hj
theorem At {a : List Int} (h : Norm a) : dO.val (off a)=if (P : Int)≤dO.val a then dO.val a - P else dO.val a:=by
  have c:=Jt.all h 15 (by omega)
  have s:=c.sum
  rw [IE,← gI a 16 (by rw [h.len];omega)] at s
  have e1 : dO.val (sb a 15)=ps (sb a 15) 15+nth (sb a 15) 15 * 65536 ^ 15:=by rw [gI _ 16 (by rw [c.len];omega)];rfl
  have b:=DT (sb a 15) 15 c.done
  have m : (0 : Int)<65536 ^ 15:=Int.pow_pos (by decide)
  unfold off
  by_cases hp : 0≤nth (sb a 15) 15
  · rw [if_pos hp]
    have q:=Int.mul_nonneg hp (Int.le_of_lt m)
    rw [if_pos (by omega),s]
  · rw [if_neg hp]
    have q:=Int.mul_le_mul_of_nonneg_right (show nth (sb a 15) 15≤-1 by omega) (Int.le_of_lt m)
    rw [if_neg (by omega)]
theorem DV {a : List Int} (h : Norm a) : dO.val (off (off a))=((fv a).val : Int):=by
  have v:=h.val
  rw [At (oE h),At h,fv,kf]
  have e : (65536 : Int) ^ 16=2 * (P : Int)+38:=by decide
  rw [e] at v
  have p : ((P : Nat) : Int)=57896044618658097711785492504343953926634992332820282019728792003956564819949:=rfl
  rw [p] at v ⊢
  generalize dO.val a=x at *
  by_cases h1 : (57896044618658097711785492504343953926634992332820282019728792003956564819949 : Int)≤x
  · rw [if_pos h1]
    by_cases h2 : (57896044618658097711785492504343953926634992332820282019728792003956564819949 : Int)≤x - 57896044618658097711785492504343953926634992332820282019728792003956564819949
    · rw [if_pos h2];omega
    · rw [if_neg h2];omega
  · rw [if_neg h1,if_neg h1];omega
def y6 : Nat→Nat→List By
  | 0,_=>[]
  | k+1,n=>BitVec.ofNat 8 n::y6 k (n / 256)
theorem w7 : ∀ k n,(y6 k n).length=k
  | 0,_=>rfl
  | k+1,n=>by rw [y6,List.length_cons,w7 k]
theorem vh : ∀ b : List By,y6 b.length (le b)=b
  | []=>rfl
  | x::b=>by
    have h:=x.isLt
    show BitVec.ofNat 8 (x.toNat+256 * le b)::y6 b.length ((x.toNat+256 * le b) / 256)=x::b
    have e1 : (x.toNat+256 * le b) / 256=le b:=by omega
    have e2 : BitVec.ofNat 8 (x.toNat+256 * le b)=x:=by
      apply BitVec.eq_of_toNat_eq
      rw [BitVec.toNat_ofNat]
      omega
    rw [e1,e2,vh b]
def lb : List Int→List By
  | []=>[]
  | x::l=>BitVec.ofInt 8 x::BitVec.ofInt 8 (x / 256)::lb l
theorem Hl : ∀ l : List Int,(∀ x ∈ l,0≤x∧x≤65535)→((le (lb l) : Nat) : Int)=val l
  | [],_=>rfl
  | x::l,h=>by
    have hx:=h x (List.mem_cons_self ..)
    have ih:=Hl l fun y hy=>h y (List.mem_cons_of_mem _ hy)
    show (((BitVec.ofInt 8 x).toNat+256 * ((BitVec.ofInt 8 (x / 256)).toNat+256 * le (lb l)) : Nat) : Int)=x+65536 * val l
    rw [← ih]
    have e1 : ((BitVec.ofInt 8 x).toNat : Int)=x % 256:=by rw [BitVec.toNat_ofInt];omega
    have e2 : ((BitVec.ofInt 8 (x / 256)).toNat : Int)=x / 256 % 256:=by rw [BitVec.toNat_ofInt];omega
    omega
theorem y7 : ∀ l : List Int,(lb l).length=2 * l.length
  | []=>rfl
  | x::l=>by
    show (lb l).length+1+1=2 * (l.length+1)
    rw [y7 l];omega
def pG (a : List Int) : List By:=lb (off (off (qg a)))
def sV (x : F) : List By:=y6 32 x.val
theorem BP {a : List Int} (h : Good a) : pG a=sV (fv a):=by
  have n:=h.norm
  have n2:=oE (oE n)
  have v:=DV n
  rw [rO h.len] at v
  have m : ∀ x ∈ off (off (qg a)),0≤x∧x≤65535:=fun x hx=>by
    obtain ⟨j,hj,e⟩:=List.getElem_of_mem hx
    have:=n2.all j (by rw [← n2.len];exact hj)
    unfold nth at this
    rw [List.getD_eq_getElem?_getD,List.getElem?_eq_getElem hj,e] at this
    exact this
  have e:=Hl _ m
  rw [v] at e
  have e2 : le (pG a)=(fv a).val:=by
    unfold pG
    omega
  have l : (pG a).length=32:=by rw [pG,y7,n2.len]
  rw [sV,← e2,← l,vh]
def vi (a : List Int) : Nat→List Int
  | 0=>a
  | n+1=>off (vi a n)
theorem ud {a : List Int} (h : Norm a) : ∀ n,Norm (vi a n)
  | 0=>h
  | n+1=>oE (ud h n)
def wb (a : List Int) : Nat→List By
  | 0=>List.replicate 32 0
  | i+1=>((wb a i).set (2 * i) (BitVec.ofInt 8 (nth a i))).set (2 * i+1) (BitVec.ofInt 8 (nth a i / 256))
theorem vj (a : List Int) : ∀ i,(wb a i).length=32
  | 0=>rfl
  | i+1=>by rw [wb,List.length_set,List.length_set,vj a i]
theorem DW : ∀ (a : List Int) (i : Nat),i<a.length→(lb a)[2 * i]?=some (BitVec.ofInt 8 (nth a i))∧(lb a)[2 * i+1]?=some (BitVec.ofInt 8 (nth a i / 256))
  | [],i,h=>absurd h (by simp)
  | x::l,0,_=>⟨rfl,rfl⟩
  | x::l,i+1,h=>by
    have ih:=DW l i (by simpa using h)
    show (BitVec.ofInt 8 x::BitVec.ofInt 8 (x / 256)::lb l)[2 * i+1+1]?=some (BitVec.ofInt 8 (nth l i))∧(BitVec.ofInt 8 x::BitVec.ofInt 8 (x / 256)::lb l)[2 * i+1+1+1]?=some (BitVec.ofInt 8 (nth l i / 256))
    rw [List.getElem?_cons_succ,List.getElem?_cons_succ,List.getElem?_cons_succ,List.getElem?_cons_succ]
    exact ih
theorem DX (a : List Int) (ha : a.length=16) : ∀ i,i≤16→∀ j,j<2 * i→(wb a i)[j]?=(lb a)[j]?
  | 0,_,j,h=>absurd h (by omega)
  | i+1,hi,j,h=>by
    have ih:=DX a ha i (by omega)
    have g:=DW a i (by omega)
    have l:=vj a i
    rw [wb,List.getElem?_set,List.getElem?_set,List.length_set]
    by_cases e1 : 2 * i+1=j
    · subst e1
      rw [if_pos rfl,if_pos (by omega),g.2]
    · rw [if_neg e1]
      by_cases e2 : 2 * i=j
      · subst e2
        rw [if_pos rfl,if_pos (by omega),g.1]
      · rw [if_neg e2]
        exact ih j (by omega)
theorem IF (a : List Int) (ha : a.length=16) : wb a 16=lb a:=by
  apply List.ext_getElem?
  intro j
  by_cases h : j<32
  · exact DX a ha 16 (by omega) j (by omega)
  · rw [List.getElem?_eq_none (by rw [vj];omega),List.getElem?_eq_none (by rw [y7];omega)]
end dO
end
section
set_option maxRecDepth 10000
open Sl dO
theorem w8 : aK Tryz.prog 52:=⟨_,Tryz.func52,rfl,by kernel_rfl⟩
theorem gR : zc Tryz.prog 23=some ((List.replicate 32 (0 : By)).map U8):=by kernel_rfl
theorem aV (l : List By) : (l.map U8).all Value.oneCell'=true:=by simp [Value.oneCell']
theorem rU (l : List By) (i : Nat) (x : By) : (l.map U8).set i (U8 x)=(l.set i x).map U8:=by rw [List.map_set]
section
variable {P : Program} {n : Nat} {E : Env} {C : World→Prop} {dst : Option Tmp} {ty t t' : TypeId} {pos : String} {aft : Array Edge} {g : Option (Nat × Bool)} {x y : Operand}
theorem OQ.Au {a : Nat} (hx : ev E x=some (N (a+1))) (hy : ev E y=some (N 1)) (h : a<1000000) : OQ P n E C ⟨dst,.binOp .sub t x y t',ty,pos,aft,g⟩ (N a):=
  OQ.jk hx hy (by omega) (by omega)
end
theorem Good.fit {l : List Int} (h : Good l) : Fit l:=Fit.ve h.wide (by decide)
set_option maxHeartbeats 16000000 in
theorem y8 (a : List Int) (ha : Good a) (w : World) : Calls Tryz.prog 52 [.agg (a.map I).toArray].toArray w fun e w'=>e=.returned (.agg ((sV (fv a)).map U8).toArray)∧Ext w w':=by
  have nA:=ha.norm
  have c1:=iu a ha.len (Good.fit ha)
  have c2:=iu (qg a) nA.len (Good.fit nA.y5)
  rw [nA.qg] at c2
  have eW:=BP ha
  rw [pG] at eW
  have hla : (a.map I).length=16:=by rw [List.length_map];exact ha.len
  have hlA : ((qg a).map I).length=16:=by rw [List.length_map];exact nA.len
  generalize hA : qg a=A at nA c1 c2 eW hlA
  clear hA
  refine enter (n:=78) Tryz.func52 rfl rfl rfl (ah.start w []) ?_
  repeat (first | refine JC.seq ?_ | refine JC.region ?_)
  refine JL.box (r:=a.map I) rfl rfl rfl fun b1 _=>?_
  refine JL.alloc gR rfl fun b2 _=>?_
  repeat (first | refine JL.q (by first|(apply OQ.af (cs:=a.map I);exact cu;exact bg;rfl;exact (.there .here);exact hla;exact Row.all)|(apply OQ.au (vs:=[.agg (a.map I).toArray]);exact gy;rfl;exact (fun w' _=>c1 w'))|(apply OQ.au (vs:=[.agg (A.map I).toArray]);exact gy;rfl;exact (fun w' _=>c2 w'))) rfl ?_ | refine JC.seq ?_ | refine JC.region ?_ | refine JL.nil ?_ | refine JE.next ?_)
  refine JL.ag (cs:=A.map I) bg rfl rfl hlA (bE _) (.there .here) (by rw [hla]) ?_
  repeat (first | refine JL.q (by (apply OQ.assign;rfl)) rfl ?_ | refine JC.seq ?_ | refine JC.region ?_ | refine JC.block ?_ | refine JL.nil ?_ | refine JE.next ?_)
  refine JC.loop (fun n : Nat=>[(1,Pt b1 0),(2,Pt b2 0),(3,N n)])
    (fun n=>[⟨b2,Row 23 ((List.replicate 32 (0 : By)).map U8),true⟩,⟨b1,Row 97 ((vi A n).map I),true⟩])
    (fun n=>2 - n) (fun n=>n≤2) 0 (by omega) (by repeat (first | exact ai.nil | refine ai.cons _ _ _ rfl ?_)) (aq.refl _) ?_
  intro n hn
  have nX:=ud nA n
  have eX : vi A (n+1)=off (vi A n):=rfl
  have hlX : ((vi A n).map I).length=16:=by rw [List.length_map];exact nX.len
  repeat (first | refine JL.q (by first|(apply OQ.move;rfl)|(apply OQ.bJ;rfl;rfl)) rfl ?_ | refine JC.seq ?_ | refine JC.region ?_ | refine JL.nil ?_ | refine JE.next ?_)
  refine JC.cond rfl (fun h=>?_) (fun h=>?_)
  · have hn' : n<2:=of_decide_eq_true h
    clear h hn
    generalize vi A n=X at *
    have hd0:=fR (l:=X) (i:=0) (by rw [nX.len];omega)
    have x0:=nX.all 0 (by omega)
    repeat (first | refine JC.seq ?_ | refine JC.region ?_ | refine JC.block ?_ | refine JC.skip ?_ | refine JE.next ?_)
    refine JL.q (OQ.pure (v:=.agg ((List.replicate 16 (0 : Int)).map I).toArray) rfl rfl (by kernel_rfl)) rfl ?_
    refine JL.alloc jq rfl fun b4 _=>?_
    refine JL.ag bg rfl rfl rfl (bE _) .here (by simp) ?_
    repeat (first | refine JL.q (by first|(apply OQ.aD;exact Tryz.underlying97;exact kP;rfl;rfl;exact (by decide))|(apply OQ.load;exact qC;rfl;exact (.there (.there .here));exact (Row.cell hd0))|(apply OQ.od (b:=65517);rfl;rfl;exact (by omega);exact (by omega))) rfl ?_ | refine JC.seq ?_ | refine JC.region ?_ | refine JL.nil ?_ | refine JE.next ?_)
    refine JL.az (r':=(sb X 0).map I) kP rfl rfl rfl rfl .here (by simp) (iG _ _ _) ?_
    repeat (first | refine JL.q (by (apply OQ.assign;rfl)) rfl ?_ | refine JC.seq ?_ | refine JC.region ?_ | refine JC.block ?_ | refine JL.nil ?_ | refine JE.next ?_)
    refine JC.loop (fun k : Nat=>[(1,Pt b1 0),(2,Pt b2 0),(3,N n),(4,Pt b4 0),(5,N (k+1))])
      (fun k=>[⟨b4,Row 97 ((sb X k).map I),true⟩,⟨b2,Row 23 ((List.replicate 32 (0 : By)).map U8),true⟩,⟨b1,Row 97 (X.map I),true⟩])
      (fun k=>15 - k) (fun k=>k≤15) 0 (by omega) (by repeat (first | exact ai.nil | refine ai.cons _ _ _ rfl ?_)) (aq.refl _) ?_
    intro k hk
    have c:=Jt.all nX k hk
    repeat (first | refine JL.q (by first|(apply OQ.move;rfl)|(apply OQ.bJ;rfl;rfl)) rfl ?_ | refine JC.seq ?_ | refine JC.region ?_ | refine JL.nil ?_ | refine JE.next ?_)
    refine JC.cond rfl (fun h=>?_) (fun h=>?_)
    · have hk' : k+1<16:=of_decide_eq_true h
      clear h hk
      have hc:=fR (l:=sb X k) (i:=k) (by rw [c.len];omega)
      have hd:=fR (l:=X) (i:=k+1) (by rw [nX.len];omega)
      have xk:=nX.all (k+1) (by omega)
      have ck:=c.here
      have e1 : sb X (k+1)=((sb X k).set (k+1) (nth X (k+1) - kq (k+1) - nth (sb X k) k / 65536 % 2)).set k (nth ((sb X k).set (k+1) (nth X (k+1) - kq (k+1) - nth (sb X k) k / 65536 % 2)) k % 65536):=rfl
      have l1 : ((sb X k).set (k+1) (nth X (k+1) - kq (k+1) - nth (sb X k) k / 65536 % 2)).length=16:=by rw [List.length_set];exact c.len
      have he:=fR (l:=(sb X k).set (k+1) (nth X (k+1) - kq (k+1) - nth (sb X k) k / 65536 % 2)) (i:=k) (by omega)
      generalize hm1 : (sb X k).set (k+1) (nth X (k+1) - kq (k+1) - nth (sb X k) k / 65536 % 2)=m1 at e1 l1 he
      repeat (first | refine JL.q (by first|(apply OQ.move;rfl)|(apply OQ.assign;rfl)) rfl ?_ | refine JC.seq ?_ | refine JC.region ?_ | refine JC.block ?_ | refine JC.skip ?_ | refine JL.nil ?_ | refine JE.next ?_)
      by_cases k15 : k+1=15
      · have kI : ((k+1 : Nat) : Int)=15:=by omega
        have t1 : kq (k+1)=32767:=by unfold kq;rw [if_pos k15]
        repeat (first | refine JL.q (by (apply OQ.GH;rfl;rfl;exact kI)) rfl ?_ | refine JL.nil ?_ | refine JE.next ?_)
        refine JC.cond_true rfl rfl ?_
        repeat (first | refine JL.q (by first|(apply OQ.Au;rfl;rfl;exact (by omega))|(apply OQ.aD;exact Tryz.underlying97;exact kP;rfl;rfl;exact (by (try simp only []);omega))|(apply OQ.load;exact qC;rfl;exact .here;exact (Row.cell hc))|(apply OQ.load;exact qC;rfl;exact (.there (.there .here));exact (Row.cell hd))|(apply OQ.E6 (m:=65536) (k:=16);exact (by decide);exact (by decide);rfl;rfl)|(apply OQ.E7 (k:=1) (m:=1) (r:=2);exact (by decide);exact (by decide);exact (by decide);rfl;rfl)|(apply OQ.od;rfl;rfl;exact (by omega);exact (by omega))|(apply OQ.move;rfl)|(apply OQ.assign;rfl)) rfl ?_ | refine JC.seq ?_ | refine JC.region ?_ | refine JL.nil ?_ | refine JE.next ?_)
        refine JL.az (r:=(sb X k).map I) (r':=m1.map I) kP rfl rfl rfl rfl .here (by rw [List.length_map,c.len];(try simp only []);omega) (by rw [iG,← hm1,t1]) ?_
        repeat (first | refine JL.q (by first|(apply OQ.Au;rfl;rfl;exact (by omega))|(apply OQ.aD;exact Tryz.underlying97;exact kP;rfl;rfl;exact (by (try simp only []);omega))|(apply OQ.load;exact qC;rfl;exact .here;exact (Row.cell he))|(apply OQ.E7 (k:=16) (m:=65535) (r:=65536);exact (by decide);exact (by decide);exact (by decide);rfl;rfl)|(apply OQ.move;rfl)) rfl ?_ | refine JC.region ?_ | refine JL.nil ?_ | refine JE.next ?_)
        refine JL.az (r':=(sb X (k+1)).map I) kP rfl rfl rfl rfl .here (by rw [List.length_map,l1];(try simp only []);omega) (by rw [iG,e1]) ?_
        repeat (first | refine JL.q (by first|(apply OQ.move;rfl)|(apply OQ.assign;rfl)|(apply OQ.aY;rfl;rfl;exact (by (try simp only []);omega))) rfl ?_ | refine JC.region ?_ | refine JL.nil ?_ | refine JE.next ?_ | refine JE.an ?_)
        exact JE.again (i:=k) (k+1) (by omega) (by omega) (by repeat (first | exact ai.nil | refine ai.cons _ _ _ rfl ?_)) (aq.refl _)
      · have kI : ¬ ((k+1 : Nat) : Int)=15:=by omega
        have t2 : kq (k+1)=65535:=by unfold kq;rw [if_neg k15]
        repeat (first | refine JL.q (by (apply OQ.JI;rfl;rfl;exact kI)) rfl ?_ | refine JL.nil ?_ | refine JE.next ?_)
        refine JC.cond_false rfl rfl ?_
        repeat (first | refine JL.q (by first|(apply OQ.Au;rfl;rfl;exact (by omega))|(apply OQ.aD;exact Tryz.underlying97;exact kP;rfl;rfl;exact (by (try simp only []);omega))|(apply OQ.load;exact qC;rfl;exact .here;exact (Row.cell hc))|(apply OQ.load;exact qC;rfl;exact (.there (.there .here));exact (Row.cell hd))|(apply OQ.E6 (m:=65536) (k:=16);exact (by decide);exact (by decide);rfl;rfl)|(apply OQ.E7 (k:=1) (m:=1) (r:=2);exact (by decide);exact (by decide);exact (by decide);rfl;rfl)|(apply OQ.od;rfl;rfl;exact (by omega);exact (by omega))|(apply OQ.move;rfl)|(apply OQ.assign;rfl)) rfl ?_ | refine JC.seq ?_ | refine JC.region ?_ | refine JC.skip ?_ | refine JL.nil ?_ | refine JE.next ?_)
        refine JL.az (r:=(sb X k).map I) (r':=m1.map I) kP rfl rfl rfl rfl .here (by rw [List.length_map,c.len];(try simp only []);omega) (by rw [iG,← hm1,t2]) ?_
        repeat (first | refine JL.q (by first|(apply OQ.Au;rfl;rfl;exact (by omega))|(apply OQ.aD;exact Tryz.underlying97;exact kP;rfl;rfl;exact (by (try simp only []);omega))|(apply OQ.load;exact qC;rfl;exact .here;exact (Row.cell he))|(apply OQ.E7 (k:=16) (m:=65535) (r:=65536);exact (by decide);exact (by decide);exact (by decide);rfl;rfl)|(apply OQ.move;rfl)) rfl ?_ | refine JC.region ?_ | refine JL.nil ?_ | refine JE.next ?_)
        refine JL.az (r':=(sb X (k+1)).map I) kP rfl rfl rfl rfl .here (by rw [List.length_map,l1];(try simp only []);omega) (by rw [iG,e1]) ?_
        repeat (first | refine JL.q (by first|(apply OQ.move;rfl)|(apply OQ.assign;rfl)|(apply OQ.aY;rfl;rfl;exact (by (try simp only []);omega))) rfl ?_ | refine JC.region ?_ | refine JL.nil ?_ | refine JE.next ?_ | refine JE.an ?_)
        exact JE.again (i:=k) (k+1) (by omega) (by omega) (by repeat (first | exact ai.nil | refine ai.cons _ _ _ rfl ?_)) (aq.refl _)
    · have hk' : ¬ k+1<16:=of_decide_eq_false h
      obtain rfl : k=15:=by omega
      clear h hk hk'
      have hc:=fR (l:=sb X 15) (i:=15) (by rw [c.len];omega)
      have hlS : ((sb X 15).map I).length=16:=by rw [List.length_map];exact c.len
      have eO : off X=if 0≤nth (sb X 15) 15 then sb X 15 else X:=rfl
      generalize sb X 15=S at *
      repeat (first | refine JL.q (by first|(apply OQ.aD;exact Tryz.underlying97;exact kP;rfl;rfl;exact (by decide))|(apply OQ.load;exact qC;rfl;exact .here;exact (Row.cell hc))|(apply OQ.CK (b:=0);rfl;rfl)) rfl ?_ | refine JC.seq ?_ | refine JC.region ?_ | refine JC.exit ?_ | refine JL.nil ?_ | refine JE.next ?_ | refine JE.ax ?_ | refine JE.aA ?_)
      refine JC.cond rfl (fun h=>?_) (fun h=>?_)
      · have hp : 0≤nth S 15:=of_decide_eq_true h
        rw [if_pos hp,← eX] at eO
        repeat (first | refine JL.q (by (apply OQ.af (cs:=S.map I);exact cu;exact bg;rfl;exact .here;exact hlS;exact Row.all)) rfl ?_ | refine JC.region ?_)
        refine JL.ag (cs:=S.map I) bg rfl rfl hlS (bE _) (.there (.there .here)) (by rw [hlX]) ?_
        rw [← eO]
        repeat (first | refine JL.q (by first|(apply OQ.move;rfl)|(apply OQ.assign;rfl)|(apply OQ.aY;rfl;rfl;exact (by (try simp only []);omega))) rfl ?_ | refine JC.region ?_ | refine JL.nil ?_ | refine JE.next ?_ | refine JE.an ?_)
        exact JE.again (i:=n) (n+1) (by omega) (by omega) (by repeat (first | exact ai.nil | refine ai.cons _ _ _ rfl ?_)) (.drop _ _ _ (aq.refl _))
      · have hp : ¬ 0≤nth S 15:=of_decide_eq_false h
        rw [if_neg hp,← eX] at eO
        rw [← eO]
        repeat (first | refine JL.q (by first|(apply OQ.move;rfl)|(apply OQ.assign;rfl)|(apply OQ.aY;rfl;rfl;exact (by (try simp only []);omega))) rfl ?_ | refine JC.region ?_ | refine JC.skip ?_ | refine JL.nil ?_ | refine JE.next ?_ | refine JE.an ?_)
        exact JE.again (i:=n) (n+1) (by omega) (by omega) (by repeat (first | exact ai.nil | refine ai.cons _ _ _ rfl ?_)) (.drop _ _ _ (aq.refl _))
  · have hn' : ¬ n<2:=of_decide_eq_false h
    obtain rfl : n=2:=by omega
    clear h hn hn'
    have eO : vi A 2=off (off A):=rfl
    rw [← eO] at eW
    generalize vi A 2=X at *
    rw [← IF X nX.len] at eW
    repeat (first | refine JC.seq ?_ | refine JC.region ?_ | refine JC.exit ?_ | refine JE.next ?_ | refine JE.ax ?_ | refine JE.aA ?_)
    refine JL.q (OQ.pure (v:=.agg ((wb X 0).map U8).toArray) rfl rfl (by kernel_rfl)) rfl ?_
    refine JL.alloc gR rfl fun b8 _=>?_
    refine JL.ag aB rfl rfl rfl (aV _) .here (by simp) ?_
    repeat (first | refine JL.q (by (apply OQ.assign;rfl)) rfl ?_ | refine JC.seq ?_ | refine JC.region ?_ | refine JC.block ?_ | refine JL.nil ?_ | refine JE.next ?_)
    refine JC.loop (fun i : Nat=>[(1,Pt b1 0),(2,Pt b2 0),(8,Pt b8 0),(9,N i)])
      (fun i=>[⟨b8,Row 23 ((wb X i).map U8),true⟩,⟨b2,Row 23 ((List.replicate 32 (0 : By)).map U8),true⟩,⟨b1,Row 97 (X.map I),true⟩])
      (fun i=>16 - i) (fun i=>i≤16) 0 (by omega) (by repeat (first | exact ai.nil | refine ai.cons _ _ _ rfl ?_)) (aq.refl _) ?_
    intro i hi
    have len:=vj X i
    repeat (first | refine JL.q (by first|(apply OQ.move;rfl)|(apply OQ.bJ;rfl;rfl)) rfl ?_ | refine JC.seq ?_ | refine JC.region ?_ | refine JL.nil ?_ | refine JE.next ?_)
    refine JC.cond rfl (fun h=>?_) (fun h=>?_)
    · have hi' : i<16:=of_decide_eq_true h
      clear h hi
      have hc:=fR (l:=X) (i:=i) (by rw [nX.len];omega)
      repeat (first | refine JL.q (by first|(apply OQ.aD;exact Tryz.underlying97;exact kP;rfl;rfl;exact (by (try simp only []);omega))|(apply OQ.aD;exact Tryz.underlying23;exact vS;rfl;rfl;exact (by (try simp only []);omega))|(apply OQ.load;exact qC;rfl;exact (.there (.there .here));exact (Row.cell hc))|(apply OQ.zP;rfl;rfl;rfl)|(apply OQ.move;rfl)|(apply OQ.iB;rfl;rfl;exact (by (try simp only []);omega))) rfl ?_ | refine JC.seq ?_ | refine JC.region ?_ | refine JC.block ?_ | refine JC.skip ?_ | refine JE.next ?_)
      refine JL.az (r':=((wb X i).set (2 * i) (BitVec.ofInt 8 (nth X i))).map U8) vS rfl rfl rfl rfl .here (by rw [List.length_map,len];(try simp only []);omega) (rU _ _ _) ?_
      repeat (first | refine JL.q (by first|(apply OQ.aD;exact Tryz.underlying97;exact kP;rfl;rfl;exact (by (try simp only []);omega))|(apply OQ.aD;exact Tryz.underlying23;exact vS;rfl;rfl;exact (by (try simp only []);omega))|(apply OQ.load;exact qC;rfl;exact (.there (.there .here));exact (Row.cell hc))|(apply OQ.E6 (m:=256) (k:=8);exact (by decide);exact (by decide);rfl;rfl)|(apply OQ.zP;rfl;rfl;rfl)|(apply OQ.move;rfl)|(apply OQ.aY;rfl;rfl;exact (by (try simp only []);omega))|(apply OQ.iB;rfl;rfl;exact (by (try simp only []);omega))) rfl ?_ | refine JC.region ?_ | refine JL.nil ?_ | refine JE.next ?_)
      refine JL.az (r':=(wb X (i+1)).map U8) vS rfl rfl rfl rfl .here (by rw [List.length_map,List.length_set,len];(try simp only []);omega) (rU _ _ _) ?_
      repeat (first | refine JL.q (by first|(apply OQ.move;rfl)|(apply OQ.assign;rfl)|(apply OQ.aY;rfl;rfl;exact (by (try simp only []);omega))) rfl ?_ | refine JC.region ?_ | refine JL.nil ?_ | refine JE.next ?_ | refine JE.an ?_)
      exact JE.again (i:=i) (i+1) (by omega) (by omega) (by repeat (first | exact ai.nil | refine ai.cons _ _ _ rfl ?_)) (aq.refl _)
    · have hi' : ¬ i<16:=of_decide_eq_false h
      obtain rfl : i=16:=by omega
      clear h hi hi'
      rw [eW] at len ⊢
      have hlk : ((sV (fv a)).map U8).length=32:=by rw [List.length_map];exact len
      repeat (first | refine JL.q (by (apply OQ.af (cs:=(sV (fv a)).map U8);exact aP;exact aB;rfl;exact .here;exact hlk;exact Row.all)) rfl ?_ | refine JC.seq ?_ | refine JC.region ?_ | refine JC.exit ?_ | refine JE.next ?_ | refine JE.ax ?_ | refine JE.aA ?_)
      refine JL.ag (cs:=(sV (fv a)).map U8) aB rfl rfl hlk (aV _) (.there .here) (by simp) ?_
      repeat (first | refine JL.nil ?_ | refine JE.next ?_)
      refine JC.ret (JE.aQ rfl (RV.av aP aB rfl (.there .here) hlk Row.all) ?_)
      exact fun w' hw=>⟨rfl,hw.aL⟩
end
section
namespace dO
theorem iL (x : F) : (sV x).length=32:=w7 32 _
def dA (k : List By) : List By:=(k.set 0 (k.getD 0 0 / 8 * 8)).set 31 ((k.set 0 (k.getD 0 0 / 8 * 8)).getD 31 0 % 64+64)
theorem nM (k : List By) : (dA k).length=k.length:=by rw [dA,List.length_set,List.length_set]
theorem K4 : ∀ b : List By,le b % 2=(b.getD 0 0).toNat % 2
  | []=>rfl
  | x::b=>by
    show (x.toNat+256 * le b) % 2=x.toNat % 2
    omega
theorem Ho : ∀ b : List By,le b<256 ^ b.length
  | []=>by show 0<256 ^ 0;decide
  | x::b=>by
    have ih:=Ho b
    have h:=x.isLt
    show x.toNat+256 * le b<256 ^ (b.length+1)
    rw [Nat.pow_succ]
    omega
theorem iw : ∀ a b : List By,le (a++b)=le a+256 ^ a.length * le b
  | [],b=>by show le b=0+256 ^ 0 * le b;rw [Nat.pow_zero];omega
  | x::a,b=>by
    show x.toNat+256 * le (a++b)=x.toNat+256 * le a+256 ^ (a.length+1) * le b
    rw [iw a b,Nat.pow_succ,Nat.mul_add,Nat.mul_comm (256 ^ a.length) 256,Nat.mul_assoc,Nat.add_assoc]
def aN (k u : List By) : List By:=sV (FH (le (dA k)) (pt u))
theorem y9 : ∀ (b : List By) (i : Nat),(le b).testBit i=(b.getD (i / 8) 0).toNat.testBit (i % 8)
  | [],i=>by
    rw [show le []=0 from rfl,Nat.zero_testBit]
    show false=(0 : By).toNat.testBit (i % 8)
    rw [show (0 : By).toNat=0 from rfl,Nat.zero_testBit]
  | x::b,i=>by
    have ih:=y9 b
    have h:=x.isLt
    have e : le (x::b)=2 ^ 8 * le b+x.toNat:=by show x.toNat+256 * le b=256 * le b+x.toNat;omega
    rw [e,Nat.testBit_two_pow_mul_add _ h]
    by_cases hi : i<8
    · rw [if_pos hi,Nat.div_eq_of_lt hi,Nat.mod_eq_of_lt hi]
      rfl
    · rw [if_neg hi,ih,show i / 8=(i - 8) / 8+1 by omega,show i % 8=(i - 8) % 8 by omega]
      rfl
structure N4 where
  x2 : List Int
  z2 : List Int
  x3 : List Int
  z3 : List Int
def N4.f (s : N4) : L4:=⟨fv s.x2,fv s.z2,fv s.x3,fv s.z3⟩
structure N4.ok (s : N4) : Prop where
  x2 : Good s.x2
  z2 : Good s.z2
  x3 : Good s.x3
  z3 : Good s.z3
def cL : List Int:=56129::1::List.replicate 14 0
theorem mG : Good cL:=⟨rfl,by decide,fun j h0 h1=>by
  unfold cL
  cases j with
  | zero=>omega
  | succ j=>
    cases j with
    | zero=>decide
    | succ j=>
      have : nth (56129::1::List.replicate 14 0) (j+1+1)=0:=iI 14 j
      omega⟩
theorem Kn : fv cL=121665:=by decide +kernel
def qi (x1 : List Int) (s : N4) : N4:=
  let a:=nJ s.x2 s.z2
  let b:=nK s.x2 s.z2
  let c:=nJ s.x3 s.z3
  let d:=nK s.x3 s.z3
  let da:=mulL d a
  let cb:=mulL c b
  let aa:=mulL a a
  let bb:=mulL b b
  let e:=nK aa bb
  ⟨mulL aa bb,mulL e (nJ aa (mulL cL e)),mulL (nJ da cb) (nJ da cb),mulL x1 (mulL (nK da cb) (nK da cb))⟩
def jL (b : Bool) (s : N4) : N4:=if b then ⟨s.x3,s.z3,s.x2,s.z2⟩ else s
theorem oF {s : N4} (h : s.ok) (b : Bool) : (jL b s).ok:=by
  cases b
  · exact h
  · exact ⟨h.x3,h.z3,h.x2,h.z2⟩
theorem Av (s : N4) (b : Bool) : (jL b s).f=swap b s.f:=by cases b <;> rfl
theorem DY {x1 : List Int} {s : N4} (h1 : Good x1) (h : s.ok) : (qi x1 s).ok:=by
  have a:=cv h.x2 h.z2
  have b:=bT h.x2 h.z2
  have c:=cv h.x3 h.z3
  have d:=bT h.x3 h.z3
  have da:=aI d a
  have cb:=aI c b
  have aa:=aI a a
  have bb:=aI b b
  have e:=bT aa bb
  have r1:=aI aa bb
  have r2:=aI e (cv aa (aI mG e))
  have r3:=aI (cv da cb) (cv da cb)
  have r4:=aI h1 (aI (bT da cb) (bT da cb))
  unfold qi
  refine ⟨?_,?_,?_,?_⟩
  · simp only;exact r1
  · simp only;exact r2
  · simp only;exact r3
  · simp only;exact r4
theorem FT {a b : List Int} (ha : Good a) (hb : Good b) : fv (nJ a b)=fv a+fv b:=FN ha.len hb.len
theorem FU {a b : List Int} (ha : Good a) (hb : Good b) : fv (nK a b)=fv a - fv b:=FO ha.len hb.len
theorem rV {a b : List Int} (ha : Good a) (hb : Good b) : fv (mulL a b)=fv a * fv b:=qD ha.len hb.len
theorem FV {x1 : List Int} {s : N4} (h1 : Good x1) (h : s.ok) : (qi x1 s).f=core (fv x1) s.f:=by
  have a:=cv h.x2 h.z2
  have b:=bT h.x2 h.z2
  have c:=cv h.x3 h.z3
  have d:=bT h.x3 h.z3
  have da:=aI d a
  have cb:=aI c b
  have aa:=aI a a
  have bb:=aI b b
  have e:=bT aa bb
  unfold N4.f qi core
  simp only
  rw [rV aa bb,rV e (cv aa (aI mG e)),FT aa (aI mG e),rV mG e,FU aa bb,rV (cv da cb) (cv da cb),FT da cb,
    rV h1 (aI (bT da cb) (bT da cb)),rV (bT da cb) (bT da cb),FU da cb,rV d a,rV c b,rV a a,rV b b,FT h.x2 h.z2,FU h.x2 h.z2,FT h.x3 h.z3,FU h.x3 h.z3,Kn]
def jr (x1 : List Int) (k : Nat) : Nat→N4
  | 0=>⟨kO,List.replicate 16 0,x1,kO⟩
  | n+1=>jL (k.testBit (254 - n)) (qi x1 (jL (k.testBit (254 - n)) (jr x1 k n)))
theorem za : Good (List.replicate 16 0):=⟨rfl,by decide,fun j _ _=>by rw [iI];omega⟩
theorem qE {x1 : List Int} (h : Good x1) (k : Nat) : ∀ n,(jr x1 k n).ok
  | 0=>⟨pF,za,h,pF⟩
  | n+1=>oF (DY h (oF (qE h k n) _)) _
theorem DZ {x1 : List Int} (h : Good x1) (k : Nat) : ∀ n,n≤255→Ag (fv x1) k (255 - n) (jr x1 k n).f=Ag (fv x1) k 255 (jr x1 k 0).f
  | 0,_=>rfl
  | n+1,hn=>by
    rw [← DZ h k n (by omega)]
    have e : 255 - n=(255 - (n+1))+1:=by omega
    have e2 : 254 - n=255 - (n+1):=by omega
    rw [e]
    show Ag (fv x1) k (255 - (n+1)) (jL (k.testBit (254 - n)) (qi x1 (jL (k.testBit (254 - n)) (jr x1 k n)))).f=Ag (fv x1) k (255 - (n+1)) (swap (k.testBit (255 - (n+1))) (core (fv x1) (swap (k.testBit (255 - (n+1))) (jr x1 k n).f)))
    rw [Av,FV h (oF (qE h k n) _),Av,e2]
theorem D2 : fv (List.replicate 16 0)=0:=by decide +kernel
theorem D3 {x1 : List Int} (h : Good x1) (k : Nat) : fv (mulL (jr x1 k 255).x2 (fO (jr x1 k 255).z2 255))=FH k (fv x1):=by
  have g:=qE h k 255
  have e : (jr x1 k 255).f=Ag (fv x1) k 255 (jr x1 k 0).f:=DZ h k 255 (by omega)
  have e0 : (jr x1 k 0).f=⟨1,0,fv x1,1⟩:=by
    show (⟨fv kO,fv (List.replicate 16 0),fv x1,fv kO⟩ : L4)=_
    rw [Ar,D2]
  rw [e0] at e
  rw [rV g.x2 (jK g.z2 255),FQ g.z2]
  unfold FH
  rw [← e]
  rfl
theorem BQ (k u : List By) (hu : u.length=32) : sV (fv (mulL (jr (iK u) (le (dA k)) 255).x2 (fO (jr (iK u) (le (dA k)) 255).z2 255)))=aN k u:=by
  rw [D3 (nL u),DQ u hu]
  rfl
end dO
end
section
set_option maxRecDepth 10000
open Sl dO
theorem rW : aK Tryz.prog 31:=⟨_,Tryz.func31,rfl,by kernel_rfl⟩
def IG : Nat→List (Nat × Nat)
  | 2=>[(0,55),(1,56)]
  | 5=>[(3,58),(4,59)]
  | 8=>[(6,61),(7,62)]
  | 11=>[(9,64),(10,65)]
  | 16=>[(12,12),(2,57)]
  | 17=>[(13,13),(5,60)]
  | 18=>[(14,14),(8,63)]
  | 19=>[(15,15),(11,66)]
  | _=>[]
def II : Nat→List (Nat × Nat)
  | 2=>[(0,67),(1,68)]
  | 5=>[(3,70),(4,71)]
  | 8=>[(6,73),(7,74)]
  | 11=>[(9,76),(10,77)]
  | 16=>[(12,16),(2,69)]
  | 17=>[(13,17),(5,72)]
  | 18=>[(14,18),(8,75)]
  | 19=>[(15,19),(11,78)]
  | _=>[]
def Ko : Nat→List Nat
  | 0=>[20]
  | 1=>[21]
  | 3=>[20]
  | 4=>[21]
  | 6=>[22]
  | 7=>[23]
  | 9=>[22]
  | 10=>[23]
  | 16=>[12]
  | 17=>[13]
  | 18=>[14]
  | 19=>[15]
  | _=>[]
def Kq : Nat→List Nat
  | 0=>[23]
  | 1=>[20]
  | 3=>[22]
  | 4=>[21]
  | 6=>[20]
  | 7=>[20]
  | 9=>[21]
  | 10=>[21]
  | 16=>[12]
  | 17=>[13]
  | 18=>[14]
  | 19=>[15]
  | _=>[]
def Hp : Nat→List Nat
  | 16=>[12]
  | 17=>[13]
  | 18=>[14]
  | 19=>[15]
  | _=>[]
def Hq : Nat→Option Nat
  | 16=>some 12
  | 17=>some 13
  | 18=>some 14
  | 19=>some 15
  | _=>none
def Kr : Nat→List (Nat × Nat)
  | 8=>[(4,6),(0,33)]
  | 9=>[(5,7),(1,34)]
  | 10=>[(6,8),(2,35)]
  | 11=>[(7,9),(3,36)]
  | _=>[]
def L2 : Nat→List Nat
  | 2=>[12]
  | 8=>[4]
  | 9=>[5]
  | 10=>[6]
  | 11=>[7]
  | _=>[]
def L3 : Nat→List Nat
  | 8=>[4]
  | 9=>[5]
  | 10=>[6]
  | 11=>[7]
  | _=>[]
def L6 : Nat→Option Nat
  | 8=>some 4
  | 9=>some 5
  | 10=>some 6
  | 11=>some 7
  | _=>none
theorem IJ (x : By) (k : Nat) (h : k<8) : decide ((x >>> k) &&& 1#8=1#8)=x.toNat.testBit k:=by
  have h8 : ∀ k : Fin 8,∀ x : By,decide ((x >>> k.val) &&& 1#8=1#8)=x.toNat.testBit k.val:=by decide +kernel
  exact h8 ⟨k,h⟩ x
set_option maxHeartbeats 32000000 in
set_option maxRecDepth 4000 in
theorem ue (k u : List By) (hk : k.length=32) (hu : u.length=32) (w : World) : Calls Tryz.prog 31 [.agg (k.map U8).toArray,.agg (u.map U8).toArray].toArray w fun e w'=>e=.returned (.agg ((aN k u).map U8).toArray)∧Ext w w':=by
  have eM:=BQ k u hu
  have hK : (dA k).length=32:=by rw [nM,hk]
  have eK : dA k=(k.set 0 (k.getD 0 0 / 8 * 8)).set 31 ((k.set 0 (k.getD 0 0 / 8 * 8)).getD 31 0 % 64+64):=rfl
  have hc0:=ko (l:=k) (i:=0) (by omega)
  have hc31:=ko (l:=k.set 0 (k.getD 0 0 / 8 * 8)) (i:=31) (by rw [List.length_set];omega)
  have gx:=nL u
  have cR:=BN u hu
  have hlu : (u.map U8).length=32:=by rw [List.length_map];exact hu
  generalize hx1 : iK u=x1 at eM gx cR
  refine enter (n:=119) Tryz.func31 rfl rfl rfl (ah.start w []) ?_
  repeat (first | refine JC.seq ?_ | refine JC.region ?_)
  refine JL.box (r:=k.map U8) rfl rfl rfl fun b2 _=>?_
  refine JL.box (r:=u.map U8) rfl rfl rfl fun b3 _=>?_
  refine JL.alloc gR rfl fun b4 _=>?_
  repeat (first | refine JL.q (by first|(apply OQ.aD;exact Tryz.underlying23;exact vS;rfl;rfl;exact (by decide))|(apply OQ.load;exact FR;rfl;exact (.there (.there .here));exact (Row.cell hc0))|(apply OQ.Lo (b:=8#8);rfl;rfl;exact (by decide))|(apply OQ.Ln (b:=8#8);rfl;rfl)) rfl ?_ | refine JC.seq ?_ | refine JC.region ?_ | refine JL.nil ?_ | refine JE.next ?_)
  refine JL.az (r':=(k.set 0 (k.getD 0 0 / 8 * 8)).map U8) vS rfl rfl rfl rfl (.there (.there .here)) (by rw [List.length_map,hk];decide) (rU _ _ _) ?_
  repeat (first | refine JL.q (by first|(apply OQ.aD;exact Tryz.underlying23;exact vS;rfl;rfl;exact (by decide))|(apply OQ.load;exact FR;rfl;exact (.there (.there .here));exact (Row.cell hc31))|(apply OQ.Lp (b:=64#8);rfl;rfl;exact (by decide))|(apply OQ.Lm (b:=64#8);rfl;rfl)) rfl ?_ | refine JC.seq ?_ | refine JC.region ?_ | refine JL.nil ?_ | refine JE.next ?_)
  refine JL.az (r':=(dA k).map U8) vS rfl rfl rfl rfl (.there (.there .here)) (by rw [List.length_map,List.length_set,hk];decide) (rU _ _ _) ?_
  generalize dA k=K at eM hK
  clear hc0 hc31 eK
  have hx1l : (x1.map I).length=16:=by rw [List.length_map];exact gx.len
  repeat (first | refine JL.q (by first|(apply OQ.af (cs:=u.map U8);exact aP;exact aB;rfl;exact (.there .here);exact hlu;exact Row.all)|(apply OQ.au;exact yZ;rfl;exact (fun w' _=>cR w'))) rfl ?_ | refine JC.seq ?_ | refine JC.region ?_ | refine JL.nil ?_ | refine JE.next ?_)
  refine JL.alloc jq rfl fun b5 _=>?_
  refine JL.ag (cs:=x1.map I) bg rfl rfl hx1l (bE _) .here (by simp) ?_
  repeat (first | refine JC.seq ?_ | refine JL.nil ?_ | refine JE.next ?_)
  · let vs : Nat→Nat→Value:=fun j x=>match j with
      | 0=>.agg (kO.map I).toArray
      | 1=>.agg ((List.replicate 16 (0 : Int)).map I).toArray
      | 2=>.agg (x1.map I).toArray
      | 3=>.agg (kO.map I).toArray
      | _=>Pt x 0
    let Ms : Nat→Nat→List aG:=fun j x=>match j with
      | 4=>[⟨x,Row 97 ((List.replicate 16 (0 : Int)).map I),true⟩]
      | 5=>[⟨x,Row 97 ((List.replicate 16 (0 : Int)).map I),true⟩]
      | 6=>[⟨x,Row 97 ((List.replicate 16 (0 : Int)).map I),true⟩]
      | 7=>[⟨x,Row 97 ((List.replicate 16 (0 : Int)).map I),true⟩]
      | 8=>[⟨x,Row 97 (kO.map I),true⟩]
      | 9=>[⟨x,Row 97 ((List.replicate 16 (0 : Int)).map I),true⟩]
      | 10=>[⟨x,Row 97 (x1.map I),true⟩]
      | 11=>[⟨x,Row 97 (kO.map I),true⟩]
      | 12=>[⟨b5,Row 97 (x1.map I),true⟩]
      | 13=>[⟨b4,Row 23 ((List.replicate 32 (0 : By)).map U8),true⟩]
      | 14=>[⟨b2,Row 23 (K.map U8),true⟩]
      | _=>[]
    refine JC.grow (g:=⟨[(2,Pt b2 0),(4,Pt b4 0),(5,Pt b5 0)],15,vs,Ms,Kr,L2,L3,L6⟩) [(4,6),(5,7),(6,8),(7,9)] [8,9,10,11,12,13,14] eD (by repeat (first | exact ai.nil | refine ai.cons _ _ _ rfl ?_)) (.keep _ _ _ _ _ _ (fun _ h=>h) (.keep _ _ _ _ _ _ (fun _ h=>h) (.drop _ _ _ (aq.refl _)))) (by kernel_rfl) (by kernel_rfl) (by kernel_rfl) ?_ ?_
    · refine ⟨?_,?_,?_,?_,?_,?_,?_,?_,?_,?_,?_,?_,trivial⟩
      · intro x EF MF Q kk
        exact JL.q (OQ.pure (v:=.agg (kO.map I).toArray) rfl rfl (by kernel_rfl)) rfl (JL.nil (kk 0 nofun))
      · intro x EF MF Q kk
        exact JL.q (OQ.pure (v:=.agg ((List.replicate 16 (0 : Int)).map I).toArray) rfl rfl (by kernel_rfl)) rfl (JL.nil (kk 0 nofun))
      · intro x EF MF Q kk
        exact JL.q (OQ.af (cs:=x1.map I) cu bg rfl .here hx1l Row.all) rfl (JL.nil (kk 0 nofun))
      · intro x EF MF Q kk
        exact JL.q (OQ.pure (v:=.agg (kO.map I).toArray) rfl rfl (by kernel_rfl)) rfl (JL.nil (kk 0 nofun))
      iterate 4 (focus (intro x EF MF Q kk;exact JL.alloc jq rfl fun b _=>JL.nil (kk b nofun)))
      · intro x EF MF Q kk
        exact JL.ag (cs:=kO.map I) bg rfl rfl rfl (bE _) .here (by simp) (JL.nil (kk (x 4) (fun k h=>by cases h;rfl)))
      · intro x EF MF Q kk
        exact JL.ag (cs:=(List.replicate 16 (0 : Int)).map I) bg rfl rfl rfl (bE _) .here (by simp) (JL.nil (kk (x 5) (fun k h=>by cases h;rfl)))
      · intro x EF MF Q kk
        exact JL.ag (cs:=x1.map I) bg rfl rfl hx1l (bE _) .here (by simp) (JL.nil (kk (x 6) (fun k h=>by cases h;rfl)))
      · intro x EF MF Q kk
        exact JL.ag (cs:=kO.map I) bg rfl rfl rfl (bE _) .here (by simp) (JL.nil (kk (x 7) (fun k h=>by cases h;rfl)))
    · intro x hx
      have h8:=hx 8 4 (by decide) rfl
      have h9:=hx 9 5 (by decide) rfl
      have h10:=hx 10 6 (by decide) rfl
      have h11:=hx 11 7 (by decide) rfl
      show JE _ _ _ _ _ [(6,Pt (x 4) 0),(7,Pt (x 5) 0),(8,Pt (x 6) 0),(9,Pt (x 7) 0),(2,Pt b2 0),(4,Pt b4 0),(5,Pt b5 0)] [⟨(x 8),Row 97 (kO.map I),true⟩,⟨(x 9),Row 97 ((List.replicate 16 (0 : Int)).map I),true⟩,⟨(x 10),Row 97 (x1.map I),true⟩,⟨(x 11),Row 97 (kO.map I),true⟩,⟨b5,Row 97 (x1.map I),true⟩,⟨b4,Row 23 ((List.replicate 32 (0 : By)).map U8),true⟩,⟨b2,Row 23 (K.map U8),true⟩]
      rw [h8,h9,h10,h11]
      generalize x 4=b6
      generalize x 5=b7
      generalize x 6=b8
      generalize x 7=b9
      clear hx h8 h9 h10 h11 x vs Ms
      repeat (first | refine JL.q (by (apply OQ.assign;rfl)) rfl ?_ | refine JC.seq ?_ | refine JC.region ?_ | refine JC.block ?_ | refine JL.nil ?_ | refine JE.next ?_)
      refine JC.loop (fun n : Nat=>[(2,Pt b2 0),(4,Pt b4 0),(5,Pt b5 0),(6,Pt b6 0),(7,Pt b7 0),(8,Pt b8 0),(9,Pt b9 0),(10,I (254 - n))])
        (fun n=>[⟨b6,Row 97 ((jr x1 (le K) n).x2.map I),true⟩,⟨b7,Row 97 ((jr x1 (le K) n).z2.map I),true⟩,⟨b8,Row 97 ((jr x1 (le K) n).x3.map I),true⟩,⟨b9,Row 97 ((jr x1 (le K) n).z3.map I),true⟩,⟨b5,Row 97 (x1.map I),true⟩,⟨b4,Row 23 ((List.replicate 32 (0 : By)).map U8),true⟩,⟨b2,Row 23 (K.map U8),true⟩])
        (fun n=>255 - n) (fun n=>n≤255) 0 (by omega) (by repeat (first | exact ai.nil | refine ai.cons _ _ _ rfl ?_)) (aq.refl _) ?_
      intro n hn
      have ok:=qE gx (le K) n
      repeat (first | refine JL.q (by first|(apply OQ.CK (b:=0);rfl;rfl)|(apply OQ.move;rfl)) rfl ?_ | refine JC.seq ?_ | refine JC.region ?_ | refine JL.nil ?_ | refine JE.next ?_)
      refine JC.cond rfl (fun h=>?_) (fun h=>?_)
      · have hn' : (0 : Int)≤254 - n:=of_decide_eq_true h
        clear h hn
        have hb : n<255:=by omega
        have hb2 : n≤254:=by omega
        have eN : jr x1 (le K) (n+1)=jL ((le K).testBit (254 - n)) (qi x1 (jL ((le K).testBit (254 - n)) (jr x1 (le K) n))):=rfl
        obtain ⟨i,hi⟩ : ∃ i,i=254 - n:=⟨_,rfl⟩
        have eI : (254 - (n : Int))=((i : Nat) : Int):=by omega
        rw [← hi] at eN
        rw [eI]
        have hcb:=ko (l:=K) (i:=i / 8) (by omega)
        have hbit : decide ((K.getD (i / 8) 0 >>> (i % 8)) &&& 1#8=1#8)=(le K).testBit i:=by rw [IJ _ _ (by omega),y9]
        generalize jr x1 (le K) n=s at ok eN ⊢
        obtain ⟨x2,z2,x3,z3⟩:=s
        have gx2 : Good x2:=ok.x2
        have gz2 : Good z2:=ok.z2
        have gx3 : Good x3:=ok.x3
        have gz3 : Good z3:=ok.z3
        dsimp only
        repeat (first | refine JL.q (by first|(apply OQ.aD;exact Tryz.underlying23;exact vS;rfl;rfl;exact (by (try simp only []);omega))|(apply OQ.load;exact FR;rfl;exact (by repeat (first | exact Has.here | apply Has.there));exact (Row.cell hcb))|(apply OQ.JS;rfl;rfl)|(apply OQ.E8 (b:=1#8);rfl;rfl)|(apply OQ.move;rfl)|(apply OQ.assign;rfl)|(apply OQ.AZ;rfl;rfl;exact (by (try simp only []);omega))|(apply OQ.CE;rfl;rfl;exact (by (try simp only []);omega);exact (by (try simp only []);omega))) rfl ?_ | refine JC.seq ?_ | refine JC.region ?_ | refine JC.block ?_ | refine JC.skip ?_ | refine JL.nil ?_ | refine JE.next ?_)
        generalize hbt : (K.getD (i / 8) 0 >>> (i % 8)) &&& 1#8=bt at hbit ⊢
        repeat (first | refine JL.q (by (apply OQ.Lj (b:=1#8);rfl;rfl)) rfl ?_ | refine JL.nil ?_ | refine JE.next ?_)
        refine JC.join (ι:=Unit) (fun _=>[(2,Pt b2 0),(4,Pt b4 0),(5,Pt b5 0),(6,Pt b6 0),(7,Pt b7 0),(8,Pt b8 0),(9,Pt b9 0),(10,N i),(11,U8 bt)]) (fun _=>[⟨b6,Row 97 ((jL ((le K).testBit i) ⟨x2,z2,x3,z3⟩).x2.map I),true⟩,⟨b7,Row 97 ((jL ((le K).testBit i) ⟨x2,z2,x3,z3⟩).z2.map I),true⟩,⟨b8,Row 97 ((jL ((le K).testBit i) ⟨x2,z2,x3,z3⟩).x3.map I),true⟩,⟨b9,Row 97 ((jL ((le K).testBit i) ⟨x2,z2,x3,z3⟩).z3.map I),true⟩,⟨b5,Row 97 (x1.map I),true⟩,⟨b4,Row 23 ((List.replicate 32 (0 : By)).map U8),true⟩,⟨b2,Row 23 (K.map U8),true⟩]) (fun _=>True) ?_ (fun _ _=>?_)
        · refine JC.cond rfl (fun h=>?_) (fun h=>?_)
          · rw [← hbit,h]
            repeat (first | refine JL.q (by first|(apply OQ.af (cs:=x2.map I);exact cu;exact bg;rfl;exact (by repeat (first | exact Has.here | apply Has.there));exact (by rw [List.length_map];exact gx2.len);exact Row.all)|(apply OQ.af (cs:=x3.map I);exact cu;exact bg;rfl;exact (by repeat (first | exact Has.here | apply Has.there));exact (by rw [List.length_map];exact gx3.len);exact Row.all)) rfl ?_ | refine JC.seq ?_ | refine JC.region ?_)
            refine JL.ag (cs:=x3.map I) bg rfl rfl (by rw [List.length_map];exact gx3.len) (bE _) (by repeat (first | exact eJ.here | apply eJ.there)) (by rw [List.length_map];exact gx2.len) ?_
            skip
            refine JL.ag (cs:=x2.map I) bg rfl rfl (by rw [List.length_map];exact gx2.len) (bE _) (by repeat (first | exact eJ.here | apply eJ.there)) (by rw [List.length_map];exact gx3.len) ?_
            repeat (first | refine JL.q (by first|(apply OQ.af (cs:=z2.map I);exact cu;exact bg;rfl;exact (by repeat (first | exact Has.here | apply Has.there));exact (by rw [List.length_map];exact gz2.len);exact Row.all)|(apply OQ.af (cs:=z3.map I);exact cu;exact bg;rfl;exact (by repeat (first | exact Has.here | apply Has.there));exact (by rw [List.length_map];exact gz3.len);exact Row.all)) rfl ?_ | refine JC.region ?_ | refine JL.nil ?_ | refine JE.next ?_)
            refine JL.ag (cs:=z3.map I) bg rfl rfl (by rw [List.length_map];exact gz3.len) (bE _) (by repeat (first | exact eJ.here | apply eJ.there)) (by rw [List.length_map];exact gz2.len) ?_
            skip
            refine JL.ag (cs:=z2.map I) bg rfl rfl (by rw [List.length_map];exact gz2.len) (bE _) (by repeat (first | exact eJ.here | apply eJ.there)) (by rw [List.length_map];exact gz3.len) ?_
            repeat (refine JL.nil ?_)
            exact JE.mid () trivial (by repeat (first | exact ai.nil | refine ai.cons _ _ _ rfl ?_)) (aq.refl _)
          · rw [← hbit,h]
            repeat (refine JC.skip ?_)
            exact JE.mid () trivial (by repeat (first | exact ai.nil | refine ai.cons _ _ _ rfl ?_)) (aq.refl _)
        have ok':=oF ok ((le K).testBit i)
        generalize jL ((le K).testBit i) ⟨x2,z2,x3,z3⟩=s' at ok' eN ⊢
        obtain ⟨X2,Z2,X3,Z3⟩:=s'
        have gX2 : Good X2:=ok'.x2
        have gZ2 : Good Z2:=ok'.z2
        have gX3 : Good X3:=ok'.x3
        have gZ3 : Good Z3:=ok'.z3
        dsimp only
        clear ok ok' gx2 gz2 gx3 gz3
        have cA:=oC X2 Z2 gX2 gZ2
        have gA:=cv gX2 gZ2
        generalize hA : nJ X2 Z2=A at cA gA
        have cB:=mF X2 Z2 gX2 gZ2
        have gB:=bT gX2 gZ2
        generalize hB : nK X2 Z2=B at cB gB
        have cC:=oC X3 Z3 gX3 gZ3
        have gC:=cv gX3 gZ3
        generalize hC : nJ X3 Z3=C at cC gC
        have cD:=mF X3 Z3 gX3 gZ3
        have gD:=bT gX3 gZ3
        generalize hD : nK X3 Z3=D at cD gD
        have cDA:=dx D A gD gA
        have gDA:=aI gD gA
        generalize hDA : mulL D A=DA at cDA gDA
        have cCB:=dx C B gC gB
        have gCB:=aI gC gB
        generalize hCB : mulL C B=CB at cCB gCB
        have cAA:=dx A A gA gA
        have gAA:=aI gA gA
        generalize hAA : mulL A A=AA at cAA gAA
        have cBB:=dx B B gB gB
        have gBB:=aI gB gB
        generalize hBB : mulL B B=BB at cBB gBB
        have cE:=mF AA BB gAA gBB
        have gE:=bT gAA gBB
        generalize hE : nK AA BB=E at cE gE
        have cF:=dx cL E mG gE
        have gF:=aI mG gE
        generalize hF : mulL cL E=F at cF gF
        have cG:=oC AA F gAA gF
        have gG:=cv gAA gF
        generalize hG : nJ AA F=G at cG gG
        have cR1:=dx AA BB gAA gBB
        have gR1:=aI gAA gBB
        generalize hR1 : mulL AA BB=R1 at cR1 gR1
        have cR2:=dx E G gE gG
        have gR2:=aI gE gG
        generalize hR2 : mulL E G=R2 at cR2 gR2
        have cH:=oC DA CB gDA gCB
        have gH:=cv gDA gCB
        generalize hH : nJ DA CB=H at cH gH
        have cR3:=dx H H gH gH
        have gR3:=aI gH gH
        generalize hR3 : mulL H H=R3 at cR3 gR3
        have cJ:=mF DA CB gDA gCB
        have gJ:=bT gDA gCB
        generalize hJ : nK DA CB=J at cJ gJ
        have cJJ:=dx J J gJ gJ
        have gJJ:=aI gJ gJ
        generalize hJJ : mulL J J=JJ at cJJ gJJ
        have cR4:=dx x1 JJ gx gJJ
        have gR4:=aI gx gJJ
        generalize hR4 : mulL x1 JJ=R4 at cR4 gR4
        have eC : qi x1 ⟨X2,Z2,X3,Z3⟩=⟨R1,R2,R3,R4⟩:=by
          subst hR4 hJJ hJ hR3 hH hR2 hR1 hG hF hE hBB hAA hCB hDA hD hC hB hA
          rfl
        rw [eC] at eN
        clear eC hA hB hC hD hDA hCB hAA hBB hE hF hG hR1 hR2 hH hR3 hJ hJJ hR4
        repeat (refine JC.seq ?_)
        let vs : Nat→Nat→Value:=fun j x=>match j with
          | 0=>.agg (X2.map I).toArray
          | 1=>.agg (Z2.map I).toArray
          | 3=>.agg (X2.map I).toArray
          | 4=>.agg (Z2.map I).toArray
          | 6=>.agg (X3.map I).toArray
          | 7=>.agg (Z3.map I).toArray
          | 9=>.agg (X3.map I).toArray
          | 10=>.agg (Z3.map I).toArray
          | 2=>.agg (A.map I).toArray
          | 5=>.agg (B.map I).toArray
          | 8=>.agg (C.map I).toArray
          | 11=>.agg (D.map I).toArray
          | _=>Pt x 0
        let Ms : Nat→Nat→List aG:=fun j x=>match j with
          | 12=>[⟨x,Row 97 ((List.replicate 16 (0 : Int)).map I),true⟩]
          | 13=>[⟨x,Row 97 ((List.replicate 16 (0 : Int)).map I),true⟩]
          | 14=>[⟨x,Row 97 ((List.replicate 16 (0 : Int)).map I),true⟩]
          | 15=>[⟨x,Row 97 ((List.replicate 16 (0 : Int)).map I),true⟩]
          | 16=>[⟨x,Row 97 (A.map I),true⟩]
          | 17=>[⟨x,Row 97 (B.map I),true⟩]
          | 18=>[⟨x,Row 97 (C.map I),true⟩]
          | 19=>[⟨x,Row 97 (D.map I),true⟩]
          | 20=>[⟨b6,Row 97 (X2.map I),true⟩]
          | 21=>[⟨b7,Row 97 (Z2.map I),true⟩]
          | 22=>[⟨b8,Row 97 (X3.map I),true⟩]
          | 23=>[⟨b9,Row 97 (Z3.map I),true⟩]
          | 24=>[⟨b5,Row 97 (x1.map I),true⟩]
          | 25=>[⟨b4,Row 23 ((List.replicate 32 (0 : By)).map U8),true⟩]
          | 26=>[⟨b2,Row 23 (K.map U8),true⟩]
          | _=>[]
        refine JC.grow (g:=⟨[(2,Pt b2 0),(4,Pt b4 0),(5,Pt b5 0),(6,Pt b6 0),(7,Pt b7 0),(8,Pt b8 0),(9,Pt b9 0),(10,N i),(11,U8 bt)],27,vs,Ms,IG,Ko,Hp,Hq⟩) [(12,12),(13,13),(14,14),(15,15)] [16,17,18,19,20,21,22,23,24,25,26] eD (by repeat (first | exact ai.nil | refine ai.cons _ _ _ rfl ?_)) (aq.refl _) (by kernel_rfl) (by kernel_rfl) (by kernel_rfl) ?_ ?_
        · refine ⟨?_,?_,?_,?_,?_,?_,?_,?_,?_,?_,?_,?_,?_,?_,?_,?_,?_,?_,?_,?_,trivial⟩
          · intro x EF MF Q kk
            exact JL.q (OQ.af (cs:=X2.map I) cu bg rfl .here (by rw [List.length_map];exact gX2.len) Row.all) rfl (JL.nil (kk 0 nofun))
          · intro x EF MF Q kk
            exact JL.q (OQ.af (cs:=Z2.map I) cu bg rfl .here (by rw [List.length_map];exact gZ2.len) Row.all) rfl (JL.nil (kk 0 nofun))
          · intro x EF MF Q kk
            exact JL.q (OQ.au mE rfl fun w' _=>cA w') rfl (JL.nil (kk 0 nofun))
          · intro x EF MF Q kk
            exact JL.q (OQ.af (cs:=X2.map I) cu bg rfl .here (by rw [List.length_map];exact gX2.len) Row.all) rfl (JL.nil (kk 0 nofun))
          · intro x EF MF Q kk
            exact JL.q (OQ.af (cs:=Z2.map I) cu bg rfl .here (by rw [List.length_map];exact gZ2.len) Row.all) rfl (JL.nil (kk 0 nofun))
          · intro x EF MF Q kk
            exact JL.q (OQ.au kg rfl fun w' _=>cB w') rfl (JL.nil (kk 0 nofun))
          · intro x EF MF Q kk
            exact JL.q (OQ.af (cs:=X3.map I) cu bg rfl .here (by rw [List.length_map];exact gX3.len) Row.all) rfl (JL.nil (kk 0 nofun))
          · intro x EF MF Q kk
            exact JL.q (OQ.af (cs:=Z3.map I) cu bg rfl .here (by rw [List.length_map];exact gZ3.len) Row.all) rfl (JL.nil (kk 0 nofun))
          · intro x EF MF Q kk
            exact JL.q (OQ.au mE rfl fun w' _=>cC w') rfl (JL.nil (kk 0 nofun))
          · intro x EF MF Q kk
            exact JL.q (OQ.af (cs:=X3.map I) cu bg rfl .here (by rw [List.length_map];exact gX3.len) Row.all) rfl (JL.nil (kk 0 nofun))
          · intro x EF MF Q kk
            exact JL.q (OQ.af (cs:=Z3.map I) cu bg rfl .here (by rw [List.length_map];exact gZ3.len) Row.all) rfl (JL.nil (kk 0 nofun))
          · intro x EF MF Q kk
            exact JL.q (OQ.au kg rfl fun w' _=>cD w') rfl (JL.nil (kk 0 nofun))
          · intro x EF MF Q kk
            exact JL.alloc jq rfl fun b _=>JL.nil (kk b nofun)
          · intro x EF MF Q kk
            exact JL.alloc jq rfl fun b _=>JL.nil (kk b nofun)
          · intro x EF MF Q kk
            exact JL.alloc jq rfl fun b _=>JL.nil (kk b nofun)
          · intro x EF MF Q kk
            exact JL.alloc jq rfl fun b _=>JL.nil (kk b nofun)
          · intro x EF MF Q kk
            exact JL.ag (cs:=A.map I) bg rfl rfl (by rw [List.length_map];exact gA.len) (bE _) .here (by simp) (JL.nil (kk (x 12) (fun k h=>by cases h;rfl)))
          · intro x EF MF Q kk
            exact JL.ag (cs:=B.map I) bg rfl rfl (by rw [List.length_map];exact gB.len) (bE _) .here (by simp) (JL.nil (kk (x 13) (fun k h=>by cases h;rfl)))
          · intro x EF MF Q kk
            exact JL.ag (cs:=C.map I) bg rfl rfl (by rw [List.length_map];exact gC.len) (bE _) .here (by simp) (JL.nil (kk (x 14) (fun k h=>by cases h;rfl)))
          · intro x EF MF Q kk
            exact JL.ag (cs:=D.map I) bg rfl rfl (by rw [List.length_map];exact gD.len) (bE _) .here (by simp) (JL.nil (kk (x 15) (fun k h=>by cases h;rfl)))
        · intro x hx
          have h16:=hx 16 12 (by decide) rfl
          have h17:=hx 17 13 (by decide) rfl
          have h18:=hx 18 14 (by decide) rfl
          have h19:=hx 19 15 (by decide) rfl
          show JE _ _ _ _ _ [(12,Pt (x 12) 0),(13,Pt (x 13) 0),(14,Pt (x 14) 0),(15,Pt (x 15) 0),(2,Pt b2 0),(4,Pt b4 0),(5,Pt b5 0),(6,Pt b6 0),(7,Pt b7 0),(8,Pt b8 0),(9,Pt b9 0),(10,N i),(11,U8 bt)] [⟨(x 16),Row 97 (A.map I),true⟩,⟨(x 17),Row 97 (B.map I),true⟩,⟨(x 18),Row 97 (C.map I),true⟩,⟨(x 19),Row 97 (D.map I),true⟩,⟨b6,Row 97 (X2.map I),true⟩,⟨b7,Row 97 (Z2.map I),true⟩,⟨b8,Row 97 (X3.map I),true⟩,⟨b9,Row 97 (Z3.map I),true⟩,⟨b5,Row 97 (x1.map I),true⟩,⟨b4,Row 23 ((List.replicate 32 (0 : By)).map U8),true⟩,⟨b2,Row 23 (K.map U8),true⟩]
          rw [h16,h17,h18,h19]
          generalize x 12=b12
          generalize x 13=b13
          generalize x 14=b14
          generalize x 15=b15
          clear hx h16 h17 h18 h19 x vs Ms
          repeat (first | refine JC.seq ?_ | refine JE.next ?_)
          let vs : Nat→Nat→Value:=fun j x=>match j with
            | 0=>.agg (D.map I).toArray
            | 1=>.agg (A.map I).toArray
            | 3=>.agg (C.map I).toArray
            | 4=>.agg (B.map I).toArray
            | 6=>.agg (A.map I).toArray
            | 7=>.agg (A.map I).toArray
            | 9=>.agg (B.map I).toArray
            | 10=>.agg (B.map I).toArray
            | 2=>.agg (DA.map I).toArray
            | 5=>.agg (CB.map I).toArray
            | 8=>.agg (AA.map I).toArray
            | 11=>.agg (BB.map I).toArray
            | _=>Pt x 0
          let Ms : Nat→Nat→List aG:=fun j x=>match j with
            | 12=>[⟨x,Row 97 ((List.replicate 16 (0 : Int)).map I),true⟩]
            | 13=>[⟨x,Row 97 ((List.replicate 16 (0 : Int)).map I),true⟩]
            | 14=>[⟨x,Row 97 ((List.replicate 16 (0 : Int)).map I),true⟩]
            | 15=>[⟨x,Row 97 ((List.replicate 16 (0 : Int)).map I),true⟩]
            | 16=>[⟨x,Row 97 (DA.map I),true⟩]
            | 17=>[⟨x,Row 97 (CB.map I),true⟩]
            | 18=>[⟨x,Row 97 (AA.map I),true⟩]
            | 19=>[⟨x,Row 97 (BB.map I),true⟩]
            | 20=>[⟨b12,Row 97 (A.map I),true⟩]
            | 21=>[⟨b13,Row 97 (B.map I),true⟩]
            | 22=>[⟨b14,Row 97 (C.map I),true⟩]
            | 23=>[⟨b15,Row 97 (D.map I),true⟩]
            | 24=>[⟨b6,Row 97 (X2.map I),true⟩]
            | 25=>[⟨b7,Row 97 (Z2.map I),true⟩]
            | 26=>[⟨b8,Row 97 (X3.map I),true⟩]
            | 27=>[⟨b9,Row 97 (Z3.map I),true⟩]
            | 28=>[⟨b5,Row 97 (x1.map I),true⟩]
            | 29=>[⟨b4,Row 23 ((List.replicate 32 (0 : By)).map U8),true⟩]
            | 30=>[⟨b2,Row 23 (K.map U8),true⟩]
            | _=>[]
          refine JC.grow (g:=⟨[(2,Pt b2 0),(4,Pt b4 0),(5,Pt b5 0),(6,Pt b6 0),(7,Pt b7 0),(8,Pt b8 0),(9,Pt b9 0),(10,N i),(11,U8 bt),(12,Pt b12 0),(13,Pt b13 0),(14,Pt b14 0),(15,Pt b15 0)],31,vs,Ms,II,Kq,Hp,Hq⟩) [(12,16),(13,17),(14,18),(15,19)] [16,17,18,19,20,21,22,23,24,25,26,27,28,29,30] eD (by repeat (first | exact ai.nil | refine ai.cons _ _ _ rfl ?_)) (aq.refl _) (by kernel_rfl) (by kernel_rfl) (by kernel_rfl) ?_ ?_
          · refine ⟨?_,?_,?_,?_,?_,?_,?_,?_,?_,?_,?_,?_,?_,?_,?_,?_,?_,?_,?_,?_,trivial⟩
            · intro x EF MF Q kk
              exact JL.q (OQ.af (cs:=D.map I) cu bg rfl .here (by rw [List.length_map];exact gD.len) Row.all) rfl (JL.nil (kk 0 nofun))
            · intro x EF MF Q kk
              exact JL.q (OQ.af (cs:=A.map I) cu bg rfl .here (by rw [List.length_map];exact gA.len) Row.all) rfl (JL.nil (kk 0 nofun))
            · intro x EF MF Q kk
              exact JL.q (OQ.au cw rfl fun w' _=>cDA w') rfl (JL.nil (kk 0 nofun))
            · intro x EF MF Q kk
              exact JL.q (OQ.af (cs:=C.map I) cu bg rfl .here (by rw [List.length_map];exact gC.len) Row.all) rfl (JL.nil (kk 0 nofun))
            · intro x EF MF Q kk
              exact JL.q (OQ.af (cs:=B.map I) cu bg rfl .here (by rw [List.length_map];exact gB.len) Row.all) rfl (JL.nil (kk 0 nofun))
            · intro x EF MF Q kk
              exact JL.q (OQ.au cw rfl fun w' _=>cCB w') rfl (JL.nil (kk 0 nofun))
            · intro x EF MF Q kk
              exact JL.q (OQ.af (cs:=A.map I) cu bg rfl .here (by rw [List.length_map];exact gA.len) Row.all) rfl (JL.nil (kk 0 nofun))
            · intro x EF MF Q kk
              exact JL.q (OQ.af (cs:=A.map I) cu bg rfl .here (by rw [List.length_map];exact gA.len) Row.all) rfl (JL.nil (kk 0 nofun))
            · intro x EF MF Q kk
              exact JL.q (OQ.au cw rfl fun w' _=>cAA w') rfl (JL.nil (kk 0 nofun))
            · intro x EF MF Q kk
              exact JL.q (OQ.af (cs:=B.map I) cu bg rfl .here (by rw [List.length_map];exact gB.len) Row.all) rfl (JL.nil (kk 0 nofun))
            · intro x EF MF Q kk
              exact JL.q (OQ.af (cs:=B.map I) cu bg rfl .here (by rw [List.length_map];exact gB.len) Row.all) rfl (JL.nil (kk 0 nofun))
            · intro x EF MF Q kk
              exact JL.q (OQ.au cw rfl fun w' _=>cBB w') rfl (JL.nil (kk 0 nofun))
            · intro x EF MF Q kk
              exact JL.alloc jq rfl fun b _=>JL.nil (kk b nofun)
            · intro x EF MF Q kk
              exact JL.alloc jq rfl fun b _=>JL.nil (kk b nofun)
            · intro x EF MF Q kk
              exact JL.alloc jq rfl fun b _=>JL.nil (kk b nofun)
            · intro x EF MF Q kk
              exact JL.alloc jq rfl fun b _=>JL.nil (kk b nofun)
            · intro x EF MF Q kk
              exact JL.ag (cs:=DA.map I) bg rfl rfl (by rw [List.length_map];exact gDA.len) (bE _) .here (by simp) (JL.nil (kk (x 12) (fun k h=>by cases h;rfl)))
            · intro x EF MF Q kk
              exact JL.ag (cs:=CB.map I) bg rfl rfl (by rw [List.length_map];exact gCB.len) (bE _) .here (by simp) (JL.nil (kk (x 13) (fun k h=>by cases h;rfl)))
            · intro x EF MF Q kk
              exact JL.ag (cs:=AA.map I) bg rfl rfl (by rw [List.length_map];exact gAA.len) (bE _) .here (by simp) (JL.nil (kk (x 14) (fun k h=>by cases h;rfl)))
            · intro x EF MF Q kk
              exact JL.ag (cs:=BB.map I) bg rfl rfl (by rw [List.length_map];exact gBB.len) (bE _) .here (by simp) (JL.nil (kk (x 15) (fun k h=>by cases h;rfl)))
          · intro x hx
            have h16:=hx 16 12 (by decide) rfl
            have h17:=hx 17 13 (by decide) rfl
            have h18:=hx 18 14 (by decide) rfl
            have h19:=hx 19 15 (by decide) rfl
            show JE _ _ _ _ _ [(16,Pt (x 12) 0),(17,Pt (x 13) 0),(18,Pt (x 14) 0),(19,Pt (x 15) 0),(2,Pt b2 0),(4,Pt b4 0),(5,Pt b5 0),(6,Pt b6 0),(7,Pt b7 0),(8,Pt b8 0),(9,Pt b9 0),(10,N i),(11,U8 bt),(12,Pt b12 0),(13,Pt b13 0),(14,Pt b14 0),(15,Pt b15 0)] [⟨(x 16),Row 97 (DA.map I),true⟩,⟨(x 17),Row 97 (CB.map I),true⟩,⟨(x 18),Row 97 (AA.map I),true⟩,⟨(x 19),Row 97 (BB.map I),true⟩,⟨b12,Row 97 (A.map I),true⟩,⟨b13,Row 97 (B.map I),true⟩,⟨b14,Row 97 (C.map I),true⟩,⟨b15,Row 97 (D.map I),true⟩,⟨b6,Row 97 (X2.map I),true⟩,⟨b7,Row 97 (Z2.map I),true⟩,⟨b8,Row 97 (X3.map I),true⟩,⟨b9,Row 97 (Z3.map I),true⟩,⟨b5,Row 97 (x1.map I),true⟩,⟨b4,Row 23 ((List.replicate 32 (0 : By)).map U8),true⟩,⟨b2,Row 23 (K.map U8),true⟩]
            rw [h16,h17,h18,h19]
            generalize x 12=b16
            generalize x 13=b17
            generalize x 14=b18
            generalize x 15=b19
            clear hx h16 h17 h18 h19 x vs Ms
            repeat (first | refine JC.seq ?_ | refine JC.region ?_ | refine JE.next ?_)
            repeat (refine JL.q (by first|(apply OQ.af (cs:=AA.map I);exact cu;exact bg;rfl;exact (by repeat (first | exact Has.here | apply Has.there));exact (by rw [List.length_map];exact gAA.len);exact Row.all)|(apply OQ.af (cs:=BB.map I);exact cu;exact bg;rfl;exact (by repeat (first | exact Has.here | apply Has.there));exact (by rw [List.length_map];exact gBB.len);exact Row.all)|(apply OQ.au (vs:=[.agg (AA.map I).toArray,.agg (BB.map I).toArray]);exact kg;rfl;exact (fun w' _=>cE w'))) rfl ?_)
            refine JL.alloc jq rfl fun b20 _=>?_
            refine JL.ag (cs:=E.map I) bg rfl rfl (by rw [List.length_map];exact gE.len) (bE _) .here (by simp) ?_
            repeat (first | refine JC.seq ?_ | refine JL.nil ?_ | refine JE.next ?_)
            refine JC.tail 7 eD (by kernel_rfl) ?_
            simp only [List.take_succ_cons,List.take_zero,List.drop_succ_cons,List.drop_zero]
            repeat (first | refine JQ.q (by first|(apply OQ.af (cs:=DA.map I);exact cu;exact bg;rfl;exact (by repeat (first | exact Has.here | apply Has.there));exact (by rw [List.length_map];exact gDA.len);exact Row.all)|(apply OQ.af (cs:=CB.map I);exact cu;exact bg;rfl;exact (by repeat (first | exact Has.here | apply Has.there));exact (by rw [List.length_map];exact gCB.len);exact Row.all)|(apply OQ.au (vs:=[.agg (DA.map I).toArray,.agg (CB.map I).toArray]);exact mE;rfl;exact (fun w' _=>cH w'))|(apply OQ.au (vs:=[.agg (H.map I).toArray,.agg (H.map I).toArray]);exact cw;rfl;exact (fun w' _=>cR3 w'))) rfl ?_ | refine JQ.bC ?_)
            refine JL.ag (cs:=R3.map I) bg rfl rfl (by rw [List.length_map];exact gR3.len) (bE _) (by repeat (first | exact eJ.here | apply eJ.there)) (by rw [List.length_map];exact gX3.len) ?_
            repeat (first | refine JC.seq ?_ | refine JL.nil ?_ | refine JE.next ?_)
            refine JC.tail 9 eD (by kernel_rfl) ?_
            simp only [List.take_succ_cons,List.take_zero,List.drop_succ_cons,List.drop_zero]
            repeat (first | refine JQ.q (by first|(apply OQ.af (cs:=DA.map I);exact cu;exact bg;rfl;exact (by repeat (first | exact Has.here | apply Has.there));exact (by rw [List.length_map];exact gDA.len);exact Row.all)|(apply OQ.af (cs:=CB.map I);exact cu;exact bg;rfl;exact (by repeat (first | exact Has.here | apply Has.there));exact (by rw [List.length_map];exact gCB.len);exact Row.all)|(apply OQ.af (cs:=x1.map I);exact cu;exact bg;rfl;exact (by repeat (first | exact Has.here | apply Has.there));exact (by rw [List.length_map];exact gx.len);exact Row.all)|(apply OQ.au (vs:=[.agg (DA.map I).toArray,.agg (CB.map I).toArray]);exact kg;rfl;exact (fun w' _=>cJ w'))|(apply OQ.au (vs:=[.agg (J.map I).toArray,.agg (J.map I).toArray]);exact cw;rfl;exact (fun w' _=>cJJ w'))|(apply OQ.au (vs:=[.agg (x1.map I).toArray,.agg (JJ.map I).toArray]);exact cw;rfl;exact (fun w' _=>cR4 w'))) rfl ?_ | refine JQ.bC ?_)
            refine JL.ag (cs:=R4.map I) bg rfl rfl (by rw [List.length_map];exact gR4.len) (bE _) (by repeat (first | exact eJ.here | apply eJ.there)) (by rw [List.length_map];exact gZ3.len) ?_
            repeat (first | refine JL.q (by first|(apply OQ.af (cs:=AA.map I);exact cu;exact bg;rfl;exact (by repeat (first | exact Has.here | apply Has.there));exact (by rw [List.length_map];exact gAA.len);exact Row.all)|(apply OQ.af (cs:=BB.map I);exact cu;exact bg;rfl;exact (by repeat (first | exact Has.here | apply Has.there));exact (by rw [List.length_map];exact gBB.len);exact Row.all)|(apply OQ.au (vs:=[.agg (AA.map I).toArray,.agg (BB.map I).toArray]);exact cw;rfl;exact (fun w' _=>cR1 w'))) rfl ?_ | refine JC.seq ?_ | refine JC.region ?_ | refine JL.nil ?_ | refine JE.next ?_)
            refine JL.ag (cs:=R1.map I) bg rfl rfl (by rw [List.length_map];exact gR1.len) (bE _) (by repeat (first | exact eJ.here | apply eJ.there)) (by rw [List.length_map];exact gX2.len) ?_
            repeat (first | refine JC.seq ?_ | refine JL.nil ?_ | refine JE.next ?_)
            refine JC.tail 7 eD (by kernel_rfl) ?_
            simp only [List.take_succ_cons,List.take_zero,List.drop_succ_cons,List.drop_zero]
            repeat (refine JQ.q (by first|(apply OQ.af (cs:=E.map I);exact cu;exact bg;rfl;exact (by repeat (first | exact Has.here | apply Has.there));exact (by rw [List.length_map];exact gE.len);exact Row.all)|(apply OQ.af (cs:=AA.map I);exact cu;exact bg;rfl;exact (by repeat (first | exact Has.here | apply Has.there));exact (by rw [List.length_map];exact gAA.len);exact Row.all)) rfl ?_)
            refine JQ.q (OQ.pure (v:=.agg (cL.map I).toArray) rfl rfl (by kernel_rfl)) rfl ?_
            repeat (first | refine JQ.q (by first|(apply OQ.af (cs:=E.map I);exact cu;exact bg;rfl;exact (by repeat (first | exact Has.here | apply Has.there));exact (by rw [List.length_map];exact gE.len);exact Row.all)|(apply OQ.au (vs:=[.agg (cL.map I).toArray,.agg (E.map I).toArray]);exact cw;rfl;exact (fun w' _=>cF w'))|(apply OQ.au (vs:=[.agg (AA.map I).toArray,.agg (F.map I).toArray]);exact mE;rfl;exact (fun w' _=>cG w'))|(apply OQ.au (vs:=[.agg (E.map I).toArray,.agg (G.map I).toArray]);exact cw;rfl;exact (fun w' _=>cR2 w'))) rfl ?_ | refine JQ.bC ?_)
            refine JL.ag (cs:=R2.map I) bg rfl rfl (by rw [List.length_map];exact gR2.len) (bE _) (by repeat (first | exact eJ.here | apply eJ.there)) (by rw [List.length_map];exact gZ2.len) ?_
            repeat (first | refine JL.q (by first|(apply OQ.Lj (b:=1#8);rfl;rfl)|(apply OQ.move;rfl)) rfl ?_ | refine JC.seq ?_ | refine JC.region ?_ | refine JL.nil ?_ | refine JE.next ?_)
            refine JC.cond rfl (fun h=>?_) (fun h=>?_)
            · repeat (first | refine JL.q (by first|(apply OQ.af (cs:=R1.map I);exact cu;exact bg;rfl;exact (by repeat (first | exact Has.here | apply Has.there));exact (by rw [List.length_map];exact gR1.len);exact Row.all)|(apply OQ.af (cs:=R3.map I);exact cu;exact bg;rfl;exact (by repeat (first | exact Has.here | apply Has.there));exact (by rw [List.length_map];exact gR3.len);exact Row.all)) rfl ?_ | refine JC.seq ?_ | refine JC.region ?_)
              refine JL.ag (cs:=R3.map I) bg rfl rfl (by rw [List.length_map];exact gR3.len) (bE _) (by repeat (first | exact eJ.here | apply eJ.there)) (by rw [List.length_map];exact gR1.len) ?_
              skip
              refine JL.ag (cs:=R1.map I) bg rfl rfl (by rw [List.length_map];exact gR1.len) (bE _) (by repeat (first | exact eJ.here | apply eJ.there)) (by rw [List.length_map];exact gR3.len) ?_
              repeat (first | refine JL.q (by first|(apply OQ.af (cs:=R2.map I);exact cu;exact bg;rfl;exact (by repeat (first | exact Has.here | apply Has.there));exact (by rw [List.length_map];exact gR2.len);exact Row.all)|(apply OQ.af (cs:=R4.map I);exact cu;exact bg;rfl;exact (by repeat (first | exact Has.here | apply Has.there));exact (by rw [List.length_map];exact gR4.len);exact Row.all)) rfl ?_ | refine JC.region ?_ | refine JL.nil ?_ | refine JE.next ?_)
              refine JL.ag (cs:=R4.map I) bg rfl rfl (by rw [List.length_map];exact gR4.len) (bE _) (by repeat (first | exact eJ.here | apply eJ.there)) (by rw [List.length_map];exact gR2.len) ?_
              skip
              refine JL.ag (cs:=R2.map I) bg rfl rfl (by rw [List.length_map];exact gR2.len) (bE _) (by repeat (first | exact eJ.here | apply eJ.there)) (by rw [List.length_map];exact gR4.len) ?_
              repeat (first | refine JL.q (by (apply OQ.move;rfl)) rfl ?_ | refine JC.region ?_ | refine JL.nil ?_ | refine JE.next ?_ | refine JE.an ?_)
              repeat (first | refine JL.q (by first|(apply OQ.od (b:=1);rfl;rfl;exact (by omega);exact (by omega))|(apply OQ.assign;rfl)) rfl ?_ | refine JL.nil ?_)
              refine JE.again (i:=n) (n+1) (by omega) (by omega) ?_ ?_
              · rw [show (254 - ((n+1 : Nat) : Int))=(i : Int) - 1 by omega]
                exact (by repeat (first | exact ai.nil | refine ai.cons _ _ _ rfl ?_))
              · rw [eN,← hbit,h]
                repeat (first | exact aq.refl _ | refine aq.drop _ _ _ ?_)
            · repeat (first | refine JL.q (by (apply OQ.move;rfl)) rfl ?_ | refine JC.region ?_ | refine JC.skip ?_ | refine JE.next ?_ | refine JE.an ?_)
              repeat (first | refine JL.q (by first|(apply OQ.od (b:=1);rfl;rfl;exact (by omega);exact (by omega))|(apply OQ.assign;rfl)) rfl ?_ | refine JL.nil ?_)
              refine JE.again (i:=n) (n+1) (by omega) (by omega) ?_ ?_
              · rw [show (254 - ((n+1 : Nat) : Int))=(i : Int) - 1 by omega]
                exact (by repeat (first | exact ai.nil | refine ai.cons _ _ _ rfl ?_))
              · rw [eN,← hbit,h]
                repeat (first | exact aq.refl _ | refine aq.drop _ _ _ ?_)
      · have hn' : ¬ (0 : Int)≤254 - n:=of_decide_eq_false h
        obtain rfl : n=255:=by omega
        clear h hn hn'
        generalize jr x1 (le K) 255=s at ok eM ⊢
        obtain ⟨X2,Z2,X3,Z3⟩:=s
        have gX2 : Good X2:=ok.x2
        have gZ2 : Good Z2:=ok.z2
        dsimp only at eM ⊢
        have cV:=DS Z2 gZ2
        have gV:=jK gZ2 255
        generalize fO Z2 255=V at cV gV eM
        have cW:=dx X2 V gX2 gV
        have gW:=aI gX2 gV
        generalize mulL X2 V=W at cW gW eM
        have cY:=y8 W gW
        rw [eM] at cY
        have hly : ((aN k u).map U8).length=32:=by rw [List.length_map];exact iL _
        generalize aN k u=Y at cY hly ⊢
        repeat (first | refine JC.seq ?_ | refine JC.exit ?_ | refine JE.next ?_ | refine JE.ax ?_ | refine JE.aA ?_)
        refine JC.tail 5 eD (by kernel_rfl) ?_
        simp only [List.take_succ_cons,List.take_zero,List.drop_succ_cons,List.drop_zero]
        repeat (first | refine JQ.q (by first|(apply OQ.af (cs:=X2.map I);exact cu;exact bg;rfl;exact (by repeat (first | exact Has.here | apply Has.there));exact (by rw [List.length_map];exact gX2.len);exact Row.all)|(apply OQ.af (cs:=Z2.map I);exact cu;exact bg;rfl;exact (by repeat (first | exact Has.here | apply Has.there));exact (by rw [List.length_map];exact gZ2.len);exact Row.all)|(apply OQ.au (vs:=[.agg (Z2.map I).toArray]);exact BM;rfl;exact (fun w' _=>cV w'))|(apply OQ.au (vs:=[.agg (X2.map I).toArray,.agg (V.map I).toArray]);exact cw;rfl;exact (fun w' _=>cW w'))|(apply OQ.au (vs:=[.agg (W.map I).toArray]);exact w8;rfl;exact (fun w' _=>cY w'))) rfl ?_ | refine JQ.bC ?_)
        refine JL.ag (cs:=Y.map U8) aB rfl rfl hly (aV _) (by repeat (first | exact eJ.here | apply eJ.there)) (by simp) ?_
        repeat (first | refine JL.nil ?_ | refine JE.next ?_)
        refine JC.ret (JE.aQ rfl (RV.av aP aB rfl (by repeat (first | exact Has.here | apply Has.there)) hly Row.all) ?_)
        exact fun w' hw=>⟨rfl,hw.aL⟩
end
section
namespace dO
abbrev dM:=BitVec 64
structure N5 where
  a0 : dM
  a1 : dM
  a2 : dM
  a3 : dM
  a4 : dM
@[reducible] def N5.l (n : N5) : List dM:=[n.a0,n.a1,n.a2,n.a3,n.a4]
def iT (n : N5) : Nat:=n.a0.toNat+2251799813685248 * (n.a1.toNat+2251799813685248 * (n.a2.toNat+2251799813685248 * (n.a3.toNat+2251799813685248 * n.a4.toNat)))
structure dw (n : N5) : Prop where
  a0 : n.a0.toNat<2251799813947392
  a1 : n.a1.toNat<2251799813947392
  a2 : n.a2.toNat<2251799813947392
  a3 : n.a3.toNat<2251799813947392
  a4 : n.a4.toNat<2251799813947392
theorem IK : P=57896044618658097711785492504343953926634992332820282019728792003956564819949:=rfl
def fn (x : Nat) : F:=fi (x : Int)
theorem iM (x y : Nat) : fn (x+y)=fn x+fn y:=by
  unfold fn
  rw [Int.natCast_add,u9]
theorem kr (x y : Nat) : fn (x * y)=fn x * fn y:=by
  unfold fn
  rw [Int.natCast_mul,DM]
theorem vk {x y q : Nat} (h : x+q * P=y) : fn x=fn y:=by
  unfold fn
  refine (yX (q:=(q : Int)) ?_).symm
  rw [← h,Int.natCast_add,Int.natCast_mul]
theorem Ks {x : Nat} (h : x<P) : (fn x).val=x:=by
  have:=kf (x : Int)
  rw [Int.emod_eq_of_lt (by omega) (by omega)] at this
  unfold fn
  omega
def iy (n : N5) : F:=fn (iT n)
def rr : F:=2251799813685248
theorem M7 : rr * rr * rr * rr * rr=19:=by decide +kernel
theorem Hr : fn 2251799813685248=rr:=by decide +kernel
theorem Kt : fn 19=19:=by decide +kernel
theorem D4 (n : N5) : iy n=fn n.a0.toNat+rr * (fn n.a1.toNat+rr * (fn n.a2.toNat+rr * (fn n.a3.toNat+rr * fn n.a4.toNat))):=by
  unfold iy iT
  rw [iM,kr,iM,kr,iM,kr,iM,kr,Hr]
theorem bO (x : dM) : (x &&& 2251799813685247#64).toNat=x.toNat % 2251799813685248:=by
  rw [BitVec.toNat_and,show (2251799813685247#64).toNat=2 ^ 51 - 1 from rfl,Nat.and_two_pow_sub_one_eq_mod]
theorem de (x : dM) (k : Nat) : (x >>> k).toNat=x.toNat / 2 ^ k:=by rw [BitVec.toNat_ushiftRight,Nat.shiftRight_eq_div_pow]
theorem fh (x : dM) : (x >>> 51).toNat=x.toNat / 2251799813685248:=de x 51
theorem toNat_add {x y : dM} (h : x.toNat+y.toNat<18446744073709551616) : (x+y).toNat=x.toNat+y.toNat:=by
  rw [BitVec.toNat_add]
  exact Nat.mod_eq_of_lt h
theorem fj {y : dM} (h : 19 * y.toNat<18446744073709551616) : (19#64 * y).toNat=19 * y.toNat:=by
  rw [BitVec.toNat_mul]
  exact Nat.mod_eq_of_lt h
def sW (n : N5) : N5:=
  ⟨(n.a0 &&& 2251799813685247#64)+19#64 * (n.a4 >>> 51),(n.a1 &&& 2251799813685247#64)+n.a0 >>> 51,(n.a2 &&& 2251799813685247#64)+n.a1 >>> 51,
   (n.a3 &&& 2251799813685247#64)+n.a2 >>> 51,(n.a4 &&& 2251799813685247#64)+n.a3 >>> 51⟩
structure L7 (n m : N5) : Prop where
  a0 : m.a0.toNat=n.a0.toNat % 2251799813685248+19 * (n.a4.toNat / 2251799813685248)
  a1 : m.a1.toNat=n.a1.toNat % 2251799813685248+n.a0.toNat / 2251799813685248
  a2 : m.a2.toNat=n.a2.toNat % 2251799813685248+n.a1.toNat / 2251799813685248
  a3 : m.a3.toNat=n.a3.toNat % 2251799813685248+n.a2.toNat / 2251799813685248
  a4 : m.a4.toNat=n.a4.toNat % 2251799813685248+n.a3.toNat / 2251799813685248
theorem Aw (n : N5) : L7 n (sW n):=by
  have h0:=n.a0.isLt
  have h1:=n.a1.isLt
  have h2:=n.a2.isLt
  have h3:=n.a3.isLt
  have h4:=n.a4.isLt
  have m0:=bO n.a0
  have m1:=bO n.a1
  have m2:=bO n.a2
  have m3:=bO n.a3
  have m4:=bO n.a4
  have s0:=fh n.a0
  have s1:=fh n.a1
  have s2:=fh n.a2
  have s3:=fh n.a3
  have s4:=fh n.a4
  have f:=fj (y:=n.a4 >>> 51) (by omega)
  exact ⟨(toNat_add (by omega)).trans (by omega),(toNat_add (by omega)).trans (by omega),(toNat_add (by omega)).trans (by omega),(toNat_add (by omega)).trans (by omega),(toNat_add (by omega)).trans (by omega)⟩
theorem pH (n : N5) : dw (sW n):=by
  have c:=Aw n
  have h0:=n.a0.isLt
  have h1:=n.a1.isLt
  have h2:=n.a2.isLt
  have h3:=n.a3.isLt
  have h4:=n.a4.isLt
  exact ⟨by rw [c.a0];omega,by rw [c.a1];omega,by rw [c.a2];omega,by rw [c.a3];omega,by rw [c.a4];omega⟩
theorem D5 (n : N5) : iT (sW n)+n.a4.toNat / 2251799813685248 * P=iT n:=by
  have c:=Aw n
  unfold iT
  rw [c.a0,c.a1,c.a2,c.a3,c.a4,IK]
  omega
theorem vl (n : N5) : iy (sW n)=iy n:=vk (D5 n)
def pI (a b : N5) : N5:=sW ⟨a.a0+b.a0,a.a1+b.a1,a.a2+b.a2,a.a3+b.a3,a.a4+b.a4⟩
def nN (a b : N5) : N5:=sW ⟨a.a0+4503599627370458#64 - b.a0,a.a1+4503599627370494#64 - b.a1,a.a2+4503599627370494#64 - b.a2,a.a3+4503599627370494#64 - b.a3,a.a4+4503599627370494#64 - b.a4⟩
theorem jM (a b : N5) : dw (pI a b):=pH _
theorem iz (a b : N5) : dw (nN a b):=pH _
theorem qF {a b : N5} (ha : dw a) (hb : dw b) : iy (pI a b)=iy a+iy b:=by
  obtain ⟨p0,p1,p2,p3,p4⟩:=ha
  obtain ⟨q0,q1,q2,q3,q4⟩:=hb
  have e0:=toNat_add (x:=a.a0) (y:=b.a0) (by omega)
  have e1:=toNat_add (x:=a.a1) (y:=b.a1) (by omega)
  have e2:=toNat_add (x:=a.a2) (y:=b.a2) (by omega)
  have e3:=toNat_add (x:=a.a3) (y:=b.a3) (by omega)
  have e4:=toNat_add (x:=a.a4) (y:=b.a4) (by omega)
  unfold pI
  rw [vl]
  unfold iy
  rw [← iM]
  congr 1
  unfold iT
  rw [e0,e1,e2,e3,e4]
  omega
theorem iN {x y : dM} {c : Nat} (h : x.toNat+c<18446744073709551616) (hy : y.toNat≤c) : (x+BitVec.ofNat 64 c - y).toNat+y.toNat=x.toNat+c:=by
  rw [BitVec.toNat_sub,BitVec.toNat_add,BitVec.toNat_ofNat]
  have:=y.isLt
  omega
theorem qG {a b : N5} (ha : dw a) (hb : dw b) : iy (nN a b)=iy a - iy b:=by
  obtain ⟨p0,p1,p2,p3,p4⟩:=ha
  obtain ⟨q0,q1,q2,q3,q4⟩:=hb
  have e0:=iN (x:=a.a0) (y:=b.a0) (c:=4503599627370458) (by omega) (by omega)
  have e1:=iN (x:=a.a1) (y:=b.a1) (c:=4503599627370494) (by omega) (by omega)
  have e2:=iN (x:=a.a2) (y:=b.a2) (c:=4503599627370494) (by omega) (by omega)
  have e3:=iN (x:=a.a3) (y:=b.a3) (c:=4503599627370494) (by omega) (by omega)
  have e4:=iN (x:=a.a4) (y:=b.a4) (c:=4503599627370494) (by omega) (by omega)
  unfold nN
  rw [vl]
  have k : fn (iT ⟨a.a0+4503599627370458#64 - b.a0,a.a1+4503599627370494#64 - b.a1,a.a2+4503599627370494#64 - b.a2,a.a3+4503599627370494#64 - b.a3,a.a4+4503599627370494#64 - b.a4⟩+iT b)=fn (iT a):=by
    refine (vk (q:=2) ?_).symm
    unfold iT
    simp only
    rw [IK]
    omega
  rw [iM] at k
  unfold iy
  rw [← k]
  generalize fn (iT b)=y
  generalize fn (iT _)=x
  clear k
  grobner
structure W2 where
  hi : dM
  lo : dM
@[reducible] def W2.l (w : W2) : List dM:=[w.hi,w.lo]
def W2.v (w : W2) : Nat:=w.hi.toNat * 18446744073709551616+w.lo.toNat
def rX (a b : dM) : dM:=BitVec.ofNat 64 (a.toNat * b.toNat / 18446744073709551616)
def Hs (a b : dM) : dM:=BitVec.ofNat 64 ((a.toNat+b.toNat) / 18446744073709551616)
def x6 (a b : dM) : W2:=⟨rX a b,a * b⟩
def ku (w : W2) (a b : dM) : W2:=⟨w.hi+rX a b+Hs w.lo (a * b),w.lo+a * b⟩
def qH (w : W2) : dM:=w.hi <<< 13 ||| w.lo >>> 51
theorem rY (a b : dM) : (rX a b).toNat=a.toNat * b.toNat / 18446744073709551616:=by
  unfold rX
  rw [BitVec.toNat_ofNat]
  apply Nat.mod_eq_of_lt
  have h:=Nat.mul_lt_mul'' a.isLt b.isLt
  omega
theorem zb (a b : dM) : (Hs a b).toNat=(a.toNat+b.toNat) / 18446744073709551616:=by
  unfold Hs
  rw [BitVec.toNat_ofNat]
  have:=a.isLt
  have:=b.isLt
  omega
theorem Ku (a b : dM) : (x6 a b).v=a.toNat * b.toNat:=by
  unfold x6 W2.v
  simp only
  rw [rY,BitVec.toNat_mul]
  omega
theorem Ax {w : W2} {a b : dM} (h : w.v+a.toNat * b.toNat<340282366920938463463374607431768211456) : (ku w a b).v=w.v+a.toNat * b.toNat:=by
  unfold ku W2.v at *
  simp only at *
  rw [BitVec.toNat_add,BitVec.toNat_add,BitVec.toNat_add,zb,rY,BitVec.toNat_mul]
  generalize a.toNat * b.toNat=p at *
  have:=w.lo.isLt
  have:=w.hi.isLt
  omega
theorem oZ (x y : dM) {k : Nat} (hk : k≤64) (hx : x.toNat<2 ^ k) : (y <<< k ||| x).toNat=y.toNat * 2 ^ k % 2 ^ 64+x.toNat:=by
  have e : (y.toNat * 2 ^ k % 2 ^ 64)=(y.toNat % 2 ^ (64 - k)) <<< k:=by
    rw [Nat.shiftLeft_eq,← Nat.mul_mod_mul_right,← Nat.pow_add,Nat.sub_add_cancel hk]
  rw [BitVec.toNat_or,BitVec.toNat_shiftLeft,Nat.shiftLeft_eq,e,← Nat.shiftLeft_add_eq_or_of_lt hx]
theorem rZ {w : W2} (h : w.v<41538374868278621028243970633760768) : (qH w).toNat=w.v / 2251799813685248:=by
  unfold qH
  have hs:=fh w.lo
  have l:=w.lo.isLt
  rw [oZ _ _ (k:=13) (by omega) (by omega),hs]
  unfold W2.v at *
  omega
def Kv (w0 w1 w2 w3 w4 : W2) : N5:=
  sW ⟨(w0.lo &&& 2251799813685247#64)+19#64 * qH w4,(w1.lo &&& 2251799813685247#64)+qH w0,(w2.lo &&& 2251799813685247#64)+qH w1,(w3.lo &&& 2251799813685247#64)+qH w2,(w4.lo &&& 2251799813685247#64)+qH w3⟩
def cI (a b : N5) : N5:=
  let f1:=19#64 * b.a1
  let f2:=19#64 * b.a2
  let f3:=19#64 * b.a3
  let f4:=19#64 * b.a4
  Kv (ku (ku (ku (ku (x6 a.a0 b.a0) a.a1 f4) a.a2 f3) a.a3 f2) a.a4 f1)
    (ku (ku (ku (ku (x6 a.a0 b.a1) a.a1 b.a0) a.a2 f4) a.a3 f3) a.a4 f2)
    (ku (ku (ku (ku (x6 a.a0 b.a2) a.a1 b.a1) a.a2 b.a0) a.a3 f4) a.a4 f3)
    (ku (ku (ku (ku (x6 a.a0 b.a3) a.a1 b.a2) a.a2 b.a1) a.a3 b.a0) a.a4 f4)
    (ku (ku (ku (ku (x6 a.a0 b.a4) a.a1 b.a3) a.a2 b.a2) a.a3 b.a1) a.a4 b.a0)
theorem bP (a b : N5) : dw (cI a b):=pH _
theorem IL {w0 w1 w2 w3 w4 : W2} (h0 : w0.v<5192296858534827628530496329220096) (h1 : w1.v<5192296858534827628530496329220096) (h2 : w2.v<5192296858534827628530496329220096) (h3 : w3.v<5192296858534827628530496329220096) (h4 : w4.v<324518553658426726783156020576256) :
    iy (Kv w0 w1 w2 w3 w4)=fn w0.v+rr * (fn w1.v+rr * (fn w2.v+rr * (fn w3.v+rr * fn w4.v))):=by
  have r0:=rZ (w:=w0) (by omega)
  have r1:=rZ (w:=w1) (by omega)
  have r2:=rZ (w:=w2) (by omega)
  have r3:=rZ (w:=w3) (by omega)
  have r4:=rZ (w:=w4) (by omega)
  have lo : ∀ w : W2,w.lo.toNat % 2251799813685248=w.v % 2251799813685248:=fun w=>by
    unfold W2.v
    omega
  have m0:=(bO w0.lo).trans (lo w0)
  have m1:=(bO w1.lo).trans (lo w1)
  have m2:=(bO w2.lo).trans (lo w2)
  have m3:=(bO w3.lo).trans (lo w3)
  have m4:=(bO w4.lo).trans (lo w4)
  clear lo
  have f:=fj (y:=qH w4) (by omega)
  have e0:=toNat_add (x:=w0.lo &&& 2251799813685247#64) (y:=19#64 * qH w4) (by omega)
  have e1:=toNat_add (x:=w1.lo &&& 2251799813685247#64) (y:=qH w0) (by omega)
  have e2:=toNat_add (x:=w2.lo &&& 2251799813685247#64) (y:=qH w1) (by omega)
  have e3:=toNat_add (x:=w3.lo &&& 2251799813685247#64) (y:=qH w2) (by omega)
  have e4:=toNat_add (x:=w4.lo &&& 2251799813685247#64) (y:=qH w3) (by omega)
  unfold Kv
  rw [vl,← Hr,← kr,← iM,← kr,← iM,← kr,← iM,← kr,← iM]
  refine vk (q:=w4.v / 2251799813685248) ?_
  unfold iT
  simp only
  rw [e0,e1,e2,e3,e4,f,m0,m1,m2,m3,m4,r0,r1,r2,r3,r4,IK]
  clear e0 e1 e2 e3 e4 f m0 m1 m2 m3 m4 r0 r1 r2 r3 r4
  generalize w0.v=v0 at *
  generalize w1.v=v1 at *
  generalize w2.v=v2 at *
  generalize w3.v=v3 at *
  generalize w4.v=v4 at *
  omega
theorem Kw {x y : Nat} {c d : Nat} (hx : x<c) (hy : y<d) : x * y≤c * d:=Nat.mul_le_mul (Nat.le_of_lt hx) (Nat.le_of_lt hy)
theorem D6 {a0 a1 a2 a3 a4 b0 b1 b2 b3 b4 : dM} (h0 : a0.toNat<2251799813947392) (h1 : a1.toNat<2251799813947392) (h2 : a2.toNat<2251799813947392) (h3 : a3.toNat<2251799813947392) (h4 : a4.toNat<2251799813947392)
    {d : Nat} (hd : d≤42784196465000448) (k0 : b0.toNat<d) (k1 : b1.toNat<d) (k2 : b2.toNat<d) (k3 : b3.toNat<d) (k4 : b4.toNat<d) :
    (ku (ku (ku (ku (x6 a0 b0) a1 b1) a2 b2) a3 b3) a4 b4).v=a0.toNat * b0.toNat+a1.toNat * b1.toNat+a2.toNat * b2.toNat+a3.toNat * b3.toNat+a4.toNat * b4.toNat∧
    (ku (ku (ku (ku (x6 a0 b0) a1 b1) a2 b2) a3 b3) a4 b4).v≤11258999069736960 * d:=by
  have p0:=Kw h0 k0
  have p1:=Kw h1 k1
  have p2:=Kw h2 k2
  have p3:=Kw h3 k3
  have p4:=Kw h4 k4
  have e0:=Ku a0 b0
  have e1:=Ax (w:=x6 a0 b0) (a:=a1) (b:=b1) (by rw [e0];omega)
  rw [e0] at e1
  have e2:=Ax (w:=ku (x6 a0 b0) a1 b1) (a:=a2) (b:=b2) (by rw [e1];omega)
  rw [e1] at e2
  have e3:=Ax (w:=ku (ku (x6 a0 b0) a1 b1) a2 b2) (a:=a3) (b:=b3) (by rw [e2];omega)
  rw [e2] at e3
  have e4:=Ax (w:=ku (ku (ku (x6 a0 b0) a1 b1) a2 b2) a3 b3) (a:=a4) (b:=b4) (by rw [e3];omega)
  rw [e3] at e4
  refine ⟨e4,?_⟩
  rw [e4]
  omega
theorem fH {a b : N5} (ha : dw a) (hb : dw b) : iy (cI a b)=iy a * iy b:=by
  obtain ⟨p0,p1,p2,p3,p4⟩:=ha
  obtain ⟨q0,q1,q2,q3,q4⟩:=hb
  have f1:=fj (y:=b.a1) (by omega)
  have f2:=fj (y:=b.a2) (by omega)
  have f3:=fj (y:=b.a3) (by omega)
  have f4:=fj (y:=b.a4) (by omega)
  have v0:=D6 p0 p1 p2 p3 p4 (b0:=b.a0) (b1:=19#64 * b.a4) (b2:=19#64 * b.a3) (b3:=19#64 * b.a2) (b4:=19#64 * b.a1) (d:=42784196465000448) (by omega) (by omega) (by omega) (by omega) (by omega) (by omega)
  have v1:=D6 p0 p1 p2 p3 p4 (b0:=b.a1) (b1:=b.a0) (b2:=19#64 * b.a4) (b3:=19#64 * b.a3) (b4:=19#64 * b.a2) (d:=42784196465000448) (by omega) (by omega) (by omega) (by omega) (by omega) (by omega)
  have v2:=D6 p0 p1 p2 p3 p4 (b0:=b.a2) (b1:=b.a1) (b2:=b.a0) (b3:=19#64 * b.a4) (b4:=19#64 * b.a3) (d:=42784196465000448) (by omega) (by omega) (by omega) (by omega) (by omega) (by omega)
  have v3:=D6 p0 p1 p2 p3 p4 (b0:=b.a3) (b1:=b.a2) (b2:=b.a1) (b3:=b.a0) (b4:=19#64 * b.a4) (d:=42784196465000448) (by omega) (by omega) (by omega) (by omega) (by omega) (by omega)
  have v4:=D6 p0 p1 p2 p3 p4 (b0:=b.a4) (b1:=b.a3) (b2:=b.a2) (b3:=b.a1) (b4:=b.a0) (d:=2251799813947392) (by omega) q4 q3 q2 q1 q0
  unfold cI
  simp only
  rw [IL (by have:=v0.2;omega) (by have:=v1.2;omega) (by have:=v2.2;omega) (by have:=v3.2;omega) (by have:=v4.2;omega),v0.1,v1.1,v2.1,v3.1,v4.1,f1,f2,f3,f4,D4,D4]
  simp only [iM,kr,Kt]
  have h:=M7
  generalize rr=r at *
  generalize fn a.a0.toNat=x0
  generalize fn a.a1.toNat=x1
  generalize fn a.a2.toNat=x2
  generalize fn a.a3.toNat=x3
  generalize fn a.a4.toNat=x4
  generalize fn b.a0.toNat=y0
  generalize fn b.a1.toNat=y1
  generalize fn b.a2.toNat=y2
  generalize fn b.a3.toNat=y3
  generalize fn b.a4.toNat=y4
  clear v0 v1 v2 v3 v4 f1 f2 f3 f4 p0 p1 p2 p3 p4 q0 q1 q2 q3 q4
  grobner
end dO
end
section
namespace dO
def mT (n : N5) : Nat→N5
  | 0=>n
  | k+1=>cI (mT n k) (mT n k)
theorem Kx {n : N5} (h : dw n) : ∀ k,dw (mT n k)
  | 0=>h
  | _+1=>bP _ _
structure Pow (x : F) (n : N5) (e : Nat) : Prop where
  y5 : dw n
  fv : iy n=pw x e
theorem Pow.mul {x : F} {a b : N5} {d e : Nat} (ha : Pow x a d) (hb : Pow x b e) : Pow x (cI a b) (d+e):=
  ⟨bP _ _,by rw [fH ha.y5 hb.y5,ha.fv,hb.fv,pB]⟩
theorem Pow.sq {x : F} {a : N5} {d : Nat} (ha : Pow x a d) : ∀ k,Pow x (mT a k) (d * 2 ^ k)
  | 0=>by rw [Nat.pow_zero,Nat.mul_one];exact ha
  | k+1=>by
    have:=(ha.sq k).mul (ha.sq k)
    rw [show d * 2 ^ (k+1)=d * 2 ^ k+d * 2 ^ k by rw [Nat.pow_succ,← Nat.mul_assoc];omega]
    exact this
theorem Pow.to {x : F} {a : N5} {d e : Nat} (h : Pow x a d) (he : Nat.beq d e=true) : Pow x a e:=Nat.eq_of_beq_eq_true he ▸ h
structure L8 where
  two : N5
  nine : N5
  nO : N5
  o5 : N5
  jN : N5
  ni : N5
  r8 : N5
  lG : N5
  gS : N5
  lH : N5
  oG : N5
  all : N5
def L9 (n : N5) : L8:=
  let two:=mT n 1
  let nine:=cI (mT two 2) n
  let nO:=cI nine two
  let o5:=cI (mT nO 1) nine
  let jN:=cI (mT o5 5) o5
  let ni:=cI (mT jN 10) jN
  let r8:=cI (mT ni 20) ni
  let lG:=cI (mT r8 10) jN
  let gS:=cI (mT lG 50) lG
  let lH:=cI (mT gS 100) gS
  let oG:=cI (mT lH 50) lG
  ⟨two,nine,nO,o5,jN,ni,r8,lG,gS,lH,oG,cI (mT oG 5) nO⟩
def r9 (n : N5) : N5:=(L9 n).all
theorem w9 {n : N5} (h : dw n) : Pow (iy n) (r9 n) (P - 2):=by
  have h1 : Pow (iy n) n 1:=⟨h,by show iy n=1 * iy n;grobner⟩
  have two:=h1.sq 1
  have nine:=(two.sq 2).mul h1
  have nO:=nine.mul two
  have o5:=(nO.sq 1).mul nine
  have jN:=(o5.sq 5).mul o5
  have ni:=(jN.sq 10).mul jN
  have r8:=(ni.sq 20).mul ni
  have lG:=(r8.sq 10).mul jN
  have gS:=(lG.sq 50).mul lG
  have lH:=(gS.sq 100).mul gS
  have oG:=(lH.sq 50).mul lG
  have all:=(oG.sq 5).mul nO
  have r:=all.to (e:=P - 2) (by decide +kernel)
  exact r
theorem FW {n : N5} (h : dw n) : iy (r9 n)=inv (iy n):=(w9 h).fv
theorem BR {n : N5} (h : dw n) : dw (r9 n):=(w9 h).y5
end dO
end
section
namespace dO
def ir (l : List dM) (c : dM) : Nat→dM
  | 0=>c
  | i+1=>(l.getD i 0+ir l c i) >>> 51
def EZ (l : List dM) (c : dM) : Nat→List dM
  | 0=>l
  | i+1=>(EZ l c i).set i ((l.getD i 0+ir l c i) &&& 2251799813685247#64)
theorem Ay (l : List dM) (c : dM) : ∀ i,(EZ l c i).length=l.length
  | 0=>rfl
  | i+1=>by rw [EZ,List.length_set,Ay l c i]
def vm (n : N5) : N5:=
  let c:=19#64 * ir n.l 19#64 5
  ⟨(n.a0+ir n.l c 0) &&& 2251799813685247#64,(n.a1+ir n.l c 1) &&& 2251799813685247#64,(n.a2+ir n.l c 2) &&& 2251799813685247#64,(n.a3+ir n.l c 3) &&& 2251799813685247#64,(n.a4+ir n.l c 4) &&& 2251799813685247#64⟩
theorem FX (n : N5) : EZ n.l (19#64 * ir n.l 19#64 5) 5=(vm n).l:=rfl
theorem D7 (l : List dM) (c : dM) (i : Nat) (h : (l.getD i 0).toNat<2251799813947392) (hc : (ir l c i).toNat<2251799813947392) : (ir l c (i+1)).toNat=((l.getD i 0).toNat+(ir l c i).toNat) / 2251799813685248:=by
  rw [ir,fh,toNat_add (by omega)]
structure Ky (n : N5) : Prop where
  a0 : n.a0.toNat<2251799813685248
  a1 : n.a1.toNat<2251799813685248
  a2 : n.a2.toNat<2251799813685248
  a3 : n.a3.toNat<2251799813685248
  a4 : n.a4.toNat<2251799813685248
theorem D8 {n0 n1 n2 n3 n4 r0 r1 r2 r3 r4 r5 : Nat} (e1 : r1=(n0+r0) / 2251799813685248) (e2 : r2=(n1+r1) / 2251799813685248) (e3 : r3=(n2+r2) / 2251799813685248) (e4 : r4=(n3+r3) / 2251799813685248) (e5 : r5=(n4+r4) / 2251799813685248) :
    ∃ s,s<57896044618658097711785492504343953926634992332820282019728792003956564819968∧
      s=(n0+r0) % 2251799813685248+2251799813685248 * ((n1+r1) % 2251799813685248+2251799813685248 * ((n2+r2) % 2251799813685248+2251799813685248 * ((n3+r3) % 2251799813685248+2251799813685248 * ((n4+r4) % 2251799813685248))))∧
      n0+2251799813685248 * (n1+2251799813685248 * (n2+2251799813685248 * (n3+2251799813685248 * n4)))+r0=s+57896044618658097711785492504343953926634992332820282019728792003956564819968 * r5:=by
  have d0:=Nat.div_add_mod (n0+r0) 2251799813685248
  have d1:=Nat.div_add_mod (n1+r1) 2251799813685248
  have d2:=Nat.div_add_mod (n2+r2) 2251799813685248
  have d3:=Nat.div_add_mod (n3+r3) 2251799813685248
  have d4:=Nat.div_add_mod (n4+r4) 2251799813685248
  have b0:=Nat.mod_lt (n0+r0) (show 2251799813685248>0 by decide)
  have b1:=Nat.mod_lt (n1+r1) (show 2251799813685248>0 by decide)
  have b2:=Nat.mod_lt (n2+r2) (show 2251799813685248>0 by decide)
  have b3:=Nat.mod_lt (n3+r3) (show 2251799813685248>0 by decide)
  have b4:=Nat.mod_lt (n4+r4) (show 2251799813685248>0 by decide)
  rw [← e1] at d0
  rw [← e2] at d1
  rw [← e3] at d2
  rw [← e4] at d3
  rw [← e5] at d4
  clear e1 e2 e3 e4 e5
  refine ⟨_,?_,rfl,?_⟩
  · clear d0 d1 d2 d3 d4
    generalize (n0+r0) % 2251799813685248=s0 at *
    generalize (n1+r1) % 2251799813685248=s1 at *
    generalize (n2+r2) % 2251799813685248=s2 at *
    generalize (n3+r3) % 2251799813685248=s3 at *
    generalize (n4+r4) % 2251799813685248=s4 at *
    omega
  · clear b0 b1 b2 b3 b4
    generalize (n0+r0) % 2251799813685248=s0 at *
    generalize (n1+r1) % 2251799813685248=s1 at *
    generalize (n2+r2) % 2251799813685248=s2 at *
    generalize (n3+r3) % 2251799813685248=s3 at *
    generalize (n4+r4) % 2251799813685248=s4 at *
    omega
theorem BS {v o s S r : Nat} (hv : v<115792089237316195423570985008687907853269984665640564039457584007913129639898)
    (hs : s<57896044618658097711785492504343953926634992332820282019728792003956564819968) (h1 : v+19=s+57896044618658097711785492504343953926634992332820282019728792003956564819968 * o)
    (hS : S<57896044618658097711785492504343953926634992332820282019728792003956564819968) (h2 : v+19 * o=S+57896044618658097711785492504343953926634992332820282019728792003956564819968 * r) :
    S+o * 57896044618658097711785492504343953926634992332820282019728792003956564819949=v∧S<57896044618658097711785492504343953926634992332820282019728792003956564819949:=by
  have : o=0∨o=1:=by omega
  rcases this with rfl | rfl
  · omega
  · omega
theorem zd {l : List dM} {c : dM} (h : ∀ i,(l.getD i 0).toNat<2251799813947392) (hc : c.toNat<2251799813947392) : ∀ i,(ir l c i).toNat<2251799813947392
  | 0=>hc
  | i+1=>by
    have h1:=h i
    have h2:=zd h hc i
    rw [D7 l c i h1 h2]
    omega
theorem D9 {n : N5} (h : dw n) : ∀ i,(n.l.getD i 0).toNat<2251799813947392
  | 0=>h.a0
  | 1=>h.a1
  | 2=>h.a2
  | 3=>h.a3
  | 4=>h.a4
  | i+5=>by
    show (0 : dM).toNat<_
    decide
theorem FY {n : N5} (h : dw n) : Ky (vm n)∧iT (vm n)=(iy n).val:=by
  have ll:=D9 h
  have hr : ∀ c : dM,c.toNat<2251799813947392→∀ i,(ir n.l c (i+1)).toNat=((n.l.getD i 0).toNat+(ir n.l c i).toNat) / 2251799813685248:=fun c hc i=>D7 n.l c i (ll i) (zd ll hc i)
  have hm : ∀ (c : dM) (x : dM) (i : Nat),c.toNat<2251799813947392→x.toNat<2251799813947392→((x+ir n.l c i) &&& 2251799813685247#64).toNat=(x.toNat+(ir n.l c i).toNat) % 2251799813685248:=fun c x i hc hx=>by
    have h2:=zd ll hc i
    rw [bO,toNat_add (by omega)]
  obtain ⟨p0,p1,p2,p3,p4⟩:=h
  have hb : (19#64 : dM).toNat<2251799813947392:=by decide
  obtain ⟨s,hs,_,h1⟩:=D8 (n0:=n.a0.toNat) (n1:=n.a1.toNat) (n2:=n.a2.toNat) (n3:=n.a3.toNat) (n4:=n.a4.toNat) (hr _ hb 0) (hr _ hb 1) (hr _ hb 2) (hr _ hb 3) (hr _ hb 4)
  have t0 : (ir n.l 19#64 0).toNat=19:=rfl
  rw [t0] at h1
  have hv : n.a0.toNat+2251799813685248 * (n.a1.toNat+2251799813685248 * (n.a2.toNat+2251799813685248 * (n.a3.toNat+2251799813685248 * n.a4.toNat)))<115792089237316195423570985008687907853269984665640564039457584007913129639898:=by
    clear h1 hr hm ll
    omega
  have ho : (ir n.l 19#64 (4+1)).toNat≤1:=by
    clear hr hm ll
    omega
  have c:=fj (y:=ir n.l 19#64 (4+1)) (by omega)
  have hC : (19#64 * ir n.l 19#64 (4+1)).toNat<2251799813947392:=by omega
  obtain ⟨S,hS,eS,h2⟩:=D8 (n0:=n.a0.toNat) (n1:=n.a1.toNat) (n2:=n.a2.toNat) (n3:=n.a3.toNat) (n4:=n.a4.toNat) (hr _ hC 0) (hr _ hC 1) (hr _ hC 2) (hr _ hC 3) (hr _ hC 4)
  have t1 : (ir n.l (19#64 * ir n.l 19#64 (4+1)) 0).toNat=19 * (ir n.l 19#64 (4+1)).toNat:=c
  have hh2:=h2
  rw [t1] at hh2
  obtain ⟨f1,f2⟩:=BS hv hs h1 hS hh2
  have m0:=hm (19#64 * ir n.l 19#64 (4+1)) n.a0 0 hC p0
  have m1:=hm (19#64 * ir n.l 19#64 (4+1)) n.a1 1 hC p1
  have m2:=hm (19#64 * ir n.l 19#64 (4+1)) n.a2 2 hC p2
  have m3:=hm (19#64 * ir n.l 19#64 (4+1)) n.a3 3 hC p3
  have m4:=hm (19#64 * ir n.l 19#64 (4+1)) n.a4 4 hC p4
  refine ⟨⟨?_,?_,?_,?_,?_⟩,?_⟩
  · exact m0 ▸ Nat.mod_lt _ (by decide)
  · exact m1 ▸ Nat.mod_lt _ (by decide)
  · exact m2 ▸ Nat.mod_lt _ (by decide)
  · exact m3 ▸ Nat.mod_lt _ (by decide)
  · exact m4 ▸ Nat.mod_lt _ (by decide)
  · have ev : iT (vm n)=S:=by
      rw [eS]
      unfold iT
      show ((n.a0+ir n.l (19#64 * ir n.l 19#64 (4+1)) 0) &&& 2251799813685247#64).toNat+2251799813685248 * (((n.a1+ir n.l (19#64 * ir n.l 19#64 (4+1)) 1) &&& 2251799813685247#64).toNat+2251799813685248 * (((n.a2+ir n.l (19#64 * ir n.l 19#64 (4+1)) 2) &&& 2251799813685247#64).toNat+2251799813685248 * (((n.a3+ir n.l (19#64 * ir n.l 19#64 (4+1)) 3) &&& 2251799813685247#64).toNat+2251799813685248 * ((n.a4+ir n.l (19#64 * ir n.l 19#64 (4+1)) 4) &&& 2251799813685247#64).toNat)))=_
      rw [m0,m1,m2,m3,m4]
    have hf : iy n=fn S:=by
      unfold iy iT
      exact (vk (q:=(ir n.l 19#64 (4+1)).toNat) f1).symm
    rw [ev,hf,Ks f2]
end dO
end
section
namespace dO
theorem jh (x y : dM) {k : Nat} (hk : k≤64) (hx : x.toNat<2 ^ k) : (x ||| y <<< k).toNat=y.toNat * 2 ^ k % 2 ^ 64+x.toNat:=by
  rw [BitVec.or_comm,oZ x y hk hx]
def xb (n : N5) : List dM:=[n.a0 ||| n.a1 <<< 51,n.a1 >>> 13 ||| n.a2 <<< 38,n.a2 >>> 26 ||| n.a3 <<< 25,n.a3 >>> 39 ||| n.a4 <<< 12]
def ze (w : dM) : List By:=[(w >>> 0).setWidth 8,(w >>> 8).setWidth 8,(w >>> 16).setWidth 8,(w >>> 24).setWidth 8,(w >>> 32).setWidth 8,(w >>> 40).setWidth 8,(w >>> 48).setWidth 8,(w >>> 56).setWidth 8]
theorem M8 (w : dM) (k : Nat) : ((w >>> k).setWidth 8).toNat=w.toNat / 2 ^ k % 256:=by
  rw [BitVec.toNat_setWidth,de]
theorem vn (w : dM) : le (ze w)=w.toNat:=by
  unfold ze
  simp only [le,M8]
  have:=w.isLt
  omega
def Az (w : List dM) : Nat→List By
  | 0=>List.replicate 32 0
  | i+1=>(Az w i).set i ((w.getD (i / 8) 0 >>> (i % 8 * 8)).setWidth 8)
theorem AB (w : List dM) : ∀ i,(Az w i).length=32
  | 0=>rfl
  | i+1=>by rw [Az,List.length_set,AB w i]
theorem FZ (a b c d : dM) : Az [a,b,c,d] 32=ze a++(ze b++(ze c++ze d)):=by kernel_rfl
theorem IM {n : N5} (h : Ky n) : Az (xb n) 32=y6 32 (iT n):=by
  obtain ⟨p0,p1,p2,p3,p4⟩:=h
  have e0:=jh n.a0 n.a1 (k:=51) (by omega) (by omega)
  have s1:=de n.a1 13
  have s2:=de n.a2 26
  have s3:=de n.a3 39
  have e1:=jh (n.a1 >>> 13) n.a2 (k:=38) (by omega) (by omega)
  have e2:=jh (n.a2 >>> 26) n.a3 (k:=25) (by omega) (by omega)
  have e3:=jh (n.a3 >>> 39) n.a4 (k:=12) (by omega) (by omega)
  unfold xb
  rw [FZ]
  have l8 : ∀ w,(ze w).length=8:=fun _=>rfl
  have el : le (ze (n.a0 ||| n.a1 <<< 51)++(ze (n.a1 >>> 13 ||| n.a2 <<< 38)++(ze (n.a2 >>> 26 ||| n.a3 <<< 25)++ze (n.a3 >>> 39 ||| n.a4 <<< 12))))=iT n:=by
    rw [iw,iw,iw,l8,l8,l8,vn,vn,vn,vn,e0,e1,e2,e3,s1,s2,s3]
    unfold iT
    omega
  rw [← el]
  have:=vh (ze (n.a0 ||| n.a1 <<< 51)++(ze (n.a1 >>> 13 ||| n.a2 <<< 38)++(ze (n.a2 >>> 26 ||| n.a3 <<< 25)++ze (n.a3 >>> 39 ||| n.a4 <<< 12))))
  exact this.symm
def Ju (n : N5) : List By:=Az (xb (vm n)) 32
theorem IN {n : N5} (h : dw n) : Ju n=sV (iy n):=by
  have:=FY h
  rw [Ju,IM this.1,this.2];rfl
def sM (k : List By) (p : Nat) : Nat→dM
  | 0=>0
  | i+1=>sM k p i ||| ((k.getD (8 * p+i) 0).setWidth 64) <<< (8 * i)
theorem sg (k : List By) (p : Nat) : ∀ i,i≤8→8 * p+i≤k.length→(sM k p i).toNat=le ((k.drop (8 * p)).take i)
  | 0,_,_=>rfl
  | i+1,hi,hl=>by
    have ih:=sg k p i (by omega) (by omega)
    have lt:=Ho ((k.drop (8 * p)).take i)
    have ln : ((k.drop (8 * p)).take i).length=i:=by rw [List.length_take,List.length_drop];omega
    rw [ln,show 256 ^ i=2 ^ (8 * i) by rw [Nat.pow_mul]] at lt
    have hb : (k.drop (8 * p))[i]?=some (k.getD (8 * p+i) 0):=by
      rw [List.getElem?_drop,List.getD_eq_getElem?_getD,List.getElem?_eq_getElem (by omega)];rfl
    rw [sM,jh _ _ (k:=8 * i) (by omega) (by rw [ih];exact lt),ih,List.take_add_one,hb,iw,ln,show 256 ^ i=2 ^ (8 * i) by rw [Nat.pow_mul]]
    generalize k.getD (8 * p+i) 0=x
    have hx:=x.isLt
    have hs : (x.setWidth 64).toNat=x.toNat:=by rw [BitVec.toNat_setWidth];exact Nat.mod_eq_of_lt (by omega)
    have hp : 2 ^ (8 * i)≤2 ^ 56:=Nat.pow_le_pow_right (by omega) (by omega)
    have hm : x.toNat * 2 ^ (8 * i)≤255 * 2 ^ 56:=Nat.mul_le_mul (by omega) hp
    rw [hs,Nat.mod_eq_of_lt (by omega)]
    show _=_+2 ^ (8 * i) * (x.toNat+256 * 0)
    rw [Nat.mul_zero,Nat.add_zero,Nat.mul_comm]
    omega
def zg (w0 w1 w2 w3 : dM) : N5:=⟨w0 &&& 2251799813685247#64,(w0 >>> 51 ||| w1 <<< 13) &&& 2251799813685247#64,(w1 >>> 38 ||| w2 <<< 26) &&& 2251799813685247#64,(w2 >>> 25 ||| w3 <<< 39) &&& 2251799813685247#64,w3 >>> 12 &&& 2251799813685247#64⟩
theorem AD (w0 w1 w2 w3 : dM) : Ky (zg w0 w1 w2 w3)∧iT (zg w0 w1 w2 w3)=(w0.toNat+18446744073709551616 * (w1.toNat+18446744073709551616 * (w2.toNat+18446744073709551616 * w3.toNat))) % 57896044618658097711785492504343953926634992332820282019728792003956564819968:=by
  have h0:=w0.isLt
  have h1:=w1.isLt
  have h2:=w2.isLt
  have h3:=w3.isLt
  have s0:=de w0 51
  have s1:=de w1 38
  have s2:=de w2 25
  have s3:=de w3 12
  have e1:=jh (w0 >>> 51) w1 (k:=13) (by omega) (by omega)
  have e2:=jh (w1 >>> 38) w2 (k:=26) (by omega) (by omega)
  have e3:=jh (w2 >>> 25) w3 (k:=39) (by omega) (by omega)
  have m0:=bO w0
  have m1:=bO (w0 >>> 51 ||| w1 <<< 13)
  have m2:=bO (w1 >>> 38 ||| w2 <<< 26)
  have m3:=bO (w2 >>> 25 ||| w3 <<< 39)
  have m4:=bO (w3 >>> 12)
  rw [e1,s0] at m1
  rw [e2,s1] at m2
  rw [e3,s2] at m3
  rw [s3] at m4
  refine ⟨⟨?_,?_,?_,?_,?_⟩,?_⟩
  · show (w0 &&& 2251799813685247#64).toNat<_;rw [m0];omega
  · show ((w0 >>> 51 ||| w1 <<< 13) &&& 2251799813685247#64).toNat<_;rw [m1];omega
  · show ((w1 >>> 38 ||| w2 <<< 26) &&& 2251799813685247#64).toNat<_;rw [m2];omega
  · show ((w2 >>> 25 ||| w3 <<< 39) &&& 2251799813685247#64).toNat<_;rw [m3];omega
  · show (w3 >>> 12 &&& 2251799813685247#64).toNat<_;rw [m4];omega
  · unfold iT zg
    simp only
    rw [m0,m1,m2,m3,m4]
    clear e1 e2 e3 s0 s1 s2 s3 m0 m1 m2 m3 m4
    generalize w0.toNat=x0 at *
    generalize w1.toNat=x1 at *
    generalize w2.toNat=x2 at *
    generalize w3.toNat=x3 at *
    omega
theorem Ky.y5 {n : N5} (h : Ky n) : dw n:=by
  obtain ⟨p0,p1,p2,p3,p4⟩:=h
  exact ⟨by omega,by omega,by omega,by omega,by omega⟩
def cU (u : List By) : N5:=zg (sM u 0 8) (sM u 1 8) (sM u 2 8) (sM u 3 8)
theorem BT (u : List By) : dw (cU u):=(AD _ _ _ _).1.y5
theorem F0 {u : List By} (hu : u.length=32) : iy (cU u)=pt u:=by
  have e:=(AD (sM u 0 8) (sM u 1 8) (sM u 2 8) (sM u 3 8)).2
  rw [sg u 0 8 (by omega) (by omega),sg u 1 8 (by omega) (by omega),sg u 2 8 (by omega) (by omega),sg u 3 8 (by omega) (by omega)] at e
  have c : ∀ l : List By,8≤l.length→le l=le (l.take 8)+18446744073709551616 * le (l.drop 8):=fun l hl=>by
    have:=iw (l.take 8) (l.drop 8)
    rw [List.take_append_drop,List.length_take,Nat.min_eq_left hl] at this
    exact this
  have c0:=c u (by omega)
  have c1:=c (u.drop 8) (by rw [List.length_drop];omega)
  have c2:=c (u.drop 16) (by rw [List.length_drop];omega)
  have c3 : le (u.drop 24)=le ((u.drop 24).take 8):=by rw [List.take_of_length_le (by rw [List.length_drop];omega)]
  rw [List.drop_drop] at c1 c2
  have hl : le u=le ((u.drop (8 * 0)).take 8)+18446744073709551616 * (le ((u.drop (8 * 1)).take 8)+18446744073709551616 * (le ((u.drop (8 * 2)).take 8)+18446744073709551616 * le ((u.drop (8 * 3)).take 8))):=by
    rw [c0]
    show _=le ((u.drop 0).take 8)+18446744073709551616 * (le ((u.drop 8).take 8)+18446744073709551616 * (le ((u.drop 16).take 8)+18446744073709551616 * le ((u.drop 24).take 8)))
    rw [← c3,← c2,← c1];rfl
  rw [← hl] at e
  unfold iy pt
  show fn _=fn _
  congr 1
end dO
end
end Go.Proofs.YtgkninhgcpbfnaaGreatDoor
