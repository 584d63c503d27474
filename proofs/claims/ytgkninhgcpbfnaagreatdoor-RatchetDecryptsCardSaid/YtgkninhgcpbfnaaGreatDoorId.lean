/-
  Of no statement by itself: the texts CrvC, CrvD, CrvE, CrvG, CrvH, CurA, CrvJ, CurB, CurC, CrvK, CurD, CrvW, CurE, CrvM, CurF, CrvU, CrvV, CrvX, CrvY in one.
  Conditions: each theorem's own.
-/
import Derived.Test.YtgkninhgcpbfnaaGreatDoorIc
import Derived.Test.YtgkninhgcpbfnaaGreatDoorProg
import Derived.KernelRfl
set_option linter.unusedSimpArgs false
set_option linter.unusedVariables false
namespace Go.Proofs.YtgkninhgcpbfnaaGreatDoor
section
namespace dZ
def HZ (d x1 y1 x2 y2 : F) : F:=(x2*x2*x2*x2)+(y2*y2*y2*y2)+(-2*x2*x2*y2*y2*y2*y2)+(-2*x2*x2*x2*x2*y2*y2)+(4*x2*x2*y2*y2)+(-d*d*x2*x2*x2*x2*y2*y2*y2*y2)+(-2*d*x2*x2*y2*y2)+(2*d*x2*x2*x2*x2*y2*y2*y2*y2)+(d*d*x1*x1*x2*x2*x2*x2*y2*y2*y2*y2)+(d*d*x2*x2*x2*x2*y1*y1*y2*y2*y2*y2)+(-d*x1*x1*x2*x2*y2*y2*y2*y2)+(-d*x1*x1*x2*x2*x2*x2*y2*y2)+(-d*x2*x2*y1*y1*y2*y2*y2*y2)+(-d*x2*x2*x2*x2*y1*y1*y2*y2)+(d*d*d*x1*x1*x2*x2*x2*x2*y1*y1*y2*y2*y2*y2)
def H6 (d x1 y1 x2 y2 : F) : F:=(1)+(x2*x2)+(y2*y2)+(-x1*x1*x2*x2)+(-x1*x1*y2*y2)+(-x2*x2*y1*y1)+(-y1*y1*y2*y2)+(-2*x2*x2*y2*y2)+(d*x2*x2*y2*y2)+(2*x1*x1*x2*x2*y2*y2)+(2*x2*x2*y1*y1*y2*y2)+(d*x1*x1*x1*x1*x2*x2*y2*y2)+(d*x2*x2*y1*y1*y1*y1*y2*y2)+(-2*d*x1*x1*x2*x2*y2*y2)+(-2*d*x2*x2*y1*y1*y2*y2)
theorem Gp (d x1 y1 x2 y2 : F) : (x1*y2+x2*y1)*(x1*y2+x2*y1)*((1-d*x1*x2*y1*y2)*(1-d*x1*x2*y1*y2))+(y1*y2-x1*x2)*(y1*y2-x1*x2)*((1+d*x1*x2*y1*y2)*(1+d*x1*x2*y1*y2))-(1-d*x1*x2*y1*y2)*(1-d*x1*x2*y1*y2)*((1+d*x1*x2*y1*y2)*(1+d*x1*x2*y1*y2))-d*((x1*y2+x2*y1)*(x1*y2+x2*y1))*((y1*y2-x1*x2)*(y1*y2-x1*x2))
    = HZ d x1 y1 x2 y2*(-d*x1*x1*y1*y1+x1*x1+y1*y1 - 1)+H6 d x1 y1 x2 y2*(-d*x2*x2*y2*y2+x2*x2+y2*y2 - 1):=by
  unfold HZ H6
  grobner
def K1 (d x1 y1 x2 y2 x3 y3 : F) : F:=(d*x1*x2*x2*x2*x3*y2*y2)+(d*x1*x2*x2*y2*y2*y2*y3*y3*y3)+(d*x2*x2*x3*x3*x3*y1*y2*y2*y2)+(d*x2*x2*x2*y1*y2*y2*y3*y3*y3)+(-d*x1*x2*x2*y2*y2*y2*y3)+(-d*x1*x2*x2*x2*x3*x3*x3*y2*y2)+(-d*x2*x2*x3*y1*y2*y2*y2)+(-d*x2*x2*x2*y1*y2*y2*y3)+(d*x1*x2*x3*y2*y2*y2*y2*y3*y3)+(d*d*x1*x2*x2*x2*x2*x3*x3*y2*y2*y2*y3)+(d*d*x2*x2*x2*x2*x3*y1*y2*y2*y2*y3*y3)+(d*d*x2*x2*x2*x3*x3*y1*y2*y2*y2*y2*y3)+(-d*x1*x2*x2*x2*x2*x3*x3*y2*y3)+(-d*x2*x3*x3*y1*y2*y2*y2*y2*y3)+(-d*x2*x2*x2*x2*x3*y1*y2*y3*y3)+(-d*d*x1*x2*x2*x2*x3*y2*y2*y2*y2*y3*y3)
def K3 (d x1 y1 x2 y2 x3 y3 : F) : F:=(x1*x2*x3*x3*x3)+(x1*y2*y3)+(x1*x1*x1*x2*x3)+(x2*y1*y3)+(x2*y1*y1*y1*y3*y3*y3)+(x3*y1*y2)+(x1*x1*x1*y2*y3*y3*y3)+(x3*x3*x3*y1*y1*y1*y2)+(-x1*x2*x3)+(-x1*y2*y3*y3*y3)+(-x2*y1*y3*y3*y3)+(-x2*y1*y1*y1*y3)+(-x1*x1*x1*x2*x3*x3*x3)+(-x3*y1*y1*y1*y2)+(-x3*x3*x3*y1*y2)+(-x1*x1*x1*y2*y3)+(x1*x2*x3*y1*y1)+(x1*x2*x3*y3*y3)+(x1*y1*y1*y2*y3*y3*y3)+(x1*x1*x2*y1*y3*y3*y3)+(x2*x3*x3*y1*y1*y1*y3)+(x3*y1*y1*y1*y2*y3*y3)+(x1*x1*x3*x3*x3*y1*y2)+(x1*x1*x1*x3*x3*y2*y3)+(-x1*x2*x3*x3*x3*y1*y1)+(-x1*x3*x3*y2*y3)+(-x1*y1*y1*y2*y3)+(-x1*x1*x1*x2*x3*y3*y3)+(-x1*x1*x2*y1*y3)+(-x2*x3*x3*y1*y3)+(-x1*x1*x3*y1*y2)+(-x3*y1*y2*y3*y3)+(d*x1*x3*x3*y2*y3*y3*y3)+(d*x2*x3*x3*y1*y3*y3*y3)+(d*x1*x1*x1*x2*x3*x3*x3*y3*y3)+(d*x3*x3*x3*y1*y2*y3*y3)+(x1*x3*x3*y1*y1*y2*y3)+(x1*x1*x2*x3*x3*y1*y3)+(x1*x1*x3*y1*y2*y3*y3)+(-d*x1*x2*x3*x3*x3*y3*y3)+(-d*x2*x3*x3*y1*y1*y1*y3*y3*y3)+(-d*x1*x1*x1*x3*x3*y2*y3*y3*y3)+(-d*x3*x3*x3*y1*y1*y1*y2*y3*y3)+(-x1*x2*x3*y1*y1*y3*y3)+(d*x1*x2*x3*y2*y2*y3*y3)+(d*x1*x2*x3*x3*x3*y1*y1*y3*y3)+(d*x2*x3*x3*y1*y1*y1*y2*y2*y3)+(d*x2*x2*x3*y1*y1*y1*y2*y3*y3)+(d*x1*x1*x1*x2*x2*x3*x3*y2*y3)+(-d*x1*x2*x2*x3*x3*y2*y3)+(-d*x1*x3*x3*y1*y1*y2*y3*y3*y3)+(-d*x1*x1*x1*x2*x3*y2*y2*y3*y3)+(-d*x2*x3*x3*y1*y2*y2*y3)+(-d*x1*x1*x2*x3*x3*y1*y3*y3*y3)+(-d*x2*x2*x3*y1*y2*y3*y3)+(-d*x1*x1*x3*x3*x3*y1*y2*y3*y3)+(d*x1*x2*x2*x3*x3*y1*y1*y2*y3)+(d*x1*x1*x2*x3*x3*y1*y2*y2*y3)+(d*x1*x1*x2*x2*x3*y1*y2*y3*y3)+(d*d*x1*x2*x3*x3*x3*y1*y1*y2*y2*y3*y3)+(-d*x1*x2*x3*y1*y1*y2*y2*y3*y3)+(-d*d*x1*x2*x2*x3*x3*y1*y1*y2*y3*y3*y3)+(-d*d*x1*x1*x2*x3*x3*y1*y2*y2*y3*y3*y3)+(-d*d*x1*x1*x2*x2*x3*x3*x3*y1*y2*y3*y3)
def K4 (d x1 y1 x2 y2 x3 y3 : F) : F:=(x1*x2*x3)+(x1*y2*y2*y2*y3)+(x2*y1*y1*y1*y3)+(x3*y1*y2*y2*y2)+(x3*y1*y1*y1*y2)+(x1*x1*x1*x2*x2*x2*x3)+(x2*x2*x2*y1*y3)+(x1*x1*x1*y2*y3)+(-x1*x2*x2*x2*x3)+(-x1*y2*y3)+(-x1*x1*x1*x2*x3)+(-x2*y1*y3)+(-x3*y1*y2)+(-x3*y1*y1*y1*y2*y2*y2)+(-x1*x1*x1*y2*y2*y2*y3)+(-x2*x2*x2*y1*y1*y1*y3)+(x1*x2*x2*x2*x3*y1*y1)+(x1*x2*x2*y2*y3)+(x1*y1*y1*y2*y3)+(x1*x1*x1*x2*x3*y2*y2)+(x1*x1*x2*y1*y3)+(x2*y1*y2*y2*y3)+(x1*x1*x3*y1*y2)+(x2*x2*x3*y1*y2)+(-x1*x2*x3*y1*y1)+(-x1*x2*x3*y2*y2)+(-x1*y1*y1*y2*y2*y2*y3)+(-x2*y1*y1*y1*y2*y2*y3)+(-x1*x1*x3*y1*y2*y2*y2)+(-x2*x2*x3*y1*y1*y1*y2)+(-x1*x1*x2*x2*x2*y1*y3)+(-x1*x1*x1*x2*x2*y2*y3)+(x1*x2*x3*y1*y1*y2*y2)+(-x1*x2*x2*y1*y1*y2*y3)+(-x1*x1*x2*y1*y2*y2*y3)+(-x1*x1*x2*x2*x3*y1*y2)+(d*x1*x2*x2*y1*y1*y2*y3)+(d*x1*x1*x2*y1*y2*y2*y3)+(d*x1*x1*x2*x2*x3*y1*y2)+(-d*x1*x2*x3*y1*y1*y2*y2)
theorem Jh (d x1 y1 x2 y2 x3 y3 : F) : ((x1*y2+x2*y1)*(1-d*x1*x2*y1*y2)*y3+x3*(y1*y2-x1*x2)*(1+d*x1*x2*y1*y2))*((1-d*x2*x3*y2*y3)*(1+d*x2*x3*y2*y3)+d*x1*(x2*y3+x3*y2)*y1*(y2*y3-x2*x3))-(x1*(y2*y3-x2*x3)*(1+d*x2*x3*y2*y3)+(x2*y3+x3*y2)*y1*(1-d*x2*x3*y2*y3))*((1-d*x1*x2*y1*y2)*(1+d*x1*x2*y1*y2)+d*(x1*y2+x2*y1)*x3*(y1*y2-x1*x2)*y3)
    = K1 d x1 y1 x2 y2 x3 y3*(-d*x1*x1*y1*y1+x1*x1+y1*y1 - 1)+K3 d x1 y1 x2 y2 x3 y3*(-d*x2*x2*y2*y2+x2*x2+y2*y2 - 1)+K4 d x1 y1 x2 y2 x3 y3*(-d*x3*x3*y3*y3+x3*x3+y3*y3 - 1):=by
  unfold K1 K3 K4
  grobner
def K5 (d x1 y1 x2 y2 x3 y3 : F) : F:=(d*x1*x2*x2*x3*y2*y2*y2)+(d*x1*x2*x2*x2*y2*y2*y3)+(d*x2*x2*x2*x3*y1*y2*y2)+(d*x2*x2*y1*y2*y2*y2*y3*y3*y3)+(-d*x1*x2*x2*x3*x3*x3*y2*y2*y2)+(-d*x1*x2*x2*x2*y2*y2*y3*y3*y3)+(-d*x2*x2*y1*y2*y2*y2*y3)+(-d*x2*x2*x2*x3*x3*x3*y1*y2*y2)+(d*x1*x2*x3*x3*y2*y2*y2*y2*y3)+(d*x1*x2*x2*x2*x2*x3*y2*y3*y3)+(d*x2*x3*y1*y2*y2*y2*y2*y3*y3)+(d*d*x2*x2*x2*x2*x3*x3*y1*y2*y2*y2*y3)+(-d*x2*x2*x2*x2*x3*x3*y1*y2*y3)+(-d*d*x1*x2*x2*x2*x2*x3*y2*y2*y2*y3*y3)+(-d*d*x1*x2*x2*x2*x3*x3*y2*y2*y2*y2*y3)+(-d*d*x2*x2*x2*x3*y1*y2*y2*y2*y2*y3*y3)
def K6 (d x1 y1 x2 y2 x3 y3 : F) : F:=(x1*x2*y3*y3*y3)+(x1*x3*x3*x3*y2)+(x2*x3*y1*y1*y1)+(x2*x3*x3*x3*y1)+(x1*x1*x1*x2*y3)+(x1*x1*x1*x3*y2)+(y1*y2*y3)+(y1*y1*y1*y2*y3*y3*y3)+(-x1*x2*y3)+(-x1*x3*y2)+(-x2*x3*y1)+(-x1*x1*x1*x2*y3*y3*y3)+(-x2*x3*x3*x3*y1*y1*y1)+(-y1*y2*y3*y3*y3)+(-y1*y1*y1*y2*y3)+(-x1*x1*x1*x3*x3*x3*y2)+(x1*x2*x3*x3*y3)+(x1*x2*y1*y1*y3)+(x1*x3*y1*y1*y2)+(x1*x3*y2*y3*y3)+(x1*x1*x2*x3*y1)+(x2*x3*y1*y3*y3)+(x1*x1*y1*y2*y3*y3*y3)+(x3*x3*y1*y1*y1*y2*y3)+(-x1*x2*y1*y1*y3*y3*y3)+(-x1*x3*x3*x3*y1*y1*y2)+(-x2*x3*y1*y1*y1*y3*y3)+(-x1*x1*x2*x3*x3*x3*y1)+(-x1*x1*x1*x2*x3*x3*y3)+(-x1*x1*x1*x3*y2*y3*y3)+(-x1*x1*y1*y2*y3)+(-x3*x3*y1*y2*y3)+(d*x1*x1*x1*x2*x3*x3*y3*y3*y3)+(d*x2*x3*x3*x3*y1*y1*y1*y3*y3)+(d*x3*x3*y1*y2*y3*y3*y3)+(d*x1*x1*x1*x3*x3*x3*y2*y3*y3)+(x1*x1*x3*x3*y1*y2*y3)+(-d*x1*x2*x3*x3*y3*y3*y3)+(-d*x1*x3*x3*x3*y2*y3*y3)+(-d*x2*x3*x3*x3*y1*y3*y3)+(-d*x3*x3*y1*y1*y1*y2*y3*y3*y3)+(-x1*x2*x3*x3*y1*y1*y3)+(-x1*x3*y1*y1*y2*y3*y3)+(-x1*x1*x2*x3*y1*y3*y3)+(d*x1*x2*x3*x3*y2*y2*y3)+(d*x1*x2*x3*x3*y1*y1*y3*y3*y3)+(d*x1*x2*x2*x3*y2*y3*y3)+(d*x1*x3*x3*x3*y1*y1*y2*y3*y3)+(d*x2*x3*y1*y2*y2*y3*y3)+(d*x1*x1*x2*x3*x3*x3*y1*y3*y3)+(d*x2*x2*x3*x3*y1*y1*y1*y2*y3)+(-d*x2*x3*y1*y1*y1*y2*y2*y3*y3)+(-d*x1*x1*x1*x2*x3*x3*y2*y2*y3)+(-d*x1*x1*x1*x2*x2*x3*y2*y3*y3)+(-d*x2*x2*x3*x3*y1*y2*y3)+(-d*x1*x1*x3*x3*y1*y2*y3*y3*y3)+(d*x1*x1*x2*x2*x3*x3*y1*y2*y3)+(d*d*x1*x2*x3*x3*y1*y1*y2*y2*y3*y3*y3)+(d*d*x1*x2*x2*x3*x3*x3*y1*y1*y2*y3*y3)+(d*d*x1*x1*x2*x3*x3*x3*y1*y2*y2*y3*y3)+(-d*x1*x2*x3*x3*y1*y1*y2*y2*y3)+(-d*x1*x2*x2*x3*y1*y1*y2*y3*y3)+(-d*x1*x1*x2*x3*y1*y2*y2*y3*y3)+(-d*d*x1*x1*x2*x2*x3*x3*y1*y2*y3*y3*y3)
def K7 (d x1 y1 x2 y2 x3 y3 : F) : F:=(x1*x2*y3)+(x1*x3*y2)+(x2*x3*y1)+(x1*x1*x1*x3*y2*y2*y2)+(x2*x2*x2*x3*y1*y1*y1)+(y1*y2*y2*y2*y3)+(y1*y1*y1*y2*y3)+(x1*x1*x1*x2*x2*x2*y3)+(-x1*x3*y2*y2*y2)+(-x1*x2*x2*x2*y3)+(-x2*x3*y1*y1*y1)+(-x1*x1*x1*x2*y3)+(-x2*x2*x2*x3*y1)+(-x1*x1*x1*x3*y2)+(-y1*y2*y3)+(-y1*y1*y1*y2*y2*y2*y3)+(x1*x3*y1*y1*y2*y2*y2)+(x1*x2*x2*x2*y1*y1*y3)+(x2*x3*y1*y1*y1*y2*y2)+(x1*x1*x1*x2*y2*y2*y3)+(x1*x1*x2*x2*x2*x3*y1)+(x1*x1*x1*x2*x2*x3*y2)+(x1*x1*y1*y2*y3)+(x2*x2*y1*y2*y3)+(-x1*x2*y1*y1*y3)+(-x1*x2*y2*y2*y3)+(-x1*x2*x2*x3*y2)+(-x1*x3*y1*y1*y2)+(-x1*x1*x2*x3*y1)+(-x2*x3*y1*y2*y2)+(-x1*x1*y1*y2*y2*y2*y3)+(-x2*x2*y1*y1*y1*y2*y3)+(x1*x2*y1*y1*y2*y2*y3)+(x1*x2*x2*x3*y1*y1*y2)+(x1*x1*x2*x3*y1*y2*y2)+(-x1*x1*x2*x2*y1*y2*y3)+(d*x1*x1*x2*x2*y1*y2*y3)+(-d*x1*x2*y1*y1*y2*y2*y3)+(-d*x1*x2*x2*x3*y1*y1*y2)+(-d*x1*x1*x2*x3*y1*y2*y2)
theorem Ji (d x1 y1 x2 y2 x3 y3 : F) : ((y1*y2-x1*x2)*(1+d*x1*x2*y1*y2)*y3-(x1*y2+x2*y1)*x3*(1-d*x1*x2*y1*y2))*((1-d*x2*x3*y2*y3)*(1+d*x2*x3*y2*y3)-d*x1*(x2*y3+x3*y2)*y1*(y2*y3-x2*x3))-(y1*(y2*y3-x2*x3)*(1+d*x2*x3*y2*y3)-x1*(x2*y3+x3*y2)*(1-d*x2*x3*y2*y3))*((1-d*x1*x2*y1*y2)*(1+d*x1*x2*y1*y2)-d*(x1*y2+x2*y1)*x3*(y1*y2-x1*x2)*y3)
    = K5 d x1 y1 x2 y2 x3 y3*(-d*x1*x1*y1*y1+x1*x1+y1*y1 - 1)+K6 d x1 y1 x2 y2 x3 y3*(-d*x2*x2*y2*y2+x2*x2+y2*y2 - 1)+K7 d x1 y1 x2 y2 x3 y3*(-d*x3*x3*y3*y3+x3*x3+y3*y3 - 1):=by
  unfold K5 K6 K7
  grobner
def AJ (d y1 x2 y2 : F) : F:=(4*x2*x2*y1*y2)+(-4*d*x2*x2*y1*y2*y2*y2)
def AK (y1 y2 : F) : F:=(-4*y1*y1*y1*y2)+(4*y1*y2)
theorem Ca (d x1 y1 x2 y2 : F) : ((1-d*x1*x2*y1*y2+y1*y2-x1*x2)*(1+d*x1*x2*y1*y2+y1*y2+x1*x2))*((y1-y2)*(y1-y2))-((1-d*x1*x2*y1*y2-y1*y2+x1*x2)*(1+d*x1*x2*y1*y2-y1*y2-x1*x2))*((y1+y2)*(y1+y2))
    = AJ d y1 x2 y2*(-d*x1*x1*y1*y1+x1*x1+y1*y1 - 1)+AK y1 y2*(-d*x2*x2*y2*y2+x2*x2+y2*y2 - 1):=by
  unfold AJ AK
  grobner
end dZ
end
section
namespace dZ
def NS (d : F) : Prop:=∀ t,t * t≠d
def On (d : F) (p : F × F) : Prop:=p.1 * p.1+p.2 * p.2=1+d * p.1 * p.1 * p.2 * p.2
def kk (d : F) (p q : F × F) : F:=d * p.1 * q.1 * p.2 * q.2
theorem den {d : F} {p q : F × F} (ns : NS d) (hp : On d p) (hq : On d q) {ε : F} (hε : ε * ε=1) : kk d p q≠ε:=by
  obtain ⟨x1,y1⟩:=p
  obtain ⟨x2,y2⟩:=q
  unfold kk On at *
  simp only at *
  intro h
  have e1 : (x1+ε * y1) * (x1+ε * y1)=d * (x1 * y1) * (x1 * y1) * ((x2+y2) * (x2+y2)):=by grobner
  have e2 : (x1 - ε * y1) * (x1 - ε * y1)=d * (x1 * y1) * (x1 * y1) * ((x2 - y2) * (x2 - y2)):=by grobner
  have one : (1 : F)≠0:=by decide
  have n0 : x1 * y1≠0:=fun z=>one (by grobner)
  have step : ∀ a b : F,a * a=d * (x1 * y1) * (x1 * y1) * (b * b)→b=0:=fun a b e=>by
    refine Classical.byContradiction fun hb=>?_
    have i:=gu (eP n0 hb)
    exact ns (a * inv (x1 * y1 * b)) (by grobner)
  have z1:=step _ _ e1
  have z2:=step _ _ e2
  have z3 : (2 : F) * x2=0:=by grobner
  have z4 : x2=0:=(mul_zero z3).elim (fun h=>absurd h pZ) id
  exact one (by grobner)
theorem sj {d : F} {p q : F × F} (ns : NS d) (hp : On d p) (hq : On d q) : 1+kk d p q≠0:=fun h=>
  den ns hp hq (ε:=-1) (by decide) (by grobner)
theorem nL {d : F} {p q : F × F} (ns : NS d) (hp : On d p) (hq : On d q) : 1 - kk d p q≠0:=fun h=>
  den ns hp hq (ε:=1) (by decide) (by grobner)
def add (d : F) (p q : F × F) : F × F:=((p.1 * q.2+q.1 * p.2) * inv (1+kk d p q),(p.2 * q.2 - p.1 * q.1) * inv (1 - kk d p q))
theorem uD {d : F} {p q : F × F} (ns : NS d) (hp : On d p) (hq : On d q) : (add d p q).1 * (1+kk d p q)=p.1 * q.2+q.1 * p.2:=by
  have:=gu (sj ns hp hq)
  show (p.1 * q.2+q.1 * p.2) * inv (1+kk d p q) * (1+kk d p q)=_
  generalize inv (1+kk d p q)=i at *
  generalize kk d p q=k at *
  grobner
theorem nM {d : F} {p q : F × F} (ns : NS d) (hp : On d p) (hq : On d q) : (add d p q).2 * (1 - kk d p q)=p.2 * q.2 - p.1 * q.1:=by
  have:=gu (nL ns hp hq)
  show (p.2 * q.2 - p.1 * q.1) * inv (1 - kk d p q) * (1 - kk d p q)=_
  generalize inv (1 - kk d p q)=i at *
  generalize kk d p q=k at *
  grobner
theorem Jj {a b c0 c1 z0 z1 : F} (h : a - b=c0 * z0+c1 * z1) (h0 : z0=0) (h1 : z1=0) : a=b:=by grobner
theorem Gq {a c0 c1 z0 z1 : F} (h : a=c0 * z0+c1 * z1) (h0 : z0=0) (h1 : z1=0) : a=0:=by grobner
theorem xh {a b c0 c1 c2 z0 z1 z2 : F} (h : a - b=c0 * z0+c1 * z1+c2 * z2) (h0 : z0=0) (h1 : z1=0) (h2 : z2=0) : a=b:=by grobner
theorem jJ {d x y : F} (h : x * x+y * y=1+d * x * x * y * y) : -d*x*x*y*y+x*x+y*y - 1=0:=by grobner
theorem Jk {d k a b x y : F} (hx : x * (1+k)=a) (hy : y * (1 - k)=b)
    (c : a * a * ((1 - k) * (1 - k))+b * b * ((1+k) * (1+k)) - (1 - k) * (1 - k) * ((1+k) * (1+k)) - d * (a * a) * (b * b)=0) :
    (1+k) * (1 - k) * ((1+k) * (1 - k)) * (x * x+y * y)=(1+k) * (1 - k) * ((1+k) * (1 - k)) * (1+d * x * x * y * y):=by
  subst hx
  subst hy
  grobner
theorem zp {d : F} {p q : F × F} (ns : NS d) (hp : On d p) (hq : On d q) : On d (add d p q):=by
  have hx:=uD ns hp hq
  have hy:=nM ns hp hq
  have nn:=eP (sj ns hp hq) (nL ns hp hq)
  exact cancel (eP nn nn) (Jk hx hy (Gq (Gp d p.1 p.2 q.1 q.2) (jJ hp) (jJ hq)))
theorem H7 {d k a b x y u v : F} (h1 : x * (1+k)=a) (h2 : y * (1 - k)=b) : (1 - k) * (1+k)+d * a * u * b * v=(1 - k) * (1+k) * (1+d * x * u * y * v):=by
  subst h1
  subst h2
  grobner
theorem Eg {d k a b x y u v l : F} (h1 : x * (1+k)=a) (h2 : y * (1 - k)=b) (hl : l * (1+d * x * u * y * v)=x * v+u * y) : l * ((1 - k) * (1+k)+d * a * u * b * v)=a * (1 - k) * v+u * b * (1+k):=by
  rw [H7 h1 h2]
  subst h1
  subst h2
  generalize 1+d * x * u * y * v=z at *
  grobner
theorem Eh {d k a b x y u v l : F} (h1 : x * (1+k)=a) (h2 : y * (1 - k)=b) (hl : l * (1 - d * x * u * y * v)=y * v - x * u) : l * ((1 - k) * (1+k) - d * a * u * b * v)=b * (1+k) * v - a * u * (1 - k):=by
  have e : (1 - k) * (1+k) - d * a * u * b * v=(1 - k) * (1+k) * (1 - d * x * u * y * v):=by
    subst h1
    subst h2
    grobner
  rw [e]
  subst h1
  subst h2
  generalize 1 - d * x * u * y * v=z at *
  grobner
theorem Jl {d k a b x y u v l : F} (h1 : x * (1+k)=a) (h2 : y * (1 - k)=b) (hl : l * (1+d * u * x * v * y)=u * y+x * v) : l * ((1 - k) * (1+k)+d * u * a * v * b)=u * b * (1+k)+a * v * (1 - k):=by
  have e:=Eg h1 h2 (l:=l) (d:=d) (u:=u) (v:=v) (by clear h1 h2;grobner)
  clear h1 h2 hl
  grobner
theorem Jm {d k a b x y u v l : F} (h1 : x * (1+k)=a) (h2 : y * (1 - k)=b) (hl : l * (1 - d * u * x * v * y)=v * y - u * x) : l * ((1 - k) * (1+k) - d * u * a * v * b)=v * b * (1+k) - u * a * (1 - k):=by
  have e:=Eh h1 h2 (l:=l) (d:=d) (u:=u) (v:=v) (by clear h1 h2;grobner)
  clear h1 h2 hl
  grobner
theorem H8 {d k a b x y u v : F} (h1 : x * (1+k)=a) (h2 : y * (1 - k)=b) (n1 : 1+k≠0) (n2 : 1 - k≠0) (n3 : 1+d * x * u * y * v≠0) : (1 - k) * (1+k)+d * a * u * b * v≠0:=by
  rw [H7 h1 h2]
  exact eP (eP n2 n1) n3
theorem H9 {d k a b x y u v : F} (h1 : x * (1+k)=a) (h2 : y * (1 - k)=b) (n1 : 1+k≠0) (n2 : 1 - k≠0) (n3 : 1 - d * x * u * y * v≠0) : (1 - k) * (1+k) - d * a * u * b * v≠0:=by
  have e : (1 - k) * (1+k) - d * a * u * b * v=(1 - k) * (1+k) * (1 - d * x * u * y * v):=by
    subst h1
    subst h2
    clear n1 n2 n3
    grobner
  rw [e]
  exact eP (eP n2 n1) n3
theorem Jn {d k a b x y u v : F} (h1 : x * (1+k)=a) (h2 : y * (1 - k)=b) (n1 : 1+k≠0) (n2 : 1 - k≠0) (n3 : 1+d * u * x * v * y≠0) : (1 - k) * (1+k)+d * u * a * v * b≠0:=by
  have e : ∀ x y : F,d * u * x * v * y=d * x * u * y * v:=fun x y=>by clear h1 h2 n1 n2 n3;grobner
  rw [e]
  exact H8 h1 h2 n1 n2 (by rw [← e];exact n3)
theorem Jo {d k a b x y u v : F} (h1 : x * (1+k)=a) (h2 : y * (1 - k)=b) (n1 : 1+k≠0) (n2 : 1 - k≠0) (n3 : 1 - d * u * x * v * y≠0) : (1 - k) * (1+k) - d * u * a * v * b≠0:=by
  have e : ∀ x y : F,d * u * x * v * y=d * x * u * y * v:=fun x y=>by clear h1 h2 n1 n2 n3;grobner
  rw [e]
  exact H9 h1 h2 n1 n2 (by rw [← e];exact n3)
theorem Ia {l r a b c e : F} (h1 : l * b=a) (h2 : r * e=c) (h : a * e=c * b) (n1 : b≠0) (n2 : e≠0) : l=r:=by
  refine cancel (eP n1 n2) ?_
  subst h1
  subst h2
  grobner
theorem assoc {d : F} {p q r : F × F} (ns : NS d) (hp : On d p) (hq : On d q) (hr : On d r) : add d (add d p q) r=add d p (add d q r):=by
  have h12:=zp ns hp hq
  have h23:=zp ns hq hr
  have a1:=uD ns hp hq
  have a2:=nM ns hp hq
  have b1:=uD ns hq hr
  have b2:=nM ns hq hr
  have l1:=uD ns h12 hr
  have l2:=nM ns h12 hr
  have r1:=uD ns hp h23
  have r2:=nM ns hp h23
  have np:=sj ns hp hq
  have nm:=nL ns hp hq
  have mp:=sj ns hq hr
  have mm:=nL ns hq hr
  have lp:=sj ns h12 hr
  have lm:=nL ns h12 hr
  have rp:=sj ns hp h23
  have rm:=nL ns hp h23
  have cx:=xh (Jh d p.1 p.2 q.1 q.2 r.1 r.2) (jJ hp) (jJ hq) (jJ hr)
  have cy:=xh (Ji d p.1 p.2 q.1 q.2 r.1 r.2) (jJ hp) (jJ hq) (jJ hr)
  generalize add d (add d p q) r=l at *
  generalize add d p (add d q r)=t at *
  generalize add d p q=s at *
  generalize add d q r=w at *
  obtain ⟨x1,y1⟩:=p
  obtain ⟨x2,y2⟩:=q
  obtain ⟨x3,y3⟩:=r
  obtain ⟨x12,y12⟩:=s
  obtain ⟨x23,y23⟩:=w
  obtain ⟨lx,ly⟩:=l
  obtain ⟨tx,ty⟩:=t
  unfold kk On at *
  simp only at *
  clear hp hq hr h12 h23
  generalize d * x1 * x2 * y1 * y2=k at *
  generalize d * x2 * x3 * y2 * y3=m at *
  generalize x1 * y2+x2 * y1=nx at *
  generalize y1 * y2 - x1 * x2=ny at *
  generalize x2 * y3+x3 * y2=mx at *
  generalize y2 * y3 - x2 * x3=my at *
  have ex : lx=tx:=Ia (Eg a1 a2 l1) (Jl b1 b2 r1) cx (H8 a1 a2 np nm lp) (Jn b1 b2 mp mm rp)
  have ey : ly=ty:=Ia (Eh a1 a2 l2) (Jm b1 b2 r2) cy (H9 a1 a2 np nm lm) (Jo b1 b2 mp mm rm)
  rw [ex,ey]
theorem add_comm (d : F) (p q : F × F) : add d p q=add d q p:=by
  have e : kk d p q=kk d q p:=by unfold kk;grobner
  unfold add
  rw [e]
  apply Prod.ext
  · show (p.1 * q.2+q.1 * p.2) * _=(q.1 * p.2+p.1 * q.2) * _
    congr 1
    grobner
  · show (p.2 * q.2 - p.1 * q.1) * _=(q.2 * p.2 - q.1 * p.1) * _
    congr 1
    grobner
def O : F × F:=(0,1)
theorem MM (d : F) : On d O:=by
  show (0 : F) * 0+1 * 1=1+d * 0 * 0 * 1 * 1
  grobner
theorem inv_one : inv 1=1:=by
  have:=gu (x:=1) (by decide)
  grobner
theorem Ib (d : F) (p : F × F) : add d O p=p:=by
  have e : kk d O p=0:=by show d * 0 * p.1 * 1 * p.2=0;grobner
  unfold add
  rw [e]
  have e1 : (1+0 : F)=1:=by decide
  have e2 : (1 - 0 : F)=1:=by decide
  rw [e1,e2,inv_one]
  apply Prod.ext
  · show (0 * p.2+p.1 * 1) * 1=p.1
    grobner
  · show (1 * p.2 - 0 * p.1) * 1=p.2
    grobner
def neg (p : F × F) : F × F:=(-p.1,p.2)
theorem mg {d : F} {p : F × F} (h : On d p) : On d (neg p):=by
  show -p.1 * -p.1+p.2 * p.2=1+d * -p.1 * -p.1 * p.2 * p.2
  unfold On at h
  grobner
theorem add_neg {d : F} {p : F × F} (ns : NS d) (h : On d p) : add d p (neg p)=O:=by
  have x:=uD ns h (mg h)
  have y:=nM ns h (mg h)
  have n1:=sj ns h (mg h)
  have n2:=nL ns h (mg h)
  generalize add d p (neg p)=r at *
  obtain ⟨rx,ry⟩:=r
  obtain ⟨px,py⟩:=p
  unfold neg kk On at *
  simp only at *
  have ex : rx=0:=by
    refine cancel n1 ?_
    generalize 1+d * px * -px * py * py=z at *
    grobner
  have ey : ry=1:=by
    refine cancel n2 ?_
    have : 1 - d * px * -px * py * py=py * py - px * -px:=by clear x y n1 n2 ex;grobner
    rw [← this] at y
    generalize 1 - d * px * -px * py * py=z at *
    clear x n1 n2 this ex h
    grobner
  rw [ex,ey];rfl
def nP (d : F) (p : F × F) : Nat→F × F
  | 0=>O
  | n+1=>add d (nP d p n) p
theorem xj {d : F} {p : F × F} (ns : NS d) (h : On d p) : ∀ n,On d (nP d p n)
  | 0=>MM d
  | n+1=>zp ns (xj ns h n) h
theorem zq {d : F} {p : F × F} (ns : NS d) (h : On d p) (m : Nat) : ∀ n,nP d p (m+n)=add d (nP d p m) (nP d p n)
  | 0=>by
    show nP d p m=add d (nP d p m) O
    rw [add_comm,Ib]
  | n+1=>by
    show add d (nP d p (m+n)) p=add d (nP d p m) (add d (nP d p n) p)
    rw [zq ns h m n,assoc ns (xj ns h m) (xj ns h n) h]
end dZ
end
section
namespace dZ
structure L4 where
  x2 : F
  z2 : F
  x3 : F
  z3 : F
def core (x1 : F) (s : L4) : L4:=
  let a:=s.x2+s.z2
  let b:=s.x2 - s.z2
  let c:=s.x3+s.z3
  let d:=s.x3 - s.z3
  let da:=d * a
  let cb:=c * b
  let aa:=a * a
  let bb:=b * b
  let e:=aa - bb
  ⟨aa * bb,e * (aa+121665 * e),(da+cb) * (da+cb),x1 * ((da - cb) * (da - cb))⟩
def swap (b : Bool) (s : L4) : L4:=if b then ⟨s.x3,s.z3,s.x2,s.z2⟩ else s
def AL (x1 : F) (k : Nat) : Nat→L4→L4
  | 0,s=>s
  | n+1,s=>AL x1 k n (swap (k.testBit n) (core x1 (swap (k.testBit n) s)))
def Gr (k : Nat) (u : F) : F:=(AL u k 255 ⟨1,0,u,1⟩).x2 * inv (AL u k 255 ⟨1,0,u,1⟩).z2
def FL (σ y X Z : F) : Prop:=∃ l,l≠0∧X=l * (1+y)∧Z=l * (σ * (1 - y))
structure Jp (σ d : F) : Prop where
  one : σ * σ=1
  num : d * (σ * ca+2)=σ * ca - 2
  ns : NS d
theorem Ej {σ y X Z : F} (h1 : σ * σ=1) (h : σ * (1+y) * Z=(1 - y) * X) (n : X=0→Z=0→False) : FL σ y X Z:=by
  have h2:=gu pZ
  refine ⟨(X+σ * Z) * inv 2,fun z=>?_,?_,?_⟩
  · have z1 : X+σ * Z=0:=by
      refine (mul_zero z).elim id fun e=>?_
      rw [e] at h2
      have one : (1 : F)≠0:=by decide
      exact absurd (by grobner) one
    have e : (2 : F) * X=0:=by
      clear z h2 n
      grobner
    have e1 : X=0:=(mul_zero e).elim (fun h=>absurd h pZ) id
    refine n e1 ?_
    clear z h2 n
    grobner
  · clear n
    generalize inv 2=i at *
    grobner
  · clear n
    generalize inv 2=i at *
    grobner
theorem Jq {d : F} {p : F × F} (ns : NS d) (hp : On d p) : (1+(add d p p).2) * ((1 - p.2 * p.2) * (1 - d * p.2 * p.2))=(1 - (add d p p).2) * (p.2 * p.2 * (1 - d)):=by
  have hy:=nM ns hp hp
  have n:=nL ns hp hp
  generalize add d p p=r at *
  obtain ⟨rx,y2⟩:=r
  obtain ⟨x,y⟩:=p
  unfold kk On at *
  simp only at *
  have e : 1 - d * x * x * y * y=2 - x * x - y * y:=by clear hy n;grobner
  rw [e] at hy n
  refine cancel n ?_
  have e1 : (2 - x * x - y * y) * (1+y2)=2 - 2 * (x * x):=by clear n e;grobner
  have e2 : (2 - x * x - y * y) * (1 - y2)=2 - 2 * (y * y):=by clear n e e1;grobner
  have e3 : (2 - x * x - y * y) * ((1+y2) * ((1 - y * y) * (1 - d * y * y)))=(2 - 2 * (x * x)) * ((1 - y * y) * (1 - d * y * y)):=by rw [← e1];clear n e e1 e2 hy hp;grobner
  have e4 : (2 - x * x - y * y) * ((1 - y2) * (y * y * (1 - d)))=(2 - 2 * (y * y)) * (y * y * (1 - d)):=by rw [← e2];clear n e e1 e2 e3 hy hp;grobner
  rw [e3,e4]
  clear e3 e4 e1 e2 n e hy
  grobner
theorem Gs {d : F} {p q : F × F} (ns : NS d) (hp : On d p) (hq : On d q) :
    (1+(add d p q).2) * (1+(add d p (neg q)).2) * ((p.2 - q.2) * (p.2 - q.2))=(1 - (add d p q).2) * (1 - (add d p (neg q)).2) * ((p.2+q.2) * (p.2+q.2)):=by
  have a:=nM ns hp hq
  have b:=nM ns hp (mg hq)
  have n1:=nL ns hp hq
  have n2:=nL ns hp (mg hq)
  have c:=Jj (Ca d p.1 p.2 q.1 q.2) (jJ hp) (jJ hq)
  generalize add d p q=r at *
  generalize add d p (neg q)=t at *
  obtain ⟨rx,ry⟩:=r
  obtain ⟨tx,ty⟩:=t
  obtain ⟨x1,y1⟩:=p
  obtain ⟨x2,y2⟩:=q
  unfold neg kk On at *
  simp only at *
  clear hp hq
  have e : 1 - d * x1 * -x2 * y1 * y2=1+d * x1 * x2 * y1 * y2:=by clear a b n1 n2 c;grobner
  rw [e] at b n2
  generalize d * x1 * x2 * y1 * y2=k at *
  have e1 : (1 - k) * (1+ry)=1 - k+y1 * y2 - x1 * x2:=by clear b n1 n2 c e;grobner
  have e2 : (1 - k) * (1 - ry)=1 - k - y1 * y2+x1 * x2:=by clear b n1 n2 c e e1;grobner
  have e3 : (1+k) * (1+ty)=1+k+y1 * y2+x1 * x2:=by clear a n1 n2 c e e1 e2;grobner
  have e4 : (1+k) * (1 - ty)=1+k - y1 * y2 - x1 * x2:=by clear a n1 n2 c e e1 e2 e3;grobner
  rw [← e1,← e2,← e3,← e4] at c
  refine cancel (eP n1 n2) ?_
  clear e1 e2 e3 e4 a b e n1 n2
  generalize 1+ry=r1 at *
  generalize 1 - ry=r2 at *
  generalize 1+ty=t1 at *
  generalize 1 - ty=t2 at *
  generalize 1+k=k1 at *
  generalize 1 - k=k2 at *
  generalize y1 - y2=f at *
  generalize y1+y2=g at *
  grobner
theorem Gt (d : F) (p q : F × F) : (add d p (neg q)).2=(add d q (neg p)).2:=by
  show (p.2 * q.2 - p.1 * -q.1) * inv (1 - d * p.1 * -q.1 * p.2 * q.2)=(q.2 * p.2 - q.1 * -p.1) * inv (1 - d * q.1 * -p.1 * q.2 * p.2)
  have e1 : p.2 * q.2 - p.1 * -q.1=q.2 * p.2 - q.1 * -p.1:=by grobner
  have e2 : 1 - d * p.1 * -q.1 * p.2 * q.2=1 - d * q.1 * -p.1 * q.2 * p.2:=by grobner
  rw [e1,e2]
theorem Jp.MN {σ d : F} (h : Jp σ d) : 1 - d≠0:=fun z=>h.ns 1 (by grobner)
theorem AM {σ d : F} (hp : Jp σ d) {p : F × F} (h : On d p) {s : L4} (r : FL σ p.2 s.x2 s.z2) (x1 : F) : FL σ (add d p p).2 (core x1 s).x2 (core x1 s).z2:=by
  obtain ⟨l,l0,ex,ez⟩:=r
  have id:=Jq hp.ns h
  have nd:=hp.MN
  have h1:=hp.one
  have h2:=hp.num
  show FL σ (add d p p).2 ((s.x2+s.z2) * (s.x2+s.z2) * ((s.x2 - s.z2) * (s.x2 - s.z2))) (((s.x2+s.z2) * (s.x2+s.z2) - (s.x2 - s.z2) * (s.x2 - s.z2)) * ((s.x2+s.z2) * (s.x2+s.z2)+121665 * ((s.x2+s.z2) * (s.x2+s.z2) - (s.x2 - s.z2) * (s.x2 - s.z2))))
  rw [ex,ez]
  generalize p.2=y at *
  generalize (add d p p).2=y2 at *
  clear ex ez h hp
  have fx : (l * (1+y)+l * (σ * (1 - y))) * (l * (1+y)+l * (σ * (1 - y))) * ((l * (1+y) - l * (σ * (1 - y))) * (l * (1+y) - l * (σ * (1 - y))))=16 * (l * l * (l * l)) * (y * y):=by
    have e : (l * (1+y)+l * (σ * (1 - y))) * (l * (1+y) - l * (σ * (1 - y)))=l * l * (4 * y):=by clear id h2 nd l0;grobner
    clear id h1 h2 nd l0
    generalize l * (1+y)+l * (σ * (1 - y))=a at *
    generalize l * (1+y) - l * (σ * (1 - y))=b at *
    grobner
  have ge : (l * (1+y)+l * (σ * (1 - y))) * (l * (1+y)+l * (σ * (1 - y))) - (l * (1+y) - l * (σ * (1 - y))) * (l * (1+y) - l * (σ * (1 - y)))=4 * (l * l) * (σ * (1 - y * y)):=by clear id h1 h2 nd l0 fx;grobner
  have ga : (l * (1+y)+l * (σ * (1 - y))) * (l * (1+y)+l * (σ * (1 - y)))=l * l * (2+2 * (y * y)+2 * (σ * (1 - y * y))):=by clear id h2 nd l0 fx ge;grobner
  rw [fx,ge,ga]
  have ca4 : (121665 : F) * 4=ca - 2:=by decide +kernel
  have gz : (1 - d) * (4 * (l * l) * (σ * (1 - y * y)) * (l * l * (2+2 * (y * y)+2 * (σ * (1 - y * y)))+121665 * (4 * (l * l) * (σ * (1 - y * y)))))=16 * (l * l * (l * l)) * (σ * ((1 - y * y) * (1 - d * y * y))):=by
    have e1 : l * l * (2+2 * (y * y)+2 * (σ * (1 - y * y)))+121665 * (4 * (l * l) * (σ * (1 - y * y)))=l * l * (2+2 * (y * y)+σ * ca * (1 - y * y)):=by
      clear id h1 h2 nd l0 fx ge ga
      generalize ca=A at *
      grobner
    have e2 : (1 - d) * (2+2 * (y * y)+σ * ca * (1 - y * y))=4 * (1 - d * y * y):=by
      clear id h1 nd l0 fx ge ga e1 ca4
      generalize ca=A at *
      grobner
    rw [e1]
    clear id h1 h2 nd l0 fx ge ga e1 ca4
    generalize 2+2 * (y * y)+σ * ca * (1 - y * y)=w at *
    grobner
  generalize 4 * (l * l) * (σ * (1 - y * y)) * (l * l * (2+2 * (y * y)+2 * (σ * (1 - y * y)))+121665 * (4 * (l * l) * (σ * (1 - y * y))))=Z at *
  have n16 : 16 * (l * l * (l * l))≠0:=eP (by decide) (eP (eP l0 l0) (eP l0 l0))
  clear fx ge ga ca4 h2 l0
  generalize 16 * (l * l * (l * l))=K at *
  refine Ej h1 (cancel nd ?_) fun z1 z2=>?_
  · have e : (1 - d) * (σ * (1+y2) * Z)=σ * (1+y2) * ((1 - d) * Z):=by clear id h1 gz nd n16;grobner
    rw [e,gz]
    clear e gz nd n16
    generalize (1 - y * y) * (1 - d * y * y)=w at *
    grobner
  · have y0 : y=0:=(mul_zero z1).elim (fun h=>absurd h n16) vE
    have s0 : σ≠0:=fun e=>by
      rw [e] at h1
      have : (0 : F) * 0≠1:=by decide
      exact this h1
    refine eP n16 s0 ?_
    rw [y0,z2] at gz
    clear id h1 nd n16 z1 z2 y0 s0
    grobner
theorem AN {σ d u : F} (hp : Jp σ d) {p q : F × F} (h : On d p) (h' : On d q) {s : L4} (r : FL σ p.2 s.x2 s.z2) (r' : FL σ q.2 s.x3 s.z3)
    (hu : u≠0) (hd : u * (σ * (1 - (add d p (neg q)).2))=1+(add d p (neg q)).2) : FL σ (add d p q).2 (core u s).x3 (core u s).z3:=by
  obtain ⟨l,l0,ex,ez⟩:=r
  obtain ⟨m,m0,fx,fz⟩:=r'
  have id:=Gs hp.ns h h'
  have ty:=nM hp.ns h (mg h')
  have h1:=hp.one
  show FL σ (add d p q).2 (((s.x3 - s.z3) * (s.x2+s.z2)+(s.x3+s.z3) * (s.x2 - s.z2)) * ((s.x3 - s.z3) * (s.x2+s.z2)+(s.x3+s.z3) * (s.x2 - s.z2)))
    (u * (((s.x3 - s.z3) * (s.x2+s.z2) - (s.x3+s.z3) * (s.x2 - s.z2)) * ((s.x3 - s.z3) * (s.x2+s.z2) - (s.x3+s.z3) * (s.x2 - s.z2))))
  rw [ex,ez,fx,fz]
  generalize (add d p q).2=ry at *
  generalize add d p (neg q)=t at *
  obtain ⟨tx,t⟩:=t
  obtain ⟨x1,y1⟩:=p
  obtain ⟨x2,y2⟩:=q
  unfold neg kk On at *
  simp only at *
  clear ex ez fx fz hp
  have one : (1 : F)≠0:=by decide
  have ga : (m * (1+y2) - m * (σ * (1 - y2))) * (l * (1+y1)+l * (σ * (1 - y1)))+(m * (1+y2)+m * (σ * (1 - y2))) * (l * (1+y1) - l * (σ * (1 - y1)))=4 * (l * m) * (y1+y2):=by
    clear id ty h h' hu hd l0 m0 one
    grobner
  have gb : (m * (1+y2) - m * (σ * (1 - y2))) * (l * (1+y1)+l * (σ * (1 - y1))) - (m * (1+y2)+m * (σ * (1 - y2))) * (l * (1+y1) - l * (σ * (1 - y1)))=4 * (l * m) * (σ * (y2 - y1)):=by
    clear id ty h h' hu hd l0 m0 one ga h1
    grobner
  rw [ga,gb]
  have n4 : 4 * (l * m)≠0:=eP (by decide) (eP l0 m0)
  clear ga gb l0 m0
  generalize 4 * (l * m)=K at *
  have t1 : 1 - t≠0:=fun z=>by
    have e : (2 : F)=0:=by
      rw [z] at hd
      clear id ty h h' hu h1 one n4
      grobner
    exact pZ e
  refine Ej h1 (cancel t1 ?_) fun z1 z2=>?_
  · have e : (1 - t) * (σ * (1+ry) * (u * (K * (σ * (y2 - y1)) * (K * (σ * (y2 - y1))))))=K * K * (σ * σ) * ((1+ry) * (u * (σ * (1 - t))) * ((y1 - y2) * (y1 - y2))):=by
      clear id ty h h' hu hd h1 one n4 t1
      grobner
    rw [e,hd,id,h1]
    clear id ty h h' hu hd h1 one n4 t1 e
    grobner
  · have a1 : y1+y2=0:=(mul_zero (vE z1)).elim (fun h=>absurd h n4) (fun h=>h)
    have a2 : σ * (y2 - y1)=0:=(mul_zero ((mul_zero z2).elim (fun h=>absurd h hu) vE)).elim (fun h=>absurd h n4) (fun h=>h)
    have a3 : y2 - y1=0:=by clear id ty h h' hu hd one n4 t1 z1 z2 a1;grobner
    have a4 : (2 : F) * y1=0:=by clear id ty h h' hu hd one n4 t1 z1 z2 a2 h1;grobner
    have a5 : y1=0:=(mul_zero a4).elim (fun h=>absurd h pZ) (fun h=>h)
    have a6 : y2=0:=by rw [a5] at a1;clear id ty h h' hu hd one n4 t1 z1 z2 a2 h1 a3 a4 a5;grobner
    rw [a5] at h ty
    rw [a6] at h' ty
    have b1 : x1 * x1=1:=by clear id ty h' hu hd one n4 t1 z1 z2 a1 a2 h1 a3 a4 a5 a6;grobner
    have b2 : x2 * x2=1:=by clear id ty h hu hd one n4 t1 z1 z2 a1 a2 h1 a3 a4 a5 a6 b1;grobner
    have b3 : t=x1 * x2:=by clear id h h' hu hd one n4 t1 z1 z2 a1 a2 h1 a3 a4 a5 a6 b1 b2;grobner
    have b4 : (1 - t) * (1+t)=0:=by clear id h h' hu hd one n4 t1 z1 z2 a1 a2 h1 a3 a4 a5 a6 ty;grobner
    have b5 : 1+t=0:=(mul_zero b4).elim (fun h=>absurd h t1) (fun h=>h)
    have s0 : σ≠0:=fun e=>by
      rw [e] at h1
      have : (0 : F) * 0≠1:=by decide
      exact this h1
    rw [b5] at hd
    exact eP hu (eP s0 t1) hd
end dZ
end
section
namespace dZ
theorem Ek {d : F} {p r : F × F} (ns : NS d) (hp : On d p) (hr : On d r) : add d (add d r p) (neg r)=p:=by
  rw [add_comm d r p,assoc ns hp hr (mg hr),add_neg ns hr,add_comm,Ib]
theorem El {d : F} {p : F × F} (ns : NS d) (h : On d p) (m : Nat) : add d (nP d p m) (nP d p m)=nP d p (2 * m):=by
  rw [← zq ns h,Nat.two_mul]
theorem AO {d : F} {p : F × F} (ns : NS d) (h : On d p) (m : Nat) : add d (nP d p m) (nP d p (m+1))=nP d p (2 * m+1):=by
  rw [← zq ns h]
  congr 1
  omega
def Inv (σ d : F) (p : F × F) (m : Nat) (s : L4) : Prop:=FL σ (nP d p m).2 s.x2 s.z2∧FL σ (nP d p (m+1)).2 s.x3 s.z3
theorem Inv.step {σ d u : F} {p : F × F} (hp : Jp σ d) (h : On d p) (hu : u≠0) (hd : u * (σ * (1 - p.2))=1+p.2) {m : Nat} {s : L4} (i : Inv σ d p m s) (b : Bool) :
    Inv σ d p (2 * m+b.toNat) (swap b (core u (swap b s))):=by
  obtain ⟨i1,i2⟩:=i
  have o1:=xj hp.ns h m
  have o2:=xj hp.ns h (m+1)
  have df : add d (nP d p (m+1)) (neg (nP d p m))=p:=Ek hp.ns h o1
  have dg : (add d (nP d p m) (neg (nP d p (m+1)))).2=p.2:=by rw [Gt,df]
  cases b with
  | false=>
    have a1:=AM hp o1 i1 u
    have a2:=AN hp o1 o2 i1 i2 hu (by rw [dg];exact hd)
    rw [El hp.ns h] at a1
    rw [AO hp.ns h] at a2
    exact ⟨a1,a2⟩
  | true=>
    have a1:=AM hp o2 (s:=⟨s.x3,s.z3,s.x2,s.z2⟩) i2 u
    have a2:=AN hp o2 o1 (s:=⟨s.x3,s.z3,s.x2,s.z2⟩) i2 i1 hu (by rw [df];exact hd)
    rw [El hp.ns h] at a1
    rw [add_comm,AO hp.ns h] at a2
    exact ⟨a2,a1⟩
theorem Cb (k n : Nat) : k % 2 ^ (n+1)=(k.testBit n).toNat * 2 ^ n+k % 2 ^ n:=by
  rw [Nat.pow_succ,Nat.mod_mul,Nat.testBit_eq_decide_div_mod_eq,Nat.add_comm,Nat.mul_comm]
  congr 2
  by_cases h : k / 2 ^ n % 2=1
  · rw [h];rfl
  · have h0 : k / 2 ^ n % 2=0:=by omega
    rw [h0];rfl
theorem Inv.all {σ d u : F} {p : F × F} (hp : Jp σ d) (h : On d p) (hu : u≠0) (hd : u * (σ * (1 - p.2))=1+p.2) (k : Nat) :
    ∀ n m s,Inv σ d p m s→Inv σ d p (m * 2 ^ n+k % 2 ^ n) (AL u k n s)
  | 0,m,s,i=>by
    have e : m * 2 ^ 0+k % 2 ^ 0=m:=by rw [Nat.pow_zero,Nat.mod_one,Nat.mul_one];rfl
    rw [e];exact i
  | n+1,m,s,i=>by
    have r:=Inv.all hp h hu hd k n _ _ (i.step hp h hu hd (k.testBit n))
    have e : m * 2 ^ (n+1)+k % 2 ^ (n+1)=(2 * m+(k.testBit n).toNat) * 2 ^ n+k % 2 ^ n:=by
      rw [Cb,Nat.add_mul,Nat.pow_succ,Nat.mul_comm (2 ^ n) 2,← Nat.mul_assoc,Nat.mul_comm m 2,Nat.add_assoc]
    rw [e];exact r
def U (σ : F) (p : F × F) : F:=(1+p.2) * inv (σ * (1 - p.2))
theorem Ny {σ u s : F} (h1 : σ * σ=1) (hs : σ * (σ * ca+2) * (u * (u * u+ca * u+1))=s * s) : ∃ d p,Jp σ d∧On d p∧U σ p=u:=by
  have nr:=Gn
  have hc : σ * ca+2≠0:=fun z=>nr 0 (by
    generalize ca=A at *
    clear nr hs
    grobner)
  have hv : σ * u+1≠0:=fun z=>nr s (by
    rw [← hs]
    generalize ca=A at *
    clear nr hs hc
    grobner)
  have hD : u * u+ca * u+1≠0:=fun z=>nr (2 * u+ca) (by
    generalize ca=A at *
    clear nr hs hc hv
    grobner)
  have ic:=gu hc
  have iv:=gu hv
  have iD:=gu hD
  have num : (σ * ca - 2) * inv (σ * ca+2) * (σ * ca+2)=σ * ca - 2:=by
    clear hs hv hD iv iD nr h1
    generalize inv (σ * ca+2)=a at *
    generalize σ * ca+2=b at *
    generalize σ * ca - 2=c at *
    grobner
  have ns : NS ((σ * ca - 2) * inv (σ * ca+2)):=fun t e=>nr (t * (σ * ca+2)) (by
    rw [← e] at num
    clear hs hv hD iv iD nr e ic hc
    generalize ca=A at *
    grobner)
  have hx : s * inv (u * u+ca * u+1) * (u * u+ca * u+1)=s:=by
    clear hs hv ns iv nr ic hc num h1
    generalize inv (u * u+ca * u+1)=a at *
    generalize u * u+ca * u+1=b at *
    grobner
  have hy : (σ * u - 1) * inv (σ * u+1) * (σ * u+1)=σ * u - 1:=by
    clear hs hD ns iD nr ic hc num h1 hx
    generalize inv (σ * u+1)=a at *
    generalize σ * u+1=b at *
    generalize σ * u - 1=c at *
    grobner
  generalize s * inv (u * u+ca * u+1)=x at *
  generalize (σ * u - 1) * inv (σ * u+1)=y at *
  generalize (σ * ca - 2) * inv (σ * ca+2)=d at *
  refine ⟨d,(x,y),⟨h1,num,ns⟩,?_,?_⟩
  · show x * x+y * y=1+d * x * x * y * y
    have e1 : x * x * (u * u+ca * u+1)=(σ * ca+2) * (σ * u):=by
      refine cancel hD ?_
      clear nr hc hv hD ic iv iD num ns hy
      have e : (u * u+ca * u+1) * (x * x * (u * u+ca * u+1))=s * s:=by
        rw [← hx]
        clear hx hs h1
        generalize u * u+ca * u+1=D at *
        grobner
      rw [e,← hs]
      clear e hx hs
      generalize u * u+ca * u+1=D at *
      generalize ca=A at *
      grobner
    refine cancel hD (cancel (eP hv hv) ?_)
    have l : (σ * u+1) * (σ * u+1) * ((u * u+ca * u+1) * (x * x+y * y))=(σ * ca+2) * (σ * u) * ((σ * u+1) * (σ * u+1))+(u * u+ca * u+1) * ((σ * u - 1) * (σ * u - 1)):=by
      rw [← e1,← hy]
      clear e1 hy hx hs nr hc hv hD ic iv iD num ns h1
      generalize σ * u+1=E at *
      generalize u * u+ca * u+1=D at *
      grobner
    have r : (σ * u+1) * (σ * u+1) * ((u * u+ca * u+1) * (1+d * x * x * y * y))=(u * u+ca * u+1) * ((σ * u+1) * (σ * u+1))+d * (σ * ca+2) * (σ * u) * ((σ * u - 1) * (σ * u - 1)):=by
      have e2 : d * (σ * ca+2) * (σ * u)=d * (x * x * (u * u+ca * u+1)):=by
        rw [e1]
        clear l e1 hy hx hs nr hc hv hD ic iv iD num ns h1
        generalize σ * ca+2=C at *
        generalize σ * u=v at *
        grobner
      rw [e2,← hy]
      clear l e1 e2 hy hx hs nr hc hv hD ic iv iD num ns h1
      generalize σ * u+1=E at *
      generalize u * u+ca * u+1=D at *
      grobner
    rw [l,r,num]
    clear l r e1 hy hx hs nr hc hv hD ic iv iD num ns
    generalize ca=A at *
    grobner
  · show (1+y) * inv (σ * (1 - y))=u
    have e1 : (σ * u+1) * (1+y)=2 * (σ * u):=by
      clear hx hs nr hc hv hD ic iv iD num ns h1
      grobner
    have e2 : (σ * u+1) * (1 - y)=2:=by
      clear hx hs nr hc hv hD ic iv iD num ns h1 e1
      grobner
    have e3 : u * (σ * (1 - y))=1+y:=by
      refine cancel hv ?_
      rw [e1]
      clear hx hs nr hc hv hD ic iv iD num ns h1 e1 hy
      grobner
    have n : σ * (1 - y)≠0:=fun z=>by
      have e4 : (2 : F)=0:=by
        clear hx hs nr hc hv hD ic iv iD num ns e1 hy e3
        grobner
      exact pZ e4
    have i:=gu n
    rw [← e3]
    clear hx hs nr hc hv hD ic iv iD num ns e1 hy e3 e2 n h1
    generalize inv (σ * (1 - y))=a at *
    generalize σ * (1 - y)=b at *
    grobner
end dZ
end
section
namespace dZ
def val : List Int→Int
  | []=>0
  | a::l=>a+65536 * val l
def nth (l : List Int) (i : Nat) : Int:=l.getD i 0
theorem bG (l : List Int) (i j : Nat) (x : Int) (h : i<l.length) : nth (l.set i x) j=if i=j then x else nth l j:=by
  unfold nth
  simp only [List.getD_eq_getElem?_getD,List.getElem?_set]
  by_cases e : i=j
  · subst e
    simp [h]
  · simp [e]
theorem gv : ∀ (l : List Int) (i : Nat) (x : Int),i<l.length→val (l.set i x)=val l+(x - nth l i) * 65536 ^ i
  | [],i,x,h=>absurd h (by simp)
  | a::l,0,x,_=>by
    show x+65536 * val l=a+65536 * val l+(x - a) * 65536 ^ 0
    rw [Int.pow_zero];omega
  | a::l,i+1,x,h=>by
    have ih:=gv l i x (by simpa using h)
    show a+65536 * val (l.set i x)=a+65536 * val l+(x - nth l i) * 65536 ^ (i+1)
    rw [ih,Int.pow_succ,Int.mul_add,Int.mul_comm (65536 ^ i) 65536,Int.mul_left_comm,Int.add_assoc]
def e7 (l : List Int) (i : Nat) : List Int:=
  let q:=nth l i / 65536
  let m:=l.set i (nth l i - q * 65536)
  if i<15 then m.set (i+1) (nth m (i+1)+q) else m.set 0 (nth m 0+38 * q)
def fq (l : List Int) : Nat→List Int
  | 0=>l
  | i+1=>e7 (fq l i) i
def qB (l : List Int) : List Int:=fq l 16
theorem Cc (l : List Int) (i : Nat) : (e7 l i).length=l.length:=by
  unfold e7
  simp only
  split <;> simp
theorem kL (l : List Int) : ∀ i,(fq l i).length=l.length
  | 0=>rfl
  | i+1=>by show (e7 (fq l i) i).length=_;rw [Cc,kL l i]
theorem Cd {l : List Int} (hl : l.length=16) {i : Nat} (h : i<15) : val (e7 l i)=val l:=by
  unfold e7
  simp only [h,if_true]
  rw [gv _ _ _ (by simp [hl];omega),gv _ _ _ (by omega),Int.pow_succ]
  have e : nth (l.set i (nth l i - nth l i / 65536 * 65536)) (i+1)+nth l i / 65536 - nth (l.set i (nth l i - nth l i / 65536 * 65536)) (i+1)=nth l i / 65536:=by omega
  have e2 : nth l i - nth l i / 65536 * 65536 - nth l i=-(nth l i / 65536 * 65536):=by omega
  rw [e,e2]
  generalize nth l i / 65536=q
  rw [Int.neg_mul,Int.mul_assoc q,Int.mul_comm 65536 (65536 ^ i)]
  omega
theorem xo {l : List Int} (hl : l.length=16) : ∃ q,val (e7 l 15)=val l - q * (2 * P):=by
  refine ⟨nth l 15 / 65536,?_⟩
  unfold e7
  simp only [show ¬ (15 : Nat)<15 by decide,if_false]
  rw [gv _ _ _ (by simp [hl]),gv _ _ _ (by omega)]
  have e2 : nth l 15 - nth l 15 / 65536 * 65536 - nth l 15=-(nth l 15 / 65536 * 65536):=by omega
  rw [e2]
  generalize nth l 15 / 65536=q
  generalize nth (l.set 15 (nth l 15 - q * 65536)) 0=z
  have e3 : (65536 : Int) ^ 15=1766847064778384329583297500742918515827483896875618958121606201292619776:=by decide
  have e4 : (2 * (P : Int))=115792089237316195423570985008687907853269984665640564039457584007913129639898:=by decide
  rw [e3,e4,Int.pow_zero]
  omega
theorem vF {l : List Int} (hl : l.length=16) : ∀ i,i≤15→val (fq l i)=val l
  | 0,_=>rfl
  | i+1,h=>by
    show val (e7 (fq l i) i)=val l
    rw [Cd (by rw [kL,hl]) (by omega),vF hl i (by omega)]
theorem Gu {l : List Int} (hl : l.length=16) : ∃ q,val (qB l)=val l - q * (2 * P):=by
  obtain ⟨q,e⟩:=xo (l:=fq l 15) (by rw [kL,hl])
  exact ⟨q,by show val (e7 (fq l 15) 15)=_;rw [e,vF hl 15 (by omega)]⟩
def iF (lo : List Int) : Nat→Int
  | 0=>0
  | i+1=>(nth lo i+iF lo i) / 65536
def Jr (lo hi l : List Int) : Prop:=∀ j,j<16→nth lo j≤nth l j∧nth l j≤nth hi j
structure Ce (lo hi : List Int) (i : Nat) (l : List Int) : Prop where
  len : l.length=16
  done : ∀ j,j<i→0≤nth l j∧nth l j≤65535
  here : nth lo i+iF lo i≤nth l i∧nth l i≤nth hi i+iF hi i
  rest : ∀ j,i<j→j<16→nth lo j≤nth l j∧nth l j≤nth hi j
theorem Ce.step {lo hi l : List Int} {i : Nat} (h : i<15) (c : Ce lo hi i l) : Ce lo hi (i+1) (e7 l i):=by
  obtain ⟨len,done,here,rest⟩:=c
  unfold e7
  simp only [h,if_true]
  have l1 : (l.set i (nth l i - nth l i / 65536 * 65536)).length=16:=by simp [len]
  refine ⟨by simp [len],fun j hj=>?_,?_,fun j hj hj2=>?_⟩
  · rw [bG _ _ _ _ (by omega),if_neg (by omega),bG _ _ _ _ (by omega)]
    split
    next e=>omega
    next e=>exact done j (by omega)
  · rw [bG _ _ _ _ (by omega),if_pos rfl,bG _ _ _ _ (by omega),if_neg (by omega)]
    have r:=rest (i+1) (by omega) (by omega)
    have e1 : iF lo (i+1)=(nth lo i+iF lo i) / 65536:=rfl
    have e2 : iF hi (i+1)=(nth hi i+iF hi i) / 65536:=rfl
    rw [e1,e2]
    omega
  · rw [bG _ _ _ _ (by omega),if_neg (by omega),bG _ _ _ _ (by omega),if_neg (by omega)]
    exact rest j (by omega) hj2
theorem Ce.all {lo hi l : List Int} (hl : l.length=16) (b : Jr lo hi l) : ∀ i,i≤15→Ce lo hi i (fq l i)
  | 0,_=>⟨hl,fun j h=>absurd h (by omega),by have:=b 0 (by omega);show nth lo 0+0≤nth l 0∧nth l 0≤nth hi 0+0;omega,fun j _ h=>b j h⟩
  | i+1,h=>(Ce.all hl b i (by omega)).step (by omega)
structure Small (l0 h0 : Int) (l : List Int) : Prop where
  len : l.length=16
  first : l0≤nth l 0∧nth l 0≤h0
  rest : ∀ j,0<j→j<16→0≤nth l j∧nth l j≤65535
theorem Ce.last {lo hi l : List Int} (c : Ce lo hi 15 l) : Small (38 * iF lo 16) (65535+38 * iF hi 16) (e7 l 15):=by
  obtain ⟨len,done,here,rest⟩:=c
  unfold e7
  simp only [show ¬ (15 : Nat)<15 by decide,if_false]
  have l1 : (l.set 15 (nth l 15 - nth l 15 / 65536 * 65536)).length=16:=by simp [len]
  have d0:=done 0 (by omega)
  have e1 : iF lo 16=(nth lo 15+iF lo 15) / 65536:=rfl
  have e2 : iF hi 16=(nth hi 15+iF hi 15) / 65536:=rfl
  refine ⟨by simp [len],?_,fun j hj hj2=>?_⟩
  · rw [bG _ _ _ _ (by omega),if_pos rfl,bG _ _ _ _ (by omega),if_neg (by omega),e1,e2]
    omega
  · rw [bG _ _ _ _ (by omega),if_neg (by omega),bG _ _ _ _ (by omega)]
    split
    next e=>omega
    next e=>exact done j (by omega)
theorem j9 {lo hi l : List Int} (hl : l.length=16) (b : Jr lo hi l) : Small (38 * iF lo 16) (65535+38 * iF hi 16) (qB l):=
  (Ce.all hl b 15 (by omega)).last
theorem Small.weak {a b c d : Int} {l : List Int} (h : Small a b l) (h1 : c≤a) (h2 : b≤d) : Small c d l:=
  ⟨h.len,by have:=h.first;omega,h.rest⟩
def Cf (a b : Int) : List Int:=a::List.replicate 15 b
theorem gw (a b : Int) (j : Nat) (h : j<16) : nth (Cf a b) j=if j=0 then a else b:=by
  cases j with
  | zero=>rfl
  | succ j=>
    unfold nth Cf
    rw [List.getD_cons_succ,List.getD_eq_getElem?_getD,List.getElem?_replicate,if_pos (by omega),if_neg (by omega)]
    rfl
theorem Small.Kj {a b : Int} {l : List Int} (h : Small a b l) : Jr (Cf a 0) (Cf b 65535) l:=fun j hj=>by
  rw [gw _ _ _ hj,gw _ _ _ hj]
  by_cases e : j=0
  · subst e;simpa using h.first
  · simpa [e] using h.rest j (by omega) hj
end dZ
end
section
set_option maxRecDepth 10000
open Sl dZ
theorem fc : Tryz.prog.follows .mixedOrders=true:=by kernel_rfl
theorem lN : dW Tryz.prog 2=some 1:=by kernel_rfl
theorem qS : iV Tryz.prog 2=true:=by kernel_rfl
theorem bg : dW Tryz.prog 97=some 16:=by kernel_rfl
theorem cX : gM Tryz.prog 97=true:=by kernel_rfl
theorem jK : zc Tryz.prog 97=some ((List.replicate 16 (0 : Int)).map I):=by kernel_rfl
theorem gS : aI Tryz.prog 73:=⟨_,Tryz.func73,rfl,by kernel_rfl⟩
theorem fZ {l : List Int} {i : Nat} (h : i<l.length) : (l.map I)[i]?=some (I (nth l i)):=by
  simp [nth,h]
theorem jc (l : List Int) (i : Nat) (x : Int) : (l.map I).set i (I x)=(l.set i x).map I:=by rw [List.map_set]
def Fit (l : List Int) : Prop:=∀ j,j<16→-288230376151711744≤nth l j∧nth l j≤288230376151711744
def wlo : List Int:=List.replicate 16 (-288230376151711744)
def whi : List Int:=List.replicate 16 288230376151711744
theorem jA (x : Int) (j : Nat) (h : j<16) : nth (List.replicate 16 x) j=x:=by
  unfold nth
  rw [List.getD_eq_getElem?_getD,List.getElem?_replicate,if_pos h];rfl
theorem Fit.Kj {l : List Int} (h : Fit l) : Jr wlo whi l:=fun j hj=>by
  rw [wlo,whi,jA _ _ hj,jA _ _ hj];exact h j hj
theorem AP : ∀ i,i≤16→-8796093022208≤iF wlo i∧iF wlo i≤0
  | 0,_=>by decide
  | i+1,h=>by
    have ih:=AP i (by omega)
    have e : iF wlo (i+1)=(nth wlo i+iF wlo i) / 65536:=rfl
    rw [e,wlo,jA _ _ (by omega),← wlo]
    omega
theorem AQ : ∀ i,i≤16→0≤iF whi i∧iF whi i≤8796093022208
  | 0,_=>by decide
  | i+1,h=>by
    have ih:=AQ i (by omega)
    have e : iF whi (i+1)=(nth whi i+iF whi i) / 65536:=rfl
    rw [e,whi,jA _ _ (by omega),← whi]
    omega
theorem Fit.here {l : List Int} (hl : l.length=16) (h : Fit l) {i : Nat} (hi : i<16) : -297237575406452736≤nth (fq l i) i∧nth (fq l i) i≤297237575406452736:=by
  have c:=(Ce.all hl h.Kj i (by omega)).here
  have a:=AP i (by omega)
  have b:=AQ i (by omega)
  rw [wlo,whi,jA _ _ hi,jA _ _ hi,← wlo,← whi] at c
  omega
theorem Fit.next {l : List Int} (hl : l.length=16) (h : Fit l) {i : Nat} (hi : i<15) : -288230376151711744≤nth (fq l i) (i+1)∧nth (fq l i) (i+1)≤288230376151711744:=by
  have c:=(Ce.all hl h.Kj i (by omega)).rest (i+1) (by omega) (by omega)
  rw [wlo,whi,jA _ _ (by omega),jA _ _ (by omega)] at c
  exact c
theorem Fit.zero {l : List Int} (hl : l.length=16) (h : Fit l) : 0≤nth (fq l 15) 0∧nth (fq l 15) 0≤65535:=(Ce.all hl h.Kj 15 (by omega)).done 0 (by omega)
theorem Em {l : List Int} {i : Nat} (h : i<15) : ((fq l i).set i (nth (fq l i) i - nth (fq l i) i / 65536 * 65536)).set (i+1) (nth ((fq l i).set i (nth (fq l i) i - nth (fq l i) i / 65536 * 65536)) (i+1)+nth (fq l i) i / 65536)=fq l (i+1):=by
  show _=e7 (fq l i) i
  unfold e7
  simp only [h,if_true]
theorem En {l : List Int} : ((fq l 15).set 15 (nth (fq l 15) 15 - nth (fq l 15) 15 / 65536 * 65536)).set 0 (nth ((fq l 15).set 15 (nth (fq l 15) 15 - nth (fq l 15) 15 / 65536 * 65536)) 0+38 * (nth (fq l 15) 15 / 65536))=fq l 16:=by
  show _=e7 (fq l 15) 15
  unfold e7
  simp only [show ¬ (15 : Nat)<15 by decide,if_false]
set_option maxHeartbeats 8000000 in
theorem iR (l : List Int) (hl : l.length=16) (hf : Fit l) (w : World) : Calls Tryz.prog 73 [.agg (l.map I).toArray].toArray w fun e w'=>e=.returned (.agg ((qB l).map I).toArray)∧Ext w w':=by
  refine enter (n:=36) Tryz.func73 rfl rfl rfl (ah.start w []) ?_
  repeat (first | refine JC.seq ?_ | refine JC.region ?_)
  refine JL.box (r:=l.map I) rfl rfl rfl fun b1 _=>?_
  refine JL.alloc jK rfl fun b2 _=>?_
  repeat (first | refine JL.q (by (apply OQ.assign;rfl)) rfl ?_ | refine JC.seq ?_ | refine JC.region ?_ | refine JC.block ?_ | refine JL.nil ?_ | refine JE.next ?_)
  refine JC.loop (fun i : Nat=>[(1,Pt b1 0),(2,Pt b2 0),(3,N i)])
    (fun i=>[⟨b2,Row 97 ((List.replicate 16 (0 : Int)).map I),true⟩,⟨b1,Row 97 ((fq l i).map I),true⟩])
    (fun i=>16 - i) (fun i=>i≤16) 0 (by omega) (by repeat (first | exact ai.nil | refine ai.cons _ _ _ rfl ?_)) (aq.refl _) ?_
  intro i hi
  have len:=kL l i
  rw [hl] at len
  repeat (first | refine JL.q (by first|(apply OQ.move;rfl)|(apply OQ.bP;rfl;rfl)) rfl ?_ | refine JC.seq ?_ | refine JC.region ?_ | refine JL.nil ?_ | refine JE.next ?_)
  refine JC.cond rfl (fun h=>?_) (fun h=>?_)
  · have hi' : i<16:=of_decide_eq_true h
    clear h hi
    have hh:=hf.here hl hi'
    have hc:=fZ (l:=fq l i) (i:=i) (by omega)
    repeat (first | refine JL.q (by first|(apply OQ.aE;exact Tryz.underlying97;exact lN;rfl;rfl;exact (by (try simp only []);omega))|(apply OQ.load;exact qS;rfl;exact (.there .here);exact (Row.cell hc))|(apply OQ.FR (m:=65536) (k:=16);exact (by decide);exact (by decide);rfl;rfl)|(apply OQ.Ma (m:=65536) (k:=16);exact (by decide);exact (by decide);rfl;rfl;exact (by omega);exact (by omega))|(apply OQ.oH;rfl;rfl;exact (by omega);exact (by omega))|(apply OQ.move;rfl)|(apply OQ.assign;rfl)) rfl ?_ | refine JC.seq ?_ | refine JC.region ?_ | refine JC.block ?_ | refine JC.skip ?_ | refine JL.nil ?_ | refine JE.next ?_)
    refine JL.az (r':=((fq l i).set i (nth (fq l i) i - nth (fq l i) i / 65536 * 65536)).map I) lN rfl rfl rfl rfl (.there .here) (by rw [List.length_map];omega) (jc _ _ _) ?_
    repeat (first | refine JL.q (by first|(apply OQ.move;rfl)|(apply OQ.bP;rfl;rfl)) rfl ?_ | refine JC.seq ?_ | refine JC.region ?_ | refine JL.nil ?_ | refine JE.next ?_)
    refine JC.cond rfl (fun h=>?_) (fun h=>?_)
    · have h15 : i<15:=of_decide_eq_true h
      clear h
      have hn:=hf.next hl h15
      have hm : nth ((fq l i).set i (nth (fq l i) i - nth (fq l i) i / 65536 * 65536)) (i+1)=nth (fq l i) (i+1):=by rw [bG _ _ _ _ (by omega),if_neg (by omega)]
      have hd:=fZ (l:=(fq l i).set i (nth (fq l i) i - nth (fq l i) i / 65536 * 65536)) (i:=i+1) (by rw [List.length_set];omega)
      repeat (first | refine JL.q (by first|(apply OQ.aE;exact Tryz.underlying97;exact lN;rfl;rfl;exact (by (try simp only []);omega))|(apply OQ.load;exact qS;rfl;exact (.there .here);exact (Row.cell hd))|(apply OQ.Dv;rfl;rfl;exact (by omega);exact (by omega))|(apply OQ.move;rfl)) rfl ?_ | refine JC.region ?_)
      refine JL.az (r':=(fq l (i+1)).map I) lN rfl rfl rfl rfl (.there .here) (by rw [List.length_map,List.length_set,len];(try simp only []);omega) (by rw [jc,Em h15]) ?_
      repeat (first | refine JL.q (by first|(apply OQ.move;rfl)|(apply OQ.assign;rfl)|(apply OQ.aZ;rfl;rfl;exact (by (try simp only []);omega))) rfl ?_ | refine JC.region ?_ | refine JL.nil ?_ | refine JE.next ?_ | refine JE.an ?_)
      exact JE.again (i:=i) (i+1) (by omega) (by omega) (by repeat (first | exact ai.nil | refine ai.cons _ _ _ rfl ?_)) (aq.refl _)
    · have h15 : ¬ i<15:=of_decide_eq_false h
      obtain rfl : i=15:=by omega
      clear h
      have hn:=hf.zero hl
      have hm : nth ((fq l 15).set 15 (nth (fq l 15) 15 - nth (fq l 15) 15 / 65536 * 65536)) 0=nth (fq l 15) 0:=by rw [bG _ _ _ _ (by omega),if_neg (by omega)]
      have hd:=fZ (l:=(fq l 15).set 15 (nth (fq l 15) 15 - nth (fq l 15) 15 / 65536 * 65536)) (i:=0) (by rw [List.length_set];omega)
      repeat (first | refine JL.q (by first|(apply OQ.aE;exact Tryz.underlying97;exact lN;rfl;rfl;exact (by decide))|(apply OQ.load;exact qS;rfl;exact (.there .here);exact (Row.cell hd))|(apply OQ.IF (a:=38);rfl;rfl;exact (by omega);exact (by omega))|(apply OQ.Dv;rfl;rfl;exact (by omega);exact (by omega))|(apply OQ.move;rfl)) rfl ?_ | refine JC.region ?_)
      refine JL.az (r':=(fq l 16).map I) lN rfl rfl rfl rfl (.there .here) (by rw [List.length_map,List.length_set,len];(try simp only []);omega) (by rw [jc,En]) ?_
      repeat (first | refine JL.q (by first|(apply OQ.move;rfl)|(apply OQ.assign;rfl)|(apply OQ.aZ;rfl;rfl;exact (by (try simp only []);omega))) rfl ?_ | refine JC.region ?_ | refine JL.nil ?_ | refine JE.next ?_ | refine JE.an ?_)
      exact JE.again (i:=15) 16 (by omega) (by omega) (by repeat (first | exact ai.nil | refine ai.cons _ _ _ rfl ?_)) (aq.refl _)
  · have hi' : ¬ i<16:=of_decide_eq_false h
    obtain rfl : i=16:=by omega
    clear h hi hi'
    have hl' : ((fq l 16).map I).length=16:=by rw [List.length_map];exact len
    repeat (first | refine JL.q (by (apply OQ.af (cs:=(fq l 16).map I);exact cX;exact bg;rfl;exact (.there .here);exact hl';exact Row.all)) rfl ?_ | refine JC.seq ?_ | refine JC.region ?_ | refine JC.exit ?_ | refine JE.next ?_ | refine JE.ax ?_ | refine JE.aA ?_)
    refine JL.ag bg rfl rfl hl' (bF _) .here (by simp) ?_
    repeat (first | refine JL.nil ?_ | refine JE.next ?_)
    refine JC.ret (JE.aJ rfl (RV.av cX bg rfl .here hl' Row.all) ?_)
    exact fun w' hw=>⟨rfl,hw.aM⟩
end
section
namespace dZ
def fi (x : Int) : F:=⟨(x % (P : Int)).toNat,by
  have h1 : 0≤x % (P : Int):=Int.emod_nonneg _ (by decide)
  have h2 : x % (P : Int)<(P : Int):=Int.emod_lt_of_pos _ (by decide)
  omega⟩
theorem kM (x : Int) : ((fi x).val : Int)=x % (P : Int):=Int.toNat_of_nonneg (Int.emod_nonneg _ (by decide))
theorem Eo {a b : F} (h : (a.val : Int)=(b.val : Int)) : a=b:=Fin.ext (by omega)
theorem vG (x y : Int) : fi (x+y)=fi x+fi y:=Eo (by
  rw [kM,Fin.val_add,Int.natCast_emod,Int.natCast_add,kM,kM,← Int.add_emod])
theorem Ep (x y : Int) : fi (x * y)=fi x * fi y:=Eo (by
  rw [kM,Fin.val_mul,Int.natCast_emod,Int.natCast_mul,kM,kM,← Int.mul_emod])
theorem Jt (x y : Int) : fi (x - y)=fi x - fi y:=by
  have h:=vG (x - y) y
  rw [Int.sub_add_cancel] at h
  rw [h]
  generalize fi (x - y)=a
  generalize fi y=b
  clear h
  grobner
theorem MO (q : Int) : fi (q * P)=0:=Eo (by rw [kM,Int.mul_emod_left];rfl)
theorem zu {x y q : Int} (h : x=y+q * P) : fi x=fi y:=by
  rw [h,vG,MO]
  generalize fi y=a
  clear h
  grobner
def fv (l : List Int) : F:=fi (val l)
theorem sk {l : List Int} (hl : l.length=16) : fv (qB l)=fv l:=by
  obtain ⟨q,e⟩:=Gu hl
  refine zu (q:=-(2 * q)) ?_
  rw [e,Int.sub_eq_add_neg,← Int.neg_mul,← Int.mul_assoc,Int.mul_comm (-q) 2,Int.mul_neg]
def ps (l : List Int) : Nat→Int
  | 0=>0
  | k+1=>ps l k+nth l k * 65536 ^ k
theorem AR (a : Int) (l : List Int) : ∀ k,ps (a::l) (k+1)=a+65536 * ps l k
  | 0=>by
    show 0+nth (a::l) 0 * 65536 ^ 0=a+65536 * 0
    rw [Int.pow_zero]
    show 0+a * 1=a+65536 * 0
    omega
  | k+1=>by
    show ps (a::l) (k+1)+nth (a::l) (k+1) * 65536 ^ (k+1)=a+65536 * (ps l k+nth l k * 65536 ^ k)
    rw [AR a l k,Int.pow_succ,Int.mul_comm (65536 ^ k) 65536,Int.mul_add,Int.mul_left_comm]
    show a+65536 * ps l k+65536 * (nth l k * 65536 ^ k)=_
    rw [Int.add_assoc]
theorem Er : ∀ k,ps [] k=0
  | 0=>rfl
  | k+1=>by show ps [] k+0 * 65536 ^ k=0;rw [Er k,Int.zero_mul];rfl
theorem gU : ∀ (l : List Int) (k : Nat),l.length≤k→val l=ps l k
  | [],k,_=>(Er k).symm
  | a::l,0,h=>absurd h (by simp)
  | a::l,k+1,h=>by rw [AR,← gU l k (by simpa using h)];rfl
def fJ (f : Int→Int→Int) (a b : List Int) : Nat→List Int
  | 0=>a
  | i+1=>(fJ f a b i).set i (f (nth (fJ f a b i) i) (nth b i))
theorem gy (f : Int→Int→Int) (a b : List Int) : ∀ i,(fJ f a b i).length=a.length
  | 0=>rfl
  | i+1=>by rw [fJ,List.length_set,gy f a b i]
theorem mh (f : Int→Int→Int) (a b : List Int) (j : Nat) : ∀ i,i≤a.length→nth (fJ f a b i) j=if j<i then f (nth a j) (nth b j) else nth a j
  | 0,_=>rfl
  | i+1,h=>by
    have ih:=mh f a b j i (by omega)
    rw [fJ,bG _ _ _ _ (by rw [gy];omega)]
    by_cases e : i=j
    · subst e
      rw [if_pos rfl,if_pos (by omega),ih,if_neg (by omega)]
    · rw [if_neg e,ih]
      by_cases e2 : j<i
      · rw [if_pos e2,if_pos (by omega)]
      · rw [if_neg e2,if_neg (by omega)]
theorem sn (s : Int) (a b : List Int) : ∀ i,i≤a.length→val (fJ (fun x y=>x+s * y) a b i)=val a+s * ps b i
  | 0,_=>by show val a=val a+s * 0;rw [Int.mul_zero,Int.add_zero]
  | i+1,h=>by
    rw [fJ,gv _ _ _ (by rw [gy];omega),sn s a b i (by omega)]
    show val a+s * ps b i+(nth (fJ (fun x y=>x+s * y) a b i) i+s * nth b i - nth (fJ (fun x y=>x+s * y) a b i) i) * 65536 ^ i=val a+s * (ps b i+nth b i * 65536 ^ i)
    generalize nth (fJ (fun x y=>x+s * y) a b i) i=z
    rw [show z+s * nth b i - z=s * nth b i by omega,Int.mul_add,Int.mul_assoc,Int.add_assoc]
def oe (a b : List Int) : List Int:=qB (fJ (fun x y=>x+y) a b 16)
def og (a b : List Int) : List Int:=qB (fJ (fun x y=>x - y) a b 16)
theorem Gv (a b : List Int) : fJ (fun x y=>x+y) a b=fJ (fun x y=>x+1 * y) a b:=by
  have : (fun x y : Int=>x+y)=fun x y=>x+1 * y:=by funext x y;omega
  rw [this]
theorem Gw (a b : List Int) : fJ (fun x y=>x - y) a b=fJ (fun x y=>x+-1 * y) a b:=by
  have : (fun x y : Int=>x - y)=fun x y=>x+-1 * y:=by funext x y;omega
  rw [this]
abbrev Good (l : List Int) : Prop:=Small (-128) 65663 l
theorem xp {f : Int→Int→Int} {a b : List Int} {x0 y0 x1 y1 : Int} (ha : Good a) (hb : Good b)
    (h0 : ∀ x y,-128≤x→x≤65663→-128≤y→y≤65663→x0≤f x y∧f x y≤y0)
    (h1 : ∀ x y,0≤x→x≤65535→0≤y→y≤65535→x1≤f x y∧f x y≤y1) : Jr (Cf x0 x1) (Cf y0 y1) (fJ f a b 16):=fun j hj=>by
  rw [gw _ _ _ hj,gw _ _ _ hj,mh _ _ _ _ _ (by rw [ha.len];omega),if_pos hj]
  by_cases e : j=0
  · subst e
    rw [if_pos rfl,if_pos rfl]
    have p:=ha.first
    have q:=hb.first
    exact h0 _ _ p.1 p.2 q.1 q.2
  · rw [if_neg e,if_neg e]
    have p:=ha.rest j (by omega) hj
    have q:=hb.rest j (by omega) hj
    exact h1 _ _ p.1 p.2 q.1 q.2
theorem de {a b : List Int} (ha : Good a) (hb : Good b) : Good (oe a b):=
  (j9 (by rw [gy,ha.len]) (xp (x0:=-256) (y0:=131326) (x1:=0) (y1:=131070) ha hb (fun x y _ _ _ _=>by omega) (fun x y _ _ _ _=>by omega))).weak (by decide) (by decide)
theorem bX {a b : List Int} (ha : Good a) (hb : Good b) : Good (og a b):=
  (j9 (by rw [gy,ha.len]) (xp (x0:=-65791) (y0:=65791) (x1:=-65535) (y1:=65535) ha hb (fun x y _ _ _ _=>by omega) (fun x y _ _ _ _=>by omega))).weak (by decide) (by decide)
theorem Gx {a b : List Int} (ha : a.length=16) (hb : b.length=16) : fv (oe a b)=fv a+fv b:=by
  rw [oe,sk (by rw [gy,ha]),Gv]
  unfold fv
  rw [sn _ _ _ _ (by omega),← gU b 16 (by omega),vG,Int.one_mul]
theorem Gy {a b : List Int} (ha : a.length=16) (hb : b.length=16) : fv (og a b)=fv a - fv b:=by
  rw [og,sk (by rw [gy,ha]),Gw]
  unfold fv
  rw [sn _ _ _ _ (by omega),← gU b 16 (by omega),show val a+-1 * val b=val a - val b by omega,Jt]
def xq (t a b : List Int) (i : Nat) : Nat→List Int
  | 0=>t
  | k+1=>(xq t a b i k).set (i+k) (nth (xq t a b i k) (i+k)+nth a i * nth b k)
def fG (a b : List Int) : Nat→List Int
  | 0=>List.replicate 31 0
  | i+1=>xq (fG a b i) a b i 16
theorem oV (t a b : List Int) (i : Nat) : ∀ k,(xq t a b i k).length=t.length
  | 0=>rfl
  | k+1=>by rw [xq,List.length_set,oV t a b i k]
theorem jd (a b : List Int) : ∀ i,(fG a b i).length=31
  | 0=>rfl
  | i+1=>by rw [fG,oV,jd a b i]
theorem AS (t a b : List Int) (i : Nat) (h : i<16) (ht : t.length=31) : ∀ k,k≤16→val (xq t a b i k)=val t+nth a i * 65536 ^ i * ps b k
  | 0,_=>by show val t=val t+nth a i * 65536 ^ i * 0;rw [Int.mul_zero,Int.add_zero]
  | k+1,hk=>by
    rw [xq,gv _ _ _ (by rw [oV];omega),AS t a b i h ht k (by omega)]
    show val t+nth a i * 65536 ^ i * ps b k+(nth (xq t a b i k) (i+k)+nth a i * nth b k - nth (xq t a b i k) (i+k)) * 65536 ^ (i+k)=val t+nth a i * 65536 ^ i * (ps b k+nth b k * 65536 ^ k)
    generalize nth (xq t a b i k) (i+k)=z
    rw [show z+nth a i * nth b k - z=nth a i * nth b k by omega,Int.pow_add,Int.mul_add,Int.add_assoc]
    congr 2
    rw [Int.mul_assoc,Int.mul_assoc]
    congr 1
    rw [Int.mul_left_comm]
theorem xu (a b : List Int) : ∀ i,i≤16→val (fG a b i)=ps a i * ps b 16
  | 0,_=>by show val (List.replicate 31 0)=0 * ps b 16;rw [Int.zero_mul];decide
  | i+1,h=>by
    rw [fG,AS _ _ _ _ (by omega) (jd a b i) 16 (by omega),xu a b i (by omega)]
    show ps a i * ps b 16+nth a i * 65536 ^ i * ps b 16=(ps a i+nth a i * 65536 ^ i) * ps b 16
    rw [Int.add_mul]
def qa (m : Int) (l : List Int) : Prop:=∀ j,-m≤nth l j∧nth l j≤m
theorem AT {x y : Int} (h1 : -131072≤x) (h2 : x≤131072) (h3 : -131072≤y) (h4 : y≤131072) : -17179869184≤x * y∧x * y≤17179869184:=by
  have a : x.natAbs≤131072:=by omega
  have b : y.natAbs≤131072:=by omega
  have c:=Nat.mul_le_mul a b
  rw [← Int.natAbs_mul] at c
  omega
theorem so {t a b : List Int} {i : Nat} {m : Int} (h : i<16) (ht : t.length=31) (ha : qa 131072 a) (hb : qa 131072 b) (hw : qa m t) : ∀ k : Nat,k≤16→qa (m+17179869184 * k) (xq t a b i k)
  | 0,_=>fun j=>by have:=hw j;show -(m+17179869184 * (0 : Nat))≤nth t j∧nth t j≤m+17179869184 * (0 : Nat);omega
  | k+1,hk=>fun j=>by
    have ih:=so h ht ha hb hw k (by omega)
    have p:=AT (ha i).1 (ha i).2 (hb k).1 (hb k).2
    rw [xq,bG _ _ _ _ (by rw [oV];omega)]
    generalize nth a i * nth b k=z at p
    split
    · have:=ih (i+k)
      omega
    · have:=ih j
      omega
theorem je (n j : Nat) : nth (List.replicate n 0) j=0:=by
  unfold nth
  rw [List.getD_eq_getElem?_getD,List.getElem?_replicate]
  split <;> rfl
theorem mT {a b : List Int} (ha : qa 131072 a) (hb : qa 131072 b) : ∀ i : Nat,i≤16→qa (274877906944 * i) (fG a b i)
  | 0,_=>fun j=>by rw [fG,je];omega
  | i+1,h=>fun j=>by
    have ih:=so (i:=i) (by omega) (jd a b i) ha hb (mT ha hb i (by omega)) 16 (by omega) j
    rw [fG]
    omega
theorem Good.wide {l : List Int} (h : Good l) : qa 131072 l:=fun j=>by
  by_cases e : j=0
  · subst e;have:=h.first;omega
  · by_cases e2 : j<16
    · have:=h.rest j (by omega) e2;omega
    · have : nth l j=0:=by
        unfold nth
        rw [List.getD_eq_getElem?_getD,List.getElem?_eq_none (by rw [h.len];omega)];rfl
      omega
def fold (t : List Int) : Nat→List Int
  | 0=>List.replicate 16 0
  | i+1=>if i<15 then ((fold t i).set i (nth t i)).set i (nth ((fold t i).set i (nth t i)) i+38 * nth t (i+16)) else (fold t i).set i (nth t i)
theorem jf (t : List Int) : ∀ i,(fold t i).length=16
  | 0=>rfl
  | i+1=>by rw [fold];split <;> simp [jf t i]
theorem oW (t : List Int) : ∀ i,i≤16→∀ j,nth (fold t i) j=if j<i then (if j<15 then nth t j+38 * nth t (j+16) else nth t j) else 0
  | 0,_,j=>by rw [fold,je];rfl
  | i+1,h,j=>by
    have ih:=oW t i (by omega) j
    have l:=jf t i
    have x1 : ∀ z,nth ((fold t i).set i z) j=if i=j then z else nth (fold t i) j:=fun z=>bG _ _ _ _ (by omega)
    have x2 : ∀ z y,nth (((fold t i).set i z).set i y) j=if i=j then y else nth ((fold t i).set i z) j:=fun z y=>bG _ _ _ _ (by rw [List.length_set];omega)
    have x3 : ∀ z,nth ((fold t i).set i z) i=z:=fun z=>by rw [bG _ _ _ _ (by omega),if_pos rfl]
    rw [fold]
    by_cases e : i<15
    · rw [if_pos e,x2,x1,x3,ih]
      by_cases e2 : i=j
      · subst e2
        rw [if_pos rfl,if_pos (by omega),if_pos e]
      · rw [if_neg e2,if_neg e2]
        by_cases e3 : j<i
        · rw [if_pos e3];exact (if_pos (by omega)).symm
        · rw [if_neg e3,if_neg (by omega)]
    · rw [if_neg e,x1,ih]
      by_cases e2 : i=j
      · subst e2
        rw [if_pos rfl,if_pos (by omega),if_neg e]
      · rw [if_neg e2]
        by_cases e3 : j<i
        · rw [if_pos e3];exact (if_pos (by omega)).symm
        · rw [if_neg e3,if_neg (by omega)]
def zw (t : List Int) : Nat→Int
  | 0=>0
  | k+1=>zw t k+nth t (k+16) * 65536 ^ k
theorem Ic (t : List Int) : ∀ k,ps t (16+k)=ps t 16+65536 ^ 16 * zw t k
  | 0=>by show ps t 16=ps t 16+65536 ^ 16 * 0;rw [Int.mul_zero,Int.add_zero]
  | k+1=>by
    show ps t (16+k)+nth t (16+k) * 65536 ^ (16+k)=ps t 16+65536 ^ 16 * (zw t k+nth t (k+16) * 65536 ^ k)
    rw [Ic t k,Int.mul_add,Int.add_assoc,Nat.add_comm 16 k,Int.pow_add,Int.mul_comm (65536 ^ k),← Int.mul_assoc,Int.mul_comm (nth t (k+16)),Int.mul_assoc (65536 ^ 16)]
theorem AU (t : List Int) : ∀ k,k≤15→ps (fold t 16) k=ps t k+38 * zw t k
  | 0,_=>rfl
  | k+1,h=>by
    show ps (fold t 16) k+nth (fold t 16) k * 65536 ^ k=ps t k+nth t k * 65536 ^ k+38 * (zw t k+nth t (k+16) * 65536 ^ k)
    rw [AU t k (by omega),oW t 16 (by omega),if_pos (by omega),if_pos (by omega),Int.add_mul,Int.mul_add,Int.mul_assoc]
    omega
theorem Es {t : List Int} (ht : t.length=31) : val t=val (fold t 16)+2 * zw t 15 * P:=by
  rw [gU t 31 (by omega),gU (fold t 16) 16 (by rw [jf];omega)]
  have a:=Ic t 15
  have b:=AU t 15 (by omega)
  have c : ps (fold t 16) 16=ps (fold t 16) 15+nth (fold t 16) 15 * 65536 ^ 15:=rfl
  have d : ps t 16=ps t 15+nth t 15 * 65536 ^ 15:=rfl
  have e : nth (fold t 16) 15=nth t 15:=by rw [oW t 16 (by omega),if_pos (by omega),if_neg (by omega)]
  rw [a,c,b,e,d]
  generalize nth t 15 * 65536 ^ 15=z
  generalize zw t 15=y
  have e4 : (65536 : Int) ^ 16=2 * (P : Int)+38:=by decide
  rw [e4]
  have e5 : ((P : Nat) : Int)=57896044618658097711785492504343953926634992332820282019728792003956564819949:=rfl
  rw [e5]
  omega
def mulL (a b : List Int) : List Int:=qB (qB (fold (fG a b 16) 16))
theorem uE {a b : List Int} (ha : Good a) (hb : Good b) : qa 171523813933056 (fold (fG a b 16) 16):=fun j=>by
  have w:=mT ha.wide hb.wide 16 (by omega)
  have w1:=w j
  have w2:=w (j+16)
  rw [oW _ 16 (by omega)]
  split
  · split <;> omega
  · omega
theorem Et {a b : List Int} (w : qa 171523813933056 (fold (fG a b 16) 16)) : qa 100000000000 (qB (fold (fG a b 16) 16)):=fun j=>by
  have b1 : Jr (Cf (-171523813933056) (-171523813933056)) (Cf 171523813933056 171523813933056) (fold (fG a b 16) 16):=fun j hj=>by
    rw [gw _ _ _ hj,gw _ _ _ hj]
    have:=w j
    split <;> omega
  have s1:=(j9 (jf _ 16) b1).weak (c:=-100000000000) (d:=100000000000) (by decide) (by decide)
  by_cases e : j=0
  · subst e;exact s1.first
  · by_cases e2 : j<16
    · have:=s1.rest j (by omega) e2;omega
    · have : nth (qB (fold (fG a b 16) 16)) j=0:=by
        unfold nth
        rw [List.getD_eq_getElem?_getD,List.getElem?_eq_none (by rw [s1.len];omega)];rfl
      omega
theorem aK {a b : List Int} (ha : Good a) (hb : Good b) : Good (mulL a b):=by
  have w:=uE ha hb
  have b1 : Jr (Cf (-171523813933056) (-171523813933056)) (Cf 171523813933056 171523813933056) (fold (fG a b 16) 16):=fun j hj=>by
    rw [gw _ _ _ hj,gw _ _ _ hj]
    have:=w j
    split <;> omega
  have s1:=(j9 (jf _ 16) b1).weak (c:=-100000000000) (d:=100000000000) (by decide) (by decide)
  exact (j9 s1.len s1.Kj).weak (by decide) (by decide)
theorem qT {a b : List Int} (ha : a.length=16) (hb : b.length=16) : fv (mulL a b)=fv a * fv b:=by
  have l1:=jf (fG a b 16) 16
  have e1 : fv (fold (fG a b 16) 16)=fi (val (fG a b 16)):=(zu (Es (jd a b 16))).symm
  rw [mulL,sk (by rw [qB,kL,l1]),sk l1,e1,xu a b 16 (by omega),← gU a 16 (by omega),← gU b 16 (by omega),Ep]
  rfl
end dZ
end
section
set_option maxRecDepth 10000
open Sl dZ
theorem mU : aI Tryz.prog 49:=⟨_,Tryz.func49,rfl,by kernel_rfl⟩
theorem kN : aI Tryz.prog 50:=⟨_,Tryz.func50,rfl,by kernel_rfl⟩
theorem dh : aI Tryz.prog 51:=⟨_,Tryz.func51,rfl,by kernel_rfl⟩
theorem MP : dW Tryz.prog 116=some 31:=by kernel_rfl
theorem MQ : zc Tryz.prog 116=some ((List.replicate 31 (0 : Int)).map I):=by kernel_rfl
theorem Fit.vH {l : List Int} {m : Int} (h : qa m l) (hm : m≤288230376151711744) : Fit l:=fun j _=>by have:=h j;omega
theorem xw {f : Int→Int→Int} {a b : List Int} (ha : Good a) (hb : Good b) (h : ∀ x y,-131072≤x→x≤131072→-131072≤y→y≤131072→-300000≤f x y∧f x y≤300000) : Fit (fJ f a b 16):=fun j hj=>by
  rw [mh _ _ _ _ _ (by rw [ha.len];omega),if_pos hj]
  have p:=ha.wide j
  have q:=hb.wide j
  have:=h _ _ p.1 p.2 q.1 q.2
  omega
set_option maxHeartbeats 8000000 in
theorem oX (a b : List Int) (ha : Good a) (hb : Good b) (w : World) : Calls Tryz.prog 49 [.agg (a.map I).toArray,.agg (b.map I).toArray].toArray w fun e w'=>e=.returned (.agg ((oe a b).map I).toArray)∧Ext w w':=by
  refine enter (n:=20) Tryz.func49 rfl rfl rfl (ah.start w []) ?_
  repeat (first | refine JC.seq ?_ | refine JC.region ?_)
  refine JL.box (r:=a.map I) rfl rfl rfl fun b2 _=>?_
  refine JL.box (r:=b.map I) rfl rfl rfl fun b3 _=>?_
  refine JL.alloc jK rfl fun b4 _=>?_
  repeat (first | refine JL.q (by (apply OQ.assign;rfl)) rfl ?_ | refine JC.seq ?_ | refine JC.region ?_ | refine JC.block ?_ | refine JL.nil ?_ | refine JE.next ?_)
  refine JC.loop (fun i : Nat=>[(2,Pt b2 0),(3,Pt b3 0),(4,Pt b4 0),(5,N i)])
    (fun i=>[⟨b4,Row 97 ((List.replicate 16 (0 : Int)).map I),true⟩,⟨b3,Row 97 (b.map I),true⟩,⟨b2,Row 97 ((fJ (fun x y=>x+y) a b i).map I),true⟩])
    (fun i=>16 - i) (fun i=>i≤16) 0 (by omega) (by repeat (first | exact ai.nil | refine ai.cons _ _ _ rfl ?_)) (aq.refl _) ?_
  intro i hi
  have len:=gy (fun x y=>x+y) a b i
  rw [ha.len] at len
  repeat (first | refine JL.q (by first|(apply OQ.move;rfl)|(apply OQ.bP;rfl;rfl)) rfl ?_ | refine JC.seq ?_ | refine JC.region ?_ | refine JL.nil ?_ | refine JE.next ?_)
  refine JC.cond rfl (fun h=>?_) (fun h=>?_)
  · have hi' : i<16:=of_decide_eq_true h
    clear h hi
    have hc:=fZ (l:=fJ (fun x y=>x+y) a b i) (i:=i) (by omega)
    have hd:=fZ (l:=b) (i:=i) (by rw [hb.len];omega)
    have e1 : nth (fJ (fun x y=>x+y) a b i) i=nth a i:=by rw [mh _ _ _ _ _ (by rw [ha.len];omega),if_neg (by omega)]
    have w1:=ha.wide i
    have w2:=hb.wide i
    repeat (first | refine JC.seq ?_ | refine JC.block ?_ | refine JC.skip ?_ | refine JE.next ?_)
    refine JC.tail 8 fc (by kernel_rfl) ?_
    simp only [List.take_succ_cons,List.take_zero,List.drop_succ_cons,List.drop_zero]
    repeat (first | refine JQ.q (by first|(apply OQ.aE;exact Tryz.underlying97;exact lN;rfl;rfl;exact (by (try simp only []);omega))|(apply OQ.load;exact qS;rfl;exact (.there (.there .here));exact (Row.cell hc))|(apply OQ.load;exact qS;rfl;exact (.there .here);exact (Row.cell hd))|(apply OQ.Dv;rfl;rfl;exact (by omega);exact (by omega))|(apply OQ.move;rfl)) rfl ?_ | refine JQ.bA ?_)
    refine JL.az (r':=(fJ (fun x y=>x+y) a b (i+1)).map I) lN rfl rfl rfl rfl (.there (.there .here)) (by rw [List.length_map,len];(try simp only []);omega) (jc _ _ _) ?_
    repeat (first | refine JL.q (by first|(apply OQ.move;rfl)|(apply OQ.assign;rfl)|(apply OQ.aZ;rfl;rfl;exact (by (try simp only []);omega))) rfl ?_ | refine JC.region ?_ | refine JL.nil ?_ | refine JE.next ?_ | refine JE.an ?_)
    exact JE.again (i:=i) (i+1) (by omega) (by omega) (by repeat (first | exact ai.nil | refine ai.cons _ _ _ rfl ?_)) (aq.refl _)
  · have hi' : ¬ i<16:=of_decide_eq_false h
    obtain rfl : i=16:=by omega
    clear h hi hi'
    have hl' : ((fJ (fun x y=>x+y) a b 16).map I).length=16:=by rw [List.length_map];exact len
    have hl2 : ((oe a b).map I).length=16:=by rw [List.length_map];exact (de ha hb).len
    have hf : Fit (fJ (fun x y=>x+y) a b 16):=xw ha hb fun x y _ _ _ _=>by omega
    repeat (first | refine JL.q (by first|(apply OQ.af (cs:=(fJ (fun x y=>x+y) a b 16).map I);exact cX;exact bg;rfl;exact (.there (.there .here));exact hl';exact Row.all)|(apply OQ.au;exact gS;rfl;exact (fun w' _=>iR _ len hf w'))) rfl ?_ | refine JC.seq ?_ | refine JC.region ?_ | refine JC.exit ?_ | refine JE.next ?_ | refine JE.ax ?_ | refine JE.aA ?_)
    refine JL.ag bg rfl rfl hl2 (bF _) .here (by simp) ?_
    repeat (first | refine JL.nil ?_ | refine JE.next ?_)
    refine JC.ret (JE.aJ rfl (RV.av cX bg rfl .here hl2 Row.all) ?_)
    exact fun w' hw=>⟨rfl,hw.aM⟩
set_option maxHeartbeats 8000000 in
theorem mV (a b : List Int) (ha : Good a) (hb : Good b) (w : World) : Calls Tryz.prog 50 [.agg (a.map I).toArray,.agg (b.map I).toArray].toArray w fun e w'=>e=.returned (.agg ((og a b).map I).toArray)∧Ext w w':=by
  refine enter (n:=20) Tryz.func50 rfl rfl rfl (ah.start w []) ?_
  repeat (first | refine JC.seq ?_ | refine JC.region ?_)
  refine JL.box (r:=a.map I) rfl rfl rfl fun b2 _=>?_
  refine JL.box (r:=b.map I) rfl rfl rfl fun b3 _=>?_
  refine JL.alloc jK rfl fun b4 _=>?_
  repeat (first | refine JL.q (by (apply OQ.assign;rfl)) rfl ?_ | refine JC.seq ?_ | refine JC.region ?_ | refine JC.block ?_ | refine JL.nil ?_ | refine JE.next ?_)
  refine JC.loop (fun i : Nat=>[(2,Pt b2 0),(3,Pt b3 0),(4,Pt b4 0),(5,N i)])
    (fun i=>[⟨b4,Row 97 ((List.replicate 16 (0 : Int)).map I),true⟩,⟨b3,Row 97 (b.map I),true⟩,⟨b2,Row 97 ((fJ (fun x y=>x - y) a b i).map I),true⟩])
    (fun i=>16 - i) (fun i=>i≤16) 0 (by omega) (by repeat (first | exact ai.nil | refine ai.cons _ _ _ rfl ?_)) (aq.refl _) ?_
  intro i hi
  have len:=gy (fun x y=>x - y) a b i
  rw [ha.len] at len
  repeat (first | refine JL.q (by first|(apply OQ.move;rfl)|(apply OQ.bP;rfl;rfl)) rfl ?_ | refine JC.seq ?_ | refine JC.region ?_ | refine JL.nil ?_ | refine JE.next ?_)
  refine JC.cond rfl (fun h=>?_) (fun h=>?_)
  · have hi' : i<16:=of_decide_eq_true h
    clear h hi
    have hc:=fZ (l:=fJ (fun x y=>x - y) a b i) (i:=i) (by omega)
    have hd:=fZ (l:=b) (i:=i) (by rw [hb.len];omega)
    have e1 : nth (fJ (fun x y=>x - y) a b i) i=nth a i:=by rw [mh _ _ _ _ _ (by rw [ha.len];omega),if_neg (by omega)]
    have w1:=ha.wide i
    have w2:=hb.wide i
    repeat (first | refine JC.seq ?_ | refine JC.block ?_ | refine JC.skip ?_ | refine JE.next ?_)
    refine JC.tail 8 fc (by kernel_rfl) ?_
    simp only [List.take_succ_cons,List.take_zero,List.drop_succ_cons,List.drop_zero]
    repeat (first | refine JQ.q (by first|(apply OQ.aE;exact Tryz.underlying97;exact lN;rfl;rfl;exact (by (try simp only []);omega))|(apply OQ.load;exact qS;rfl;exact (.there (.there .here));exact (Row.cell hc))|(apply OQ.load;exact qS;rfl;exact (.there .here);exact (Row.cell hd))|(apply OQ.oH;rfl;rfl;exact (by omega);exact (by omega))|(apply OQ.move;rfl)) rfl ?_ | refine JQ.bA ?_)
    refine JL.az (r':=(fJ (fun x y=>x - y) a b (i+1)).map I) lN rfl rfl rfl rfl (.there (.there .here)) (by rw [List.length_map,len];(try simp only []);omega) (jc _ _ _) ?_
    repeat (first | refine JL.q (by first|(apply OQ.move;rfl)|(apply OQ.assign;rfl)|(apply OQ.aZ;rfl;rfl;exact (by (try simp only []);omega))) rfl ?_ | refine JC.region ?_ | refine JL.nil ?_ | refine JE.next ?_ | refine JE.an ?_)
    exact JE.again (i:=i) (i+1) (by omega) (by omega) (by repeat (first | exact ai.nil | refine ai.cons _ _ _ rfl ?_)) (aq.refl _)
  · have hi' : ¬ i<16:=of_decide_eq_false h
    obtain rfl : i=16:=by omega
    clear h hi hi'
    have hl' : ((fJ (fun x y=>x - y) a b 16).map I).length=16:=by rw [List.length_map];exact len
    have hl2 : ((og a b).map I).length=16:=by rw [List.length_map];exact (bX ha hb).len
    have hf : Fit (fJ (fun x y=>x - y) a b 16):=xw ha hb fun x y _ _ _ _=>by omega
    repeat (first | refine JL.q (by first|(apply OQ.af (cs:=(fJ (fun x y=>x - y) a b 16).map I);exact cX;exact bg;rfl;exact (.there (.there .here));exact hl';exact Row.all)|(apply OQ.au;exact gS;rfl;exact (fun w' _=>iR _ len hf w'))) rfl ?_ | refine JC.seq ?_ | refine JC.region ?_ | refine JC.exit ?_ | refine JE.next ?_ | refine JE.ax ?_ | refine JE.aA ?_)
    refine JL.ag bg rfl rfl hl2 (bF _) .here (by simp) ?_
    repeat (first | refine JL.nil ?_ | refine JE.next ?_)
    refine JC.ret (JE.aJ rfl (RV.av cX bg rfl .here hl2 Row.all) ?_)
    exact fun w' hw=>⟨rfl,hw.aM⟩
end
section
set_option maxRecDepth 10000
open Sl dZ
def kO (t : List Int) (i : Nat) : List Int:=(fold t i).set i (nth t i)
set_option maxHeartbeats 16000000 in
theorem dK (a b : List Int) (ha : Good a) (hb : Good b) (w : World) : Calls Tryz.prog 51 [.agg (a.map I).toArray,.agg (b.map I).toArray].toArray w fun e w'=>e=.returned (.agg ((mulL a b).map I).toArray)∧Ext w w':=by
  have wa:=ha.wide
  have wb:=hb.wide
  refine enter (n:=58) Tryz.func51 rfl rfl rfl (ah.start w []) ?_
  repeat (first | refine JC.seq ?_ | refine JC.region ?_)
  refine JL.box (r:=a.map I) rfl rfl rfl fun b2 _=>?_
  refine JL.box (r:=b.map I) rfl rfl rfl fun b3 _=>?_
  refine JL.alloc jK rfl fun b4 _=>?_
  repeat (first | refine JC.seq ?_ | refine JC.region ?_ | refine JL.nil ?_ | refine JE.next ?_)
  refine JL.q (OQ.pure (v:=.agg ((fG a b 0).map I).toArray) rfl rfl (by kernel_rfl)) rfl ?_
  refine JL.alloc MQ rfl fun b5 _=>?_
  refine JL.ag MP rfl rfl rfl (bF _) .here (by simp) ?_
  repeat (first | refine JL.q (by (apply OQ.assign;rfl)) rfl ?_ | refine JC.seq ?_ | refine JC.region ?_ | refine JC.block ?_ | refine JL.nil ?_ | refine JE.next ?_)
  refine JC.loop (fun i : Nat=>[(2,Pt b2 0),(3,Pt b3 0),(4,Pt b4 0),(5,Pt b5 0),(6,N i)])
    (fun i=>[⟨b5,Row 116 ((fG a b i).map I),true⟩,⟨b4,Row 97 ((List.replicate 16 (0 : Int)).map I),true⟩,⟨b3,Row 97 (b.map I),true⟩,⟨b2,Row 97 (a.map I),true⟩])
    (fun i=>16 - i) (fun i=>i≤16) 0 (by omega) (by repeat (first | exact ai.nil | refine ai.cons _ _ _ rfl ?_)) (aq.refl _) ?_
  intro i hi
  repeat (first | refine JL.q (by first|(apply OQ.move;rfl)|(apply OQ.bP;rfl;rfl)) rfl ?_ | refine JC.seq ?_ | refine JC.region ?_ | refine JL.nil ?_ | refine JE.next ?_)
  refine JC.cond rfl (fun h=>?_) (fun h=>?_)
  · have hi' : i<16:=of_decide_eq_true h
    clear h hi
    repeat (first | refine JL.q (by (apply OQ.assign;rfl)) rfl ?_ | refine JC.seq ?_ | refine JC.region ?_ | refine JC.block ?_ | refine JC.skip ?_ | refine JL.nil ?_ | refine JE.next ?_)
    refine JC.loop (fun k : Nat=>[(2,Pt b2 0),(3,Pt b3 0),(4,Pt b4 0),(5,Pt b5 0),(6,N i),(7,N k)])
      (fun k=>[⟨b5,Row 116 ((xq (fG a b i) a b i k).map I),true⟩,⟨b4,Row 97 ((List.replicate 16 (0 : Int)).map I),true⟩,⟨b3,Row 97 (b.map I),true⟩,⟨b2,Row 97 (a.map I),true⟩])
      (fun k=>16 - k) (fun k=>k≤16) 0 (by omega) (by repeat (first | exact ai.nil | refine ai.cons _ _ _ rfl ?_)) (aq.refl _) ?_
    intro k hk
    have len:=oV (fG a b i) a b i k
    rw [jd] at len
    repeat (first | refine JL.q (by first|(apply OQ.move;rfl)|(apply OQ.bP;rfl;rfl)) rfl ?_ | refine JC.seq ?_ | refine JC.region ?_ | refine JL.nil ?_ | refine JE.next ?_)
    refine JC.cond rfl (fun h=>?_) (fun h=>?_)
    · have hk' : k<16:=of_decide_eq_true h
      clear h hk
      have hc:=fZ (l:=xq (fG a b i) a b i k) (i:=i+k) (by omega)
      have hd:=fZ (l:=a) (i:=i) (by rw [ha.len];omega)
      have he:=fZ (l:=b) (i:=k) (by rw [hb.len];omega)
      have p:=AT (wa i).1 (wa i).2 (wb k).1 (wb k).2
      have q:=so hi' (jd a b i) wa wb (mT wa wb i (by omega)) k (by omega) (i+k)
      have q1 : -9007199254740992≤nth (xq (fG a b i) a b i k) (i+k)∧nth (xq (fG a b i) a b i k) (i+k)≤9007199254740992:=by omega
      repeat (first | refine JC.seq ?_ | refine JC.block ?_ | refine JC.skip ?_ | refine JE.next ?_)
      refine JC.tail 14 fc (by kernel_rfl) ?_
      simp only [List.take_succ_cons,List.take_zero,List.drop_succ_cons,List.drop_zero]
      repeat (first | refine JQ.q (by first|(apply OQ.aE;exact Tryz.underlying97;exact lN;rfl;rfl;exact (by (try simp only []);omega))|(apply OQ.aE;exact Tryz.underlying116;exact lN;rfl;rfl;exact (by (try simp only []);omega))|(apply OQ.load;exact qS;rfl;exact .here;exact (Row.cell hc))|(apply OQ.load;exact qS;rfl;exact (.there (.there (.there .here)));exact (Row.cell hd))|(apply OQ.load;exact qS;rfl;exact (.there (.there .here));exact (Row.cell he))|(apply OQ.IF (a:=nth a i) (b:=nth b k);rfl;rfl;exact (by omega);exact (by omega))|(apply OQ.Dv;rfl;rfl;exact (by omega);exact (by omega))|(apply OQ.move;rfl)) rfl ?_ | refine JQ.bA ?_)
      refine JL.az (r':=(xq (fG a b i) a b i (k+1)).map I) lN rfl rfl rfl rfl .here (by rw [List.length_map,len];(try simp only []);omega) (jc _ _ _) ?_
      repeat (first | refine JL.q (by first|(apply OQ.move;rfl)|(apply OQ.assign;rfl)|(apply OQ.aZ;rfl;rfl;exact (by (try simp only []);omega))) rfl ?_ | refine JC.region ?_ | refine JL.nil ?_ | refine JE.next ?_ | refine JE.an ?_)
      exact JE.again (i:=k) (k+1) (by omega) (by omega) (by repeat (first | exact ai.nil | refine ai.cons _ _ _ rfl ?_)) (aq.refl _)
    · have hk' : ¬ k<16:=of_decide_eq_false h
      obtain rfl : k=16:=by omega
      clear h hk hk'
      repeat (first | refine JL.q (by first|(apply OQ.move;rfl)|(apply OQ.assign;rfl)|(apply OQ.aZ;rfl;rfl;exact (by (try simp only []);omega))) rfl ?_ | refine JC.region ?_ | refine JC.exit ?_ | refine JL.nil ?_ | refine JE.next ?_ | refine JE.an ?_ | refine JE.ax ?_ | refine JE.aA ?_)
      exact JE.again (i:=i) (i+1) (by omega) (by omega) (by repeat (first | exact ai.nil | refine ai.cons _ _ _ rfl ?_)) (aq.refl _)
  · have hi' : ¬ i<16:=of_decide_eq_false h
    obtain rfl : i=16:=by omega
    clear h hi hi'
    have tw:=mT wa wb 16 (by omega)
    have tl:=jd a b 16
    generalize ht : fG a b 16=t at tw tl
    repeat (first | refine JC.seq ?_ | refine JC.region ?_ | refine JC.exit ?_ | refine JE.next ?_ | refine JE.ax ?_ | refine JE.aA ?_)
    refine JL.q (OQ.pure (v:=.agg ((fold t 0).map I).toArray) rfl rfl (by kernel_rfl)) rfl ?_
    refine JL.alloc jK rfl fun b8 _=>?_
    refine JL.ag bg rfl rfl rfl (bF _) .here (by simp) ?_
    repeat (first | refine JL.q (by (apply OQ.assign;rfl)) rfl ?_ | refine JC.seq ?_ | refine JC.region ?_ | refine JC.block ?_ | refine JL.nil ?_ | refine JE.next ?_)
    refine JC.loop (fun i : Nat=>[(4,Pt b4 0),(5,Pt b5 0),(8,Pt b8 0),(9,N i)])
      (fun i=>[⟨b8,Row 97 ((fold t i).map I),true⟩,⟨b5,Row 116 (t.map I),true⟩,⟨b4,Row 97 ((List.replicate 16 (0 : Int)).map I),true⟩])
      (fun i=>16 - i) (fun i=>i≤16) 0 (by omega) (by repeat (first | exact ai.nil | refine ai.cons _ _ _ rfl ?_)) (.keep _ _ _ _ _ _ (fun _ h=>h) (.keep _ _ _ _ _ _ (fun _ h=>h) (.keep _ _ _ _ _ _ (fun _ h=>h) (aq.nil _)))) ?_
    intro i hi
    have len:=jf t i
    repeat (first | refine JL.q (by first|(apply OQ.move;rfl)|(apply OQ.bP;rfl;rfl)) rfl ?_ | refine JC.seq ?_ | refine JC.region ?_ | refine JL.nil ?_ | refine JE.next ?_)
    refine JC.cond rfl (fun h=>?_) (fun h=>?_)
    · have hi' : i<16:=of_decide_eq_true h
      clear h hi
      have hc:=fZ (l:=t) (i:=i) (by omega)
      have w1:=tw i
      repeat (first | refine JL.q (by first|(apply OQ.aE;exact Tryz.underlying97;exact lN;rfl;rfl;exact (by (try simp only []);omega))|(apply OQ.aE;exact Tryz.underlying116;exact lN;rfl;rfl;exact (by (try simp only []);omega))|(apply OQ.load;exact qS;rfl;exact (.there .here);exact (Row.cell hc))|(apply OQ.move;rfl)) rfl ?_ | refine JC.seq ?_ | refine JC.region ?_ | refine JC.block ?_ | refine JC.skip ?_ | refine JE.next ?_)
      refine JL.az (r':=(kO t i).map I) lN rfl rfl rfl rfl .here (by rw [List.length_map,len];(try simp only []);omega) (jc _ _ _) ?_
      repeat (first | refine JL.q (by first|(apply OQ.move;rfl)|(apply OQ.bP;rfl;rfl)) rfl ?_ | refine JC.seq ?_ | refine JC.region ?_ | refine JL.nil ?_ | refine JE.next ?_)
      have len2 : (kO t i).length=16:=by rw [kO,List.length_set];exact len
      refine JC.cond rfl (fun h=>?_) (fun h=>?_)
      · have h15 : i<15:=of_decide_eq_true h
        clear h
        have hd:=fZ (l:=kO t i) (i:=i) (by omega)
        have e1 : nth (kO t i) i=nth t i:=by rw [kO,bG _ _ _ _ (by omega),if_pos rfl]
        have he:=fZ (l:=t) (i:=i+16) (by omega)
        have w2:=tw (i+16)
        have e2 : fold t (i+1)=(kO t i).set i (nth (kO t i) i+38 * nth t (i+16)):=by rw [fold,if_pos h15];rfl
        skip
        refine JC.tail 10 fc (by kernel_rfl) ?_
        simp only [List.take_succ_cons,List.take_zero,List.drop_succ_cons,List.drop_zero]
        repeat (first | refine JQ.q (by first|(apply OQ.aE;exact Tryz.underlying97;exact lN;rfl;rfl;exact (by (try simp only []);omega))|(apply OQ.aE;exact Tryz.underlying116;exact lN;rfl;rfl;exact (by (try simp only []);omega))|(apply OQ.load;exact qS;rfl;exact .here;exact (Row.cell hd))|(apply OQ.load;exact qS;rfl;exact (.there .here);exact (Row.cell he))|(apply OQ.IF (a:=38);rfl;rfl;exact (by omega);exact (by omega))|(apply OQ.Dv;rfl;rfl;exact (by omega);exact (by omega))|(apply OQ.move;rfl)) rfl ?_ | refine JQ.bA ?_)
        refine JL.az (r':=(fold t (i+1)).map I) lN rfl rfl rfl rfl .here (by rw [List.length_map,len2];(try simp only []);omega) (by rw [jc,e2]) ?_
        repeat (first | refine JL.q (by first|(apply OQ.move;rfl)|(apply OQ.assign;rfl)|(apply OQ.aZ;rfl;rfl;exact (by (try simp only []);omega))) rfl ?_ | refine JC.region ?_ | refine JL.nil ?_ | refine JE.next ?_ | refine JE.an ?_)
        exact JE.again (i:=i) (i+1) (by omega) (by omega) (by repeat (first | exact ai.nil | refine ai.cons _ _ _ rfl ?_)) (aq.refl _)
      · have h15 : ¬ i<15:=of_decide_eq_false h
        clear h
        have e2 : fold t (i+1)=kO t i:=by rw [fold,if_neg h15];rfl
        rw [← e2]
        repeat (first | refine JL.q (by first|(apply OQ.move;rfl)|(apply OQ.assign;rfl)|(apply OQ.aZ;rfl;rfl;exact (by (try simp only []);omega))) rfl ?_ | refine JC.region ?_ | refine JC.skip ?_ | refine JL.nil ?_ | refine JE.next ?_ | refine JE.an ?_)
        exact JE.again (i:=i) (i+1) (by omega) (by omega) (by repeat (first | exact ai.nil | refine ai.cons _ _ _ rfl ?_)) (aq.refl _)
    · have hi' : ¬ i<16:=of_decide_eq_false h
      obtain rfl : i=16:=by omega
      clear h hi hi'
      subst ht
      have fw:=uE ha hb
      have hf1:=Fit.vH fw (by decide)
      have l1 : (qB (fold (fG a b 16) 16)).length=16:=by rw [qB,kL,len]
      have w2 : qa 100000000000 (qB (fold (fG a b 16) 16)):=Et fw
      have hf2:=Fit.vH w2 (by decide)
      have c1:=iR _ len hf1
      have c2:=iR _ l1 hf2
      have eM : qB (qB (fold (fG a b 16) 16))=mulL a b:=rfl
      have hl2 : ((mulL a b).map I).length=16:=by rw [List.length_map];exact (aK ha hb).len
      have hl' : ((fold (fG a b 16) 16).map I).length=16:=by rw [List.length_map];exact len
      rw [eM] at c2
      clear eM hf1 hf2 w2 fw l1 tw tl len
      generalize mulL a b=M at *
      generalize qB (fold (fG a b 16) 16)=G at *
      generalize fold (fG a b 16) 16=X at *
      generalize fG a b 16=T at *
      repeat (first | refine JL.q (by first|(apply OQ.af (cs:=X.map I);exact cX;exact bg;rfl;exact .here;exact hl';exact Row.all)|(apply OQ.au (vs:=[.agg (X.map I).toArray]);exact gS;rfl;exact (fun w' _=>c1 w'))|(apply OQ.au (vs:=[.agg (G.map I).toArray]);exact gS;rfl;exact (fun w' _=>c2 w'))) rfl ?_ | refine JC.seq ?_ | refine JC.region ?_ | refine JC.exit ?_ | refine JE.next ?_ | refine JE.ax ?_ | refine JE.aA ?_)
      refine JL.ag (cs:=M.map I) bg rfl rfl hl2 (bF _) (.there (.there .here)) (by simp) ?_
      repeat (first | refine JL.nil ?_ | refine JE.next ?_)
      refine JC.ret (JE.aJ rfl (RV.av cX bg rfl (.there (.there .here)) hl2 Row.all) ?_)
      exact fun w' hw=>⟨rfl,hw.aM⟩
end
section
namespace dZ
abbrev By:=BitVec 8
def le : List By→Nat
  | []=>0
  | b::l=>b.toNat+256 * le l
def iq (u : List By) (i : Nat) : Nat:=(u.getD (2 * i) 0).toNat+256 * (u.getD (2 * i+1) 0).toNat
theorem sr (u : List By) (i : Nat) : iq u i<65536:=by
  have a:=(u.getD (2 * i) 0).isLt
  have b:=(u.getD (2 * i+1) 0).isLt
  unfold iq
  omega
def AV (u : List By) : Nat→List Int
  | 0=>List.replicate 16 0
  | i+1=>(AV u i).set i ((iq u i : Nat) : Int)
def jg (u : List By) : List Int:=(AV u 16).set 15 ((iq u 15 % 32768 : Nat) : Int)
theorem kP (u : List By) : ∀ i,(AV u i).length=16
  | 0=>rfl
  | i+1=>by rw [AV,List.length_set,kP u i]
theorem oY (u : List By) (j : Nat) : ∀ i,i≤16→nth (AV u i) j=if j<i then ((iq u j : Nat) : Int) else 0
  | 0,_=>by rw [AV,je];rfl
  | i+1,h=>by
    rw [AV,bG _ _ _ _ (by rw [kP];omega),oY u j i (by omega)]
    by_cases e : i=j
    · subst e
      rw [if_pos rfl,if_pos (by omega)]
    · rw [if_neg e]
      by_cases e2 : j<i
      · rw [if_pos e2,if_pos (by omega)]
      · rw [if_neg e2,if_neg (by omega)]
def lw (u : List By) : Nat→Nat
  | 0=>0
  | k+1=>lw u k+iq u k * 65536 ^ k
theorem Ie (u : List By) : ∀ k,k≤16→ps (AV u 16) k=(lw u k : Nat)
  | 0,_=>rfl
  | k+1,h=>by
    show ps (AV u 16) k+nth (AV u 16) k * 65536 ^ k=((lw u k+iq u k * 65536 ^ k : Nat) : Int)
    rw [Ie u k (by omega),oY u k 16 (by omega),if_pos (by omega)]
    simp
theorem Ig (u : List By) : ∀ k,lw u k<65536 ^ k
  | 0=>by show 0<65536 ^ 0;rw [Nat.pow_zero];omega
  | k+1=>by
    have ih:=Ig u k
    have w:=sr u k
    have m:=Nat.mul_le_mul_right (65536 ^ k) (Nat.le_of_lt_succ (show iq u k<65535+1 by omega))
    show lw u k+iq u k * 65536 ^ k<65536 ^ (k+1)
    rw [Nat.pow_succ]
    omega
theorem Ih (u : List By) (hu : u.length=32) : ∀ k,k≤16→le u=lw u k+65536 ^ k * le (u.drop (2 * k))
  | 0,_=>by rw [lw,Nat.zero_add,Nat.pow_zero,Nat.one_mul,Nat.mul_zero,List.drop_zero]
  | k+1,h=>by
    rw [Ih u hu k (by omega)]
    have e1 : u.drop (2 * k)=u.getD (2 * k) 0::u.getD (2 * k+1) 0::u.drop (2 * (k+1)):=by
      rw [List.drop_eq_getElem_cons (by omega),List.drop_eq_getElem_cons (by omega)]
      simp only [List.getD_eq_getElem?_getD,List.getElem?_eq_getElem (show 2 * k<u.length by omega),List.getElem?_eq_getElem (show 2 * k+1<u.length by omega),Option.getD_some]
      rfl
    rw [e1]
    show lw u k+65536 ^ k * ((u.getD (2 * k) 0).toNat+256 * ((u.getD (2 * k+1) 0).toNat+256 * le (u.drop (2 * (k+1)))))=lw u k+iq u k * 65536 ^ k+65536 ^ (k+1) * le (u.drop (2 * (k+1)))
    have e2 : (u.getD (2 * k) 0).toNat+256 * ((u.getD (2 * k+1) 0).toNat+256 * le (u.drop (2 * (k+1))))=iq u k+65536 * le (u.drop (2 * (k+1))):=by unfold iq;omega
    rw [e2,Nat.mul_add,Nat.pow_succ,Nat.mul_comm (iq u k),Nat.mul_assoc,Nat.add_assoc]
theorem GA (M x y : Nat) (hy : y<M) : (y+x * M) % (32768 * M)=y+(x % 32768) * M:=by
  have e : y+x * M=(y+(x % 32768) * M)+(x / 32768) * (32768 * M):=by
    have h : x=x % 32768+(x / 32768) * 32768:=by omega
    rw [Nat.add_assoc,← Nat.mul_assoc,← Nat.add_mul,← h]
  have l : (x % 32768) * M≤32767 * M:=Nat.mul_le_mul_right M (by omega)
  have l2 : 32768 * M=32767 * M+M:=by omega
  rw [e,Nat.add_mul_mod_self_right,Nat.mod_eq_of_lt (by omega)]
def top : Nat:=32768 * 65536 ^ 15
theorem Cg (u : List By) (hu : u.length=32) : val (jg u)=((le u % top : Nat) : Int):=by
  have e:=Ih u hu 16 (by omega)
  have e0 : u.drop (2 * 16)=[]:=List.drop_eq_nil_of_le (by omega)
  have e1 : lw u 16=lw u 15+iq u 15 * 65536 ^ 15:=rfl
  have e2:=Ig u 15
  rw [e0] at e
  have e3 : le u=lw u 15+iq u 15 * 65536 ^ 15:=by
    rw [e,← e1]
    show lw u 16+65536 ^ 16 * 0=lw u 16
    rw [Nat.mul_zero,Nat.add_zero]
  rw [e3,top,GA _ _ _ e2,jg,gv _ _ _ (by rw [kP];omega),oY u 15 16 (by omega),if_pos (by omega),gU _ 16 (by rw [kP];omega),Ie u 16 (by omega),e1]
  clear e e0 e1 e2 e3
  generalize iq u 15=x
  generalize lw u 15=y
  rw [Int.natCast_add,Int.natCast_add,Int.natCast_mul,Int.natCast_mul,Int.natCast_pow,Int.sub_mul]
  rw [show ((65536 : Nat) : Int)=65536 from rfl]
  generalize (65536 : Int) ^ 15=M
  omega
theorem oh (u : List By) : Good (jg u):=by
  have n : ∀ j,j<16→0≤nth (jg u) j∧nth (jg u) j≤65535:=fun j hj=>by
    have a:=sr u j
    have b:=sr u 15
    rw [jg,bG _ _ _ _ (by rw [kP];omega),oY u j 16 (by omega),if_pos hj]
    split <;> omega
  refine ⟨by rw [jg,List.length_set,kP],?_,fun j _ h=>n j h⟩
  have:=n 0 (by omega)
  omega
def pt (u : List By) : F:=fi ((le u % top : Nat) : Int)
theorem Eu (u : List By) (hu : u.length=32) : fv (jg u)=pt u:=by rw [fv,Cg u hu];rfl
def lJ : List Int:=1::List.replicate 15 0
theorem qb : Good lJ:=⟨rfl,by decide,fun j h0 h1=>by rw [show lJ=Cf 1 0 from rfl,gw _ _ _ h1,if_neg (by omega)];omega⟩
theorem AW : fv lJ=1:=by decide +kernel
def fV (a : List Int) : Nat→List Int
  | 0=>lJ
  | n+1=>if n=252∨n=250 then mulL (fV a n) (fV a n) else mulL (mulL (fV a n) (fV a n)) a
def vI : Nat→Nat
  | 0=>0
  | n+1=>if n=252∨n=250 then 2 * vI n else 2 * vI n+1
theorem ke {a : List Int} (ha : Good a) : ∀ n,Good (fV a n)
  | 0=>qb
  | n+1=>by
    have ih:=ke ha n
    rw [fV]
    split
    · exact aK ih ih
    · exact aK (aK ih ih) ha
theorem AX {a : List Int} (ha : Good a) : ∀ n,fv (fV a n)=pw (fv a) (vI n)
  | 0=>AW
  | n+1=>by
    have ih:=AX ha n
    have g:=ke ha n
    rw [fV,vI]
    have e : pw (fv a) (2 * vI n)=pw (fv a) (vI n) * pw (fv a) (vI n):=by rw [Nat.two_mul,pY]
    split
    · rw [qT g.len g.len,ih,e]
    · rw [qT (aK g g).len ha.len,qT g.len g.len,ih]
      show _=pw (fv a) (2 * vI n) * fv a
      rw [e]
theorem Ev : vI 255=P - 2:=by decide +kernel
theorem GB {a : List Int} (ha : Good a) : fv (fV a 255)=inv (fv a):=by rw [AX ha,Ev];rfl
end dZ
end
section
set_option maxRecDepth 10000
open Sl dZ
theorem zx : aI Tryz.prog 48:=⟨_,Tryz.func48,rfl,by kernel_rfl⟩
theorem Ch : aI Tryz.prog 53:=⟨_,Tryz.func53,rfl,by kernel_rfl⟩
theorem aB : dW Tryz.prog 23=some 32:=by kernel_rfl
theorem aN : gM Tryz.prog 23=true:=by kernel_rfl
theorem wo : dW Tryz.prog 5=some 1:=by kernel_rfl
theorem GC : iV Tryz.prog 5=true:=by kernel_rfl
theorem kS {l : List By} {i : Nat} (h : i<l.length) : (l.map U8)[i]?=some (U8 (l.getD i 0)):=by
  simp [h]
section
variable {P : Program} {n : Nat} {E : Env} {C : World→Prop} {dst : Option Tmp} {ty t t' : TypeId} {pos : String} {aft : Array Edge} {g : Option (Nat × Bool)} {x y : Operand}
theorem OQ.Ii {k : IntKind} {a b : Int} (hx : ev E x=some (.int k a)) (hy : ev E y=some (.int k b)) (h : ¬ a=b) : OQ P n E C ⟨dst,.binOp .neq t x y t',ty,pos,aft,g⟩ (.bool true):=by
  have e : (!decide (a=b))=true:=by rw [decide_eq_false h];rfl
  exact e ▸ OQ.Kr hx hy
end
set_option maxHeartbeats 8000000 in
theorem Ci (u : List By) (hu : u.length=32) (w : World) : Calls Tryz.prog 48 [.agg (u.map U8).toArray].toArray w fun e w'=>e=.returned (.agg ((jg u).map I).toArray)∧Ext w w':=by
  refine enter (n:=30) Tryz.func48 rfl rfl rfl (ah.start w []) ?_
  repeat (first | refine JC.seq ?_ | refine JC.region ?_)
  refine JL.box (r:=u.map U8) rfl rfl rfl fun b1 _=>?_
  refine JL.alloc jK rfl fun b2 _=>?_
  repeat (first | refine JC.seq ?_ | refine JC.region ?_ | refine JL.nil ?_ | refine JE.next ?_)
  refine JL.q (OQ.pure (v:=.agg ((AV u 0).map I).toArray) rfl rfl (by kernel_rfl)) rfl ?_
  refine JL.alloc jK rfl fun b3 _=>?_
  refine JL.ag bg rfl rfl rfl (bF _) .here (by simp) ?_
  repeat (first | refine JL.q (by (apply OQ.assign;rfl)) rfl ?_ | refine JC.seq ?_ | refine JC.region ?_ | refine JC.block ?_ | refine JL.nil ?_ | refine JE.next ?_)
  refine JC.loop (fun i : Nat=>[(1,Pt b1 0),(2,Pt b2 0),(3,Pt b3 0),(4,N i)])
    (fun i=>[⟨b3,Row 97 ((AV u i).map I),true⟩,⟨b2,Row 97 ((List.replicate 16 (0 : Int)).map I),true⟩,⟨b1,Row 23 (u.map U8),true⟩])
    (fun i=>16 - i) (fun i=>i≤16) 0 (by omega) (by repeat (first | exact ai.nil | refine ai.cons _ _ _ rfl ?_)) (aq.refl _) ?_
  intro i hi
  have len:=kP u i
  repeat (first | refine JL.q (by first|(apply OQ.move;rfl)|(apply OQ.bP;rfl;rfl)) rfl ?_ | refine JC.seq ?_ | refine JC.region ?_ | refine JL.nil ?_ | refine JE.next ?_)
  refine JC.cond rfl (fun h=>?_) (fun h=>?_)
  · have hi' : i<16:=of_decide_eq_true h
    clear h hi
    have hc:=kS (l:=u) (i:=2 * i) (by omega)
    have hd:=kS (l:=u) (i:=2 * i+1) (by omega)
    have q1:=(u.getD (2 * i) 0).isLt
    have q2:=(u.getD (2 * i+1) 0).isLt
    repeat (first | refine JC.seq ?_ | refine JC.block ?_ | refine JC.skip ?_ | refine JE.next ?_)
    refine JC.tail 15 fc (by kernel_rfl) ?_
    simp only [List.take_succ_cons,List.take_zero,List.drop_succ_cons,List.drop_zero]
    repeat (first | refine JQ.q (by first|(apply OQ.aE;exact Tryz.underlying23;exact wo;rfl;rfl;exact (by (try simp only []);omega))|(apply OQ.aE;exact Tryz.underlying97;exact lN;rfl;rfl;exact (by (try simp only []);omega))|(apply OQ.load;exact GC;rfl;exact (.there (.there .here));exact (Row.cell hc))|(apply OQ.load;exact GC;rfl;exact (.there (.there .here));exact (Row.cell hd))|(apply OQ.Aq;rfl;rfl;rfl)|(apply OQ.move;rfl)|(apply OQ.aZ;rfl;rfl;exact (by (try simp only []);omega))|(apply OQ.iW;rfl;rfl;exact (by (try simp only []);omega))) rfl ?_ | refine JQ.bA ?_)
    refine JL.az (r':=(AV u (i+1)).map I) lN rfl rfl rfl rfl .here (by rw [List.length_map,len];(try simp only []);omega) (jc _ _ _) ?_
    repeat (first | refine JL.q (by first|(apply OQ.move;rfl)|(apply OQ.assign;rfl)|(apply OQ.aZ;rfl;rfl;exact (by (try simp only []);omega))) rfl ?_ | refine JC.region ?_ | refine JL.nil ?_ | refine JE.next ?_ | refine JE.an ?_)
    exact JE.again (i:=i) (i+1) (by omega) (by omega) (by repeat (first | exact ai.nil | refine ai.cons _ _ _ rfl ?_)) (aq.refl _)
  · have hi' : ¬ i<16:=of_decide_eq_false h
    obtain rfl : i=16:=by omega
    clear h hi hi'
    have hc : ((AV u 16).map I)[15]?=some (N (iq u 15)):=by
      rw [fZ (by rw [len];decide),oY u 15 16 (by omega)]
      rfl
    have hl' : ((jg u).map I).length=16:=by rw [List.length_map];exact (oh u).len
    repeat (first | refine JL.q (by first|(apply OQ.aE;exact Tryz.underlying97;exact lN;rfl;rfl;exact (by decide))|(apply OQ.load;exact qS;rfl;exact .here;exact (Row.cell hc))|(apply OQ.BA;rfl;rfl;exact (by (try simp only []);omega))) rfl ?_ | refine JC.seq ?_ | refine JC.region ?_ | refine JC.exit ?_ | refine JE.next ?_ | refine JE.ax ?_ | refine JE.aA ?_)
    refine JL.az (r':=(jg u).map I) lN rfl rfl rfl rfl .here (by rw [List.length_map,len];decide) (jc _ _ _) ?_
    repeat (first | refine JL.q (by (apply OQ.af (cs:=(jg u).map I);exact cX;exact bg;rfl;exact .here;exact hl';exact Row.all)) rfl ?_ | refine JC.seq ?_ | refine JC.region ?_ | refine JL.nil ?_ | refine JE.next ?_)
    refine JL.ag bg rfl rfl hl' (bF _) (.there .here) (by simp) ?_
    repeat (first | refine JL.nil ?_ | refine JE.next ?_)
    refine JC.ret (JE.aJ rfl (RV.av cX bg rfl (.there .here) hl' Row.all) ?_)
    exact fun w' hw=>⟨rfl,hw.aM⟩
set_option maxHeartbeats 8000000 in
theorem Ew (a : List Int) (ha : Good a) (w : World) : Calls Tryz.prog 53 [.agg (a.map I).toArray].toArray w fun e w'=>e=.returned (.agg ((fV a 255).map I).toArray)∧Ext w w':=by
  refine enter (n:=23) Tryz.func53 rfl rfl rfl (ah.start w []) ?_
  repeat (first | refine JC.seq ?_ | refine JC.region ?_)
  refine JL.box (r:=a.map I) rfl rfl rfl fun b1 _=>?_
  refine JL.alloc jK rfl fun b2 _=>?_
  repeat (first | refine JC.seq ?_ | refine JC.region ?_ | refine JL.nil ?_ | refine JE.next ?_)
  refine JL.q (OQ.pure (v:=.agg ((fV a 0).map I).toArray) rfl rfl (by kernel_rfl)) rfl ?_
  refine JL.alloc jK rfl fun b3 _=>?_
  refine JL.ag bg rfl rfl rfl (bF _) .here (by simp) ?_
  repeat (first | refine JL.q (by (apply OQ.assign;rfl)) rfl ?_ | refine JC.seq ?_ | refine JC.region ?_ | refine JC.block ?_ | refine JL.nil ?_ | refine JE.next ?_)
  refine JC.loop (fun i : Nat=>[(1,Pt b1 0),(2,Pt b2 0),(3,Pt b3 0),(4,I (254 - i))])
    (fun i=>[⟨b3,Row 97 ((fV a i).map I),true⟩,⟨b2,Row 97 ((List.replicate 16 (0 : Int)).map I),true⟩,⟨b1,Row 97 (a.map I),true⟩])
    (fun i=>255 - i) (fun i=>i≤255) 0 (by omega) (by repeat (first | exact ai.nil | refine ai.cons _ _ _ rfl ?_)) (aq.refl _) ?_
  intro i hi
  have g0:=ke ha i
  have hl0 : ((fV a i).map I).length=16:=by rw [List.length_map];exact g0.len
  have hla : (a.map I).length=16:=by rw [List.length_map];exact ha.len
  repeat (first | refine JL.q (by first|(apply OQ.Dj (b:=0);rfl;rfl)|(apply OQ.move;rfl)) rfl ?_ | refine JC.seq ?_ | refine JC.region ?_ | refine JL.nil ?_ | refine JE.next ?_)
  refine JC.cond rfl (fun h=>?_) (fun h=>?_)
  · have hi' : (0 : Int)≤254 - i:=of_decide_eq_true h
    clear h hi
    have g1:=aK g0 g0
    have c1:=dK _ _ g0 g0
    have c2:=dK _ _ g1 ha
    have hl1 : ((mulL (fV a i) (fV a i)).map I).length=16:=by rw [List.length_map];exact g1.len
    have hl2 : ((mulL (mulL (fV a i) (fV a i)) a).map I).length=16:=by rw [List.length_map];exact (aK g1 ha).len
    have e1 : fV a (i+1)=if i=252∨i=250 then mulL (fV a i) (fV a i) else mulL (mulL (fV a i) (fV a i)) a:=rfl
    generalize mulL (mulL (fV a i) (fV a i)) a=Z at *
    generalize mulL (fV a i) (fV a i)=Y at *
    generalize fV a i=X at *
    repeat (first | refine JL.q (by first|(apply OQ.af (cs:=X.map I);exact cX;exact bg;rfl;exact .here;exact hl0;exact Row.all)|(apply OQ.au (vs:=[.agg (X.map I).toArray,.agg (X.map I).toArray]);exact dh;rfl;exact (fun w' _=>c1 w'))) rfl ?_ | refine JC.seq ?_ | refine JC.region ?_ | refine JC.block ?_ | refine JC.skip ?_ | refine JE.next ?_)
    refine JL.ag (cs:=Y.map I) bg rfl rfl hl1 (bF _) .here (by rw [hl0]) ?_
    by_cases k1 : i=252
    · repeat (first | refine JL.q (by first|(apply OQ.wB;rfl;rfl;exact (by omega))|(apply OQ.cq;rfl;rfl)|(apply OQ.move;rfl)) rfl ?_ | refine JC.seq ?_ | refine JC.region ?_ | refine JL.nil ?_ | refine JE.next ?_ | refine JL.fK rfl rfl rfl rfl ?_)
      refine JC.cond_false rfl rfl ?_
      rw [if_pos (Or.inl k1)] at e1
      rw [← e1]
      repeat (first | refine JL.q (by first|(apply OQ.oH (b:=1);rfl;rfl;exact (by omega);exact (by omega))|(apply OQ.move;rfl)|(apply OQ.assign;rfl)) rfl ?_ | refine JC.region ?_ | refine JC.skip ?_ | refine JL.nil ?_ | refine JE.next ?_ | refine JE.an ?_)
      refine JE.again (i:=i) (i+1) (by omega) (by omega) ?_ (aq.refl _)
      rw [show (254 - ((i+1 : Nat) : Int))=254 - (i : Int) - 1 by omega]
      exact (by repeat (first | exact ai.nil | refine ai.cons _ _ _ rfl ?_))
    · by_cases k2 : i=250
      · repeat (first | refine JL.q (by first|(apply OQ.Ii;rfl;rfl;exact (by omega))|(apply OQ.wB;rfl;rfl;exact (by omega))|(apply OQ.c9;rfl;rfl)|(apply OQ.move;rfl)) rfl ?_ | refine JC.seq ?_ | refine JC.region ?_ | refine JL.nil ?_ | refine JE.next ?_ | refine JL.aS rfl rfl ?_)
        refine JC.cond_false rfl rfl ?_
        rw [if_pos (Or.inr k2)] at e1
        rw [← e1]
        repeat (first | refine JL.q (by first|(apply OQ.oH (b:=1);rfl;rfl;exact (by omega);exact (by omega))|(apply OQ.move;rfl)|(apply OQ.assign;rfl)) rfl ?_ | refine JC.region ?_ | refine JC.skip ?_ | refine JL.nil ?_ | refine JE.next ?_ | refine JE.an ?_)
        refine JE.again (i:=i) (i+1) (by omega) (by omega) ?_ (aq.refl _)
        rw [show (254 - ((i+1 : Nat) : Int))=254 - (i : Int) - 1 by omega]
        exact (by repeat (first | exact ai.nil | refine ai.cons _ _ _ rfl ?_))
      · repeat (first | refine JL.q (by first|(apply OQ.Ii;rfl;rfl;exact (by omega))|(apply OQ.c9;rfl;rfl)|(apply OQ.move;rfl)) rfl ?_ | refine JC.seq ?_ | refine JC.region ?_ | refine JL.nil ?_ | refine JE.next ?_ | refine JL.aS rfl rfl ?_)
        refine JC.cond_true rfl rfl ?_
        rw [if_neg (by omega)] at e1
        repeat (first | refine JL.q (by first|(apply OQ.af (cs:=Y.map I);exact cX;exact bg;rfl;exact .here;exact hl1;exact Row.all)|(apply OQ.af (cs:=a.map I);exact cX;exact bg;rfl;exact (.there (.there .here));exact hla;exact Row.all)|(apply OQ.au (vs:=[.agg (Y.map I).toArray,.agg (a.map I).toArray]);exact dh;rfl;exact (fun w' _=>c2 w'))) rfl ?_ | refine JC.region ?_)
        refine JL.ag (cs:=Z.map I) bg rfl rfl hl2 (bF _) .here (by rw [hl1]) ?_
        rw [← e1]
        repeat (first | refine JL.q (by first|(apply OQ.oH (b:=1);rfl;rfl;exact (by omega);exact (by omega))|(apply OQ.move;rfl)|(apply OQ.assign;rfl)) rfl ?_ | refine JC.region ?_ | refine JL.nil ?_ | refine JE.next ?_ | refine JE.an ?_)
        refine JE.again (i:=i) (i+1) (by omega) (by omega) ?_ (aq.refl _)
        rw [show (254 - ((i+1 : Nat) : Int))=254 - (i : Int) - 1 by omega]
        exact (by repeat (first | exact ai.nil | refine ai.cons _ _ _ rfl ?_))
  · have hi' : ¬ (0 : Int)≤254 - i:=of_decide_eq_false h
    obtain rfl : i=255:=by omega
    clear h hi hi'
    generalize fV a 255=X at *
    repeat (first | refine JL.q (by (apply OQ.af (cs:=X.map I);exact cX;exact bg;rfl;exact .here;exact hl0;exact Row.all)) rfl ?_ | refine JC.seq ?_ | refine JC.region ?_ | refine JC.exit ?_ | refine JE.next ?_ | refine JE.ax ?_ | refine JE.aA ?_)
    refine JL.ag (cs:=X.map I) bg rfl rfl hl0 (bF _) (.there .here) (by simp) ?_
    repeat (first | refine JL.nil ?_ | refine JE.next ?_)
    refine JC.ret (JE.aJ rfl (RV.av cX bg rfl (.there .here) hl0 Row.all) ?_)
    exact fun w' hw=>⟨rfl,hw.aM⟩
end
section
namespace dZ
structure Norm (l : List Int) : Prop where
  len : l.length=16
  all : ∀ j,j<16→0≤nth l j∧nth l j≤65535
theorem Norm.zy {l : List Int} (h : Norm l) : Good l:=⟨h.len,by have:=h.all 0 (by omega);omega,fun j _ hj=>h.all j hj⟩
theorem su (l : List Int) (i : Nat) (h : i<l.length) : l.set i (nth l i)=l:=by
  unfold nth
  rw [List.getD_eq_getElem?_getD,List.getElem?_eq_getElem h]
  exact List.set_getElem_self h
theorem Norm.e7 {l : List Int} (h : Norm l) {i : Nat} (hi : i<16) : dZ.e7 l i=l:=by
  have a:=h.all i hi
  have q : nth l i / 65536=0:=by omega
  have e : l.set i (nth l i - nth l i / 65536 * 65536)=l:=by
    rw [q,Int.zero_mul,Int.sub_zero,su _ _ (by rw [h.len];omega)]
  unfold dZ.e7
  simp only
  rw [e,q,Int.mul_zero,Int.add_zero,Int.add_zero]
  split
  · exact su _ _ (by rw [h.len];omega)
  · exact su _ _ (by rw [h.len];omega)
theorem Norm.fq {l : List Int} (h : Norm l) : ∀ i,i≤16→dZ.fq l i=l
  | 0,_=>rfl
  | i+1,hi=>by
    show dZ.e7 (dZ.fq l i) i=l
    rw [h.fq i (by omega),h.e7 (by omega)]
theorem Norm.qB {l : List Int} (h : Norm l) : dZ.qB l=l:=h.fq 16 (by omega)
theorem Ex (l : List Int) : ∀ k,(∀ j,j<k→0≤nth l j∧nth l j≤65535)→0≤ps l k∧ps l k≤65536 ^ k - 1
  | 0,_=>by show (0 : Int)≤0∧(0 : Int)≤65536 ^ 0 - 1;rw [Int.pow_zero];omega
  | k+1,h=>by
    have ih:=Ex l k fun j hj=>h j (by omega)
    have a:=h k (by omega)
    have m : (0 : Int)<65536 ^ k:=Int.pow_pos (by decide)
    show 0≤ps l k+nth l k * 65536 ^ k∧ps l k+nth l k * 65536 ^ k≤65536 ^ (k+1) - 1
    rw [Int.pow_succ]
    generalize (65536 : Int) ^ k=M at *
    have p0:=Int.mul_nonneg a.1 (Int.le_of_lt m)
    have p1:=Int.mul_le_mul_of_nonneg_right a.2 (Int.le_of_lt m)
    omega
theorem sv (l : List Int) : ∀ k,∃ s,ps l (k+1)=nth l 0+65536 * s∧((∀ j,0<j→j<k+1→0≤nth l j∧nth l j≤65535)→0≤s∧s≤65536 ^ k - 1)
  | 0=>⟨0,by show 0+nth l 0 * 65536 ^ 0=_;rw [Int.pow_zero];omega,fun _=>by rw [Int.pow_zero];omega⟩
  | k+1=>by
    obtain ⟨s,e,b⟩:=sv l k
    refine ⟨s+nth l (k+1) * 65536 ^ k,?_,fun h=>?_⟩
    · show ps l (k+1)+nth l (k+1) * 65536 ^ (k+1)=_
      rw [e,Int.pow_succ,Int.mul_add,Int.mul_comm (65536 ^ k) 65536,Int.mul_left_comm,Int.add_assoc]
    · have b:=b fun j h0 h1=>h j h0 (by omega)
      have a:=h (k+1) (by omega) (by omega)
      have m : (0 : Int)<65536 ^ k:=Int.pow_pos (by decide)
      rw [Int.pow_succ]
      generalize (65536 : Int) ^ k=M at *
      have p0:=Int.mul_nonneg a.1 (Int.le_of_lt m)
      have p1:=Int.mul_le_mul_of_nonneg_right a.2 (Int.le_of_lt m)
      omega
theorem Cj {M N q r S S' f V S'' f0 : Int} (hM : M=65536 * N) (e1 : S+(q * 65536+r) * M=V) (e2 : S=f+65536 * S') (b0 : 0≤S') (b1 : S'≤N - 1) (hr : 0≤r) (hr2 : r≤65535) (hf : 0≤f) (hf2 : f≤65535)
    (hq : q=-1∨q=0∨q=1) (v0 : V=f0+65536 * S'') (hf0 : -128≤f0) (hf1 : f0≤65663) (c0 : 0≤S'') (c1 : S''≤M - 1) : 0≤f+38 * q∧f+38 * q≤65535:=by
  have m0 : 0≤M:=by omega
  have p0:=Int.mul_nonneg hr m0
  have p1:=Int.mul_le_mul_of_nonneg_right hr2 m0
  rw [Int.add_mul] at e1
  generalize r * M=R at *
  rcases hq with rfl | rfl | rfl
  · rw [show (-1 * 65536 * M : Int)=-(65536 * M) by omega] at e1
    omega
  · omega
  · rw [show (1 * 65536 * M : Int)=65536 * M by omega] at e1
    omega
theorem Good.norm {l : List Int} (h : Good l) : Norm (qB l):=by
  have c:=Ce.all h.len h.Kj 15 (by omega)
  have v:=vF h.len 15 (by omega)
  have len:=kL l 15
  rw [h.len] at len
  show Norm (e7 (fq l 15) 15)
  obtain ⟨_,done,here,_⟩:=c
  have k1 : iF (Cf (-128) 0) 15=-1:=by decide
  have k2 : iF (Cf 65663 65535) 15=1:=by decide
  rw [k1,k2,gw _ _ _ (by omega),gw _ _ _ (by omega),if_neg (by omega),if_neg (by omega)] at here
  obtain ⟨S',e2,b2⟩:=sv (fq l 15) 14
  obtain ⟨S'',e3,b3⟩:=sv l 15
  have b2:=b2 fun j _ hj=>done j hj
  have b3:=b3 fun j h0 hj=>h.rest j h0 hj
  have f0:=h.first
  have d0:=done 0 (by omega)
  rw [gU _ 16 (by omega),gU l 16 (by rw [h.len];omega),e3] at v
  have v1 : ps (fq l 15) 16=ps (fq l 15) 15+nth (fq l 15) 15 * 65536 ^ 15:=rfl
  rw [v1] at v
  have hM : (65536 : Int) ^ 15=65536 * 65536 ^ 14:=by rw [Int.pow_succ,Int.mul_comm]
  have top:=Cj (q:=nth (fq l 15) 15 / 65536) (r:=nth (fq l 15) 15 % 65536) hM (by rw [show nth (fq l 15) 15 / 65536 * 65536+nth (fq l 15) 15 % 65536=nth (fq l 15) 15 by omega];exact v) e2 b2.1 b2.2 (by omega) (by omega) d0.1 d0.2 (by omega) rfl f0.1 f0.2 b3.1 b3.2
  clear v v1 e2 e3 b2 b3 hM
  generalize fq l 15=m at *
  unfold e7
  simp only [show ¬ (15 : Nat)<15 by decide,if_false]
  refine ⟨by simp [len],fun j hj=>?_⟩
  have n0 : nth (m.set 15 (nth m 15 - nth m 15 / 65536 * 65536)) 0=nth m 0:=by rw [bG _ _ _ _ (by omega),if_neg (by omega)]
  rw [bG _ 0 j _ (by simp [len]),n0]
  by_cases e : 0=j
  · rw [if_pos e];exact top
  · rw [if_neg e,bG _ 15 j _ (by omega)]
    split
    · omega
    · exact done j (by omega)
def kT (i : Nat) : Int:=if i=15 then 32767 else 65535
def pl (i : Nat) : Int:=if i=0 then 65517 else kT i
def sb (a : List Int) : Nat→List Int
  | 0=>(List.replicate 16 0).set 0 (nth a 0 - 65517)
  | k+1=>((sb a k).set (k+1) (nth a (k+1) - kT (k+1) - nth (sb a k) k / 65536 % 2)).set k (nth ((sb a k).set (k+1) (nth a (k+1) - kT (k+1) - nth (sb a k) k / 65536 % 2)) k % 65536)
structure Kk (a : List Int) (k : Nat) (m : List Int) : Prop where
  len : m.length=16
  done : ∀ j,j<k→0≤nth m j∧nth m j≤65535
  here : -65536≤nth m k∧nth m k≤65535
  zero : ∀ j,k<j→nth m j=0
  sum : val m=ps a (k+1) - ps ((List.range 16).map pl) (k+1)
theorem Ey (j : Nat) (h : j<16) : nth ((List.range 16).map pl) j=pl j:=by
  unfold nth
  rw [List.getD_eq_getElem?_getD,List.getElem?_map,List.getElem?_range h];rfl
theorem Kk.all {a : List Int} (h : Norm a) : ∀ k,k≤15→Kk a k (sb a k)
  | 0,_=>by
    have a0:=h.all 0 (by omega)
    refine ⟨rfl,fun j hj=>absurd hj (by omega),?_,fun j hj=>?_,?_⟩
    · show -65536≤nth a 0 - 65517∧nth a 0 - 65517≤65535
      omega
    · rw [sb,bG _ _ _ _ (by simp),if_neg (by omega),je]
    · rw [sb,gv _ _ _ (by simp),je,show val (List.replicate 16 0)=0 by decide]
      show 0+(nth a 0 - 65517 - 0) * 65536 ^ 0=0+nth a 0 * 65536 ^ 0 - (0+nth ((List.range 16).map pl) 0 * 65536 ^ 0)
      rw [Ey 0 (by omega),Int.pow_zero,show pl 0=65517 from rfl]
      omega
  | k+1,hk=>by
    have c:=Kk.all h k (by omega)
    obtain ⟨len,done,here,zero,sum⟩:=c
    have ak:=h.all (k+1) (by omega)
    have tp : 32767≤kT (k+1)∧kT (k+1)≤65535:=by unfold kT;split <;> omega
    have z1:=zero (k+1) (by omega)
    rw [sb]
    have n1 : nth ((sb a k).set (k+1) (nth a (k+1) - kT (k+1) - nth (sb a k) k / 65536 % 2)) k=nth (sb a k) k:=by rw [bG _ _ _ _ (by omega),if_neg (by omega)]
    have l1 : ((sb a k).set (k+1) (nth a (k+1) - kT (k+1) - nth (sb a k) k / 65536 % 2)).length=16:=by rw [List.length_set];exact len
    rw [n1]
    refine ⟨by rw [List.length_set];exact l1,fun j hj=>?_,?_,fun j hj=>?_,?_⟩
    · rw [bG _ _ _ _ (by omega),bG _ _ _ _ (by omega)]
      split
      · omega
      · rw [if_neg (by omega)];exact done j (by omega)
    · rw [bG _ _ _ _ (by omega),if_neg (by omega),bG _ _ _ _ (by omega),if_pos rfl]
      omega
    · rw [bG _ _ _ _ (by omega),if_neg (by omega),bG _ _ _ _ (by omega),if_neg (by omega)]
      exact zero j (by omega)
    · rw [gv _ _ _ (by omega),gv _ _ _ (by omega),sum,z1,n1]
      show _=ps a (k+1)+nth a (k+1) * 65536 ^ (k+1) - (ps ((List.range 16).map pl) (k+1)+nth ((List.range 16).map pl) (k+1) * 65536 ^ (k+1))
      rw [Ey (k+1) (by omega),show pl (k+1)=kT (k+1) by unfold pl;rw [if_neg (by omega)]]
      have b : nth (sb a k) k % 65536 - nth (sb a k) k=(nth (sb a k) k / 65536 % 2) * 65536:=by omega
      rw [b]
      generalize nth (sb a k) k / 65536 % 2=q
      generalize nth a (k+1)=x
      generalize kT (k+1)=y
      rw [Int.pow_succ,Int.sub_zero,Int.mul_assoc q,Int.mul_comm 65536 (65536 ^ k),Int.sub_mul,Int.sub_mul]
      omega
theorem Ju : ps ((List.range 16).map pl) 16=(P : Int):=by decide +kernel
def off (a : List Int) : List Int:=if 0≤nth (sb a 15) 15 then sb a 15 else a
theorem oZ {a : List Int} (h : Norm a) : Norm (off a):=by
  have c:=Kk.all h 15 (by omega)
  unfold off
  split
  next hp=>
    refine ⟨c.len,fun j hj=>?_⟩
    by_cases e : j=15
    · subst e;exact ⟨hp,c.here.2⟩
    · exact c.done j (by omega)
  next=>exact h
theorem Norm.val {a : List Int} (h : Norm a) : 0≤dZ.val a∧dZ.val a≤65536 ^ 16 - 1:=by
  rw [gU a 16 (by rw [h.len];omega)]
  exact Ex a 16 fun j hj=>h.all j hj
theorem AY {a : List Int} (h : Norm a) : dZ.val (off a)=if (P : Int)≤dZ.val a then dZ.val a - P else dZ.val a:=by
  have c:=Kk.all h 15 (by omega)
  have s:=c.sum
  rw [Ju,← gU a 16 (by rw [h.len];omega)] at s
  have e1 : dZ.val (sb a 15)=ps (sb a 15) 15+nth (sb a 15) 15 * 65536 ^ 15:=by rw [gU _ 16 (by rw [c.len];omega)];rfl
  have b:=Ex (sb a 15) 15 c.done
  have m : (0 : Int)<65536 ^ 15:=Int.pow_pos (by decide)
  unfold off
  by_cases hp : 0≤nth (sb a 15) 15
  · rw [if_pos hp]
    have q:=Int.mul_nonneg hp (Int.le_of_lt m)
    rw [if_pos (by omega),s]
  · rw [if_neg hp]
    have q:=Int.mul_le_mul_of_nonneg_right (show nth (sb a 15) 15≤-1 by omega) (Int.le_of_lt m)
    rw [if_neg (by omega)]
theorem Ez {a : List Int} (h : Norm a) : dZ.val (off (off a))=((fv a).val : Int):=by
  have v:=h.val
  rw [AY (oZ h),AY h,fv,kM]
  have e : (65536 : Int) ^ 16=2 * (P : Int)+38:=by decide
  rw [e] at v
  have p : ((P : Nat) : Int)=57896044618658097711785492504343953926634992332820282019728792003956564819949:=rfl
  rw [p] at v ⊢
  generalize dZ.val a=x at *
  by_cases h1 : (57896044618658097711785492504343953926634992332820282019728792003956564819949 : Int)≤x
  · rw [if_pos h1]
    by_cases h2 : (57896044618658097711785492504343953926634992332820282019728792003956564819949 : Int)≤x - 57896044618658097711785492504343953926634992332820282019728792003956564819949
    · rw [if_pos h2];omega
    · rw [if_neg h2];omega
  · rw [if_neg h1,if_neg h1];omega
def zA : Nat→Nat→List By
  | 0,_=>[]
  | k+1,n=>BitVec.ofNat 8 n::zA k (n / 256)
theorem xy : ∀ k n,(zA k n).length=k
  | 0,_=>rfl
  | k+1,n=>by rw [zA,List.length_cons,xy k]
theorem vJ : ∀ b : List By,zA b.length (le b)=b
  | []=>rfl
  | x::b=>by
    have h:=x.isLt
    show BitVec.ofNat 8 (x.toNat+256 * le b)::zA b.length ((x.toNat+256 * le b) / 256)=x::b
    have e1 : (x.toNat+256 * le b) / 256=le b:=by omega
    have e2 : BitVec.ofNat 8 (x.toNat+256 * le b)=x:=by
      apply BitVec.eq_of_toNat_eq
      rw [BitVec.toNat_ofNat]
      omega
    rw [e1,e2,vJ b]
def lb : List Int→List By
  | []=>[]
  | x::l=>BitVec.ofInt 8 x::BitVec.ofInt 8 (x / 256)::lb l
theorem Ij : ∀ l : List Int,(∀ x ∈ l,0≤x∧x≤65535)→((le (lb l) : Nat) : Int)=val l
  | [],_=>rfl
  | x::l,h=>by
    have hx:=h x (List.mem_cons_self ..)
    have ih:=Ij l fun y hy=>h y (List.mem_cons_of_mem _ hy)
    show (((BitVec.ofInt 8 x).toNat+256 * ((BitVec.ofInt 8 (x / 256)).toNat+256 * le (lb l)) : Nat) : Int)=x+65536 * val l
    rw [← ih]
    have e1 : ((BitVec.ofInt 8 x).toNat : Int)=x % 256:=by rw [BitVec.toNat_ofInt];omega
    have e2 : ((BitVec.ofInt 8 (x / 256)).toNat : Int)=x / 256 % 256:=by rw [BitVec.toNat_ofInt];omega
    omega
theorem zB : ∀ l : List Int,(lb l).length=2 * l.length
  | []=>rfl
  | x::l=>by
    show (lb l).length+1+1=2 * (l.length+1)
    rw [zB l];omega
def qc (a : List Int) : List By:=lb (off (off (qB a)))
def tI (x : F) : List By:=zA 32 x.val
theorem Ck {a : List Int} (h : Good a) : qc a=tI (fv a):=by
  have n:=h.norm
  have n2:=oZ (oZ n)
  have v:=Ez n
  rw [sk h.len] at v
  have m : ∀ x ∈ off (off (qB a)),0≤x∧x≤65535:=fun x hx=>by
    obtain ⟨j,hj,e⟩:=List.getElem_of_mem hx
    have:=n2.all j (by rw [← n2.len];exact hj)
    unfold nth at this
    rw [List.getD_eq_getElem?_getD,List.getElem?_eq_getElem hj,e] at this
    exact this
  have e:=Ij _ m
  rw [v] at e
  have e2 : le (qc a)=(fv a).val:=by
    unfold qc
    omega
  have l : (qc a).length=32:=by rw [qc,zB,n2.len]
  rw [tI,← e2,← l,vJ]
def vK (a : List Int) : Nat→List Int
  | 0=>a
  | n+1=>off (vK a n)
theorem uF {a : List Int} (h : Norm a) : ∀ n,Norm (vK a n)
  | 0=>h
  | n+1=>oZ (uF h n)
def wb (a : List Int) : Nat→List By
  | 0=>List.replicate 32 0
  | i+1=>((wb a i).set (2 * i) (BitVec.ofInt 8 (nth a i))).set (2 * i+1) (BitVec.ofInt 8 (nth a i / 256))
theorem vL (a : List Int) : ∀ i,(wb a i).length=32
  | 0=>rfl
  | i+1=>by rw [wb,List.length_set,List.length_set,vL a i]
theorem EA : ∀ (a : List Int) (i : Nat),i<a.length→(lb a)[2 * i]?=some (BitVec.ofInt 8 (nth a i))∧(lb a)[2 * i+1]?=some (BitVec.ofInt 8 (nth a i / 256))
  | [],i,h=>absurd h (by simp)
  | x::l,0,_=>⟨rfl,rfl⟩
  | x::l,i+1,h=>by
    have ih:=EA l i (by simpa using h)
    show (BitVec.ofInt 8 x::BitVec.ofInt 8 (x / 256)::lb l)[2 * i+1+1]?=some (BitVec.ofInt 8 (nth l i))∧(BitVec.ofInt 8 x::BitVec.ofInt 8 (x / 256)::lb l)[2 * i+1+1+1]?=some (BitVec.ofInt 8 (nth l i / 256))
    rw [List.getElem?_cons_succ,List.getElem?_cons_succ,List.getElem?_cons_succ,List.getElem?_cons_succ]
    exact ih
theorem EB (a : List Int) (ha : a.length=16) : ∀ i,i≤16→∀ j,j<2 * i→(wb a i)[j]?=(lb a)[j]?
  | 0,_,j,h=>absurd h (by omega)
  | i+1,hi,j,h=>by
    have ih:=EB a ha i (by omega)
    have g:=EA a i (by omega)
    have l:=vL a i
    rw [wb,List.getElem?_set,List.getElem?_set,List.length_set]
    by_cases e1 : 2 * i+1=j
    · subst e1
      rw [if_pos rfl,if_pos (by omega),g.2]
    · rw [if_neg e1]
      by_cases e2 : 2 * i=j
      · subst e2
        rw [if_pos rfl,if_pos (by omega),g.1]
      · rw [if_neg e2]
        exact ih j (by omega)
theorem Jv (a : List Int) (ha : a.length=16) : wb a 16=lb a:=by
  apply List.ext_getElem?
  intro j
  by_cases h : j<32
  · exact EB a ha 16 (by omega) j (by omega)
  · rw [List.getElem?_eq_none (by rw [vL];omega),List.getElem?_eq_none (by rw [zB];omega)]
end dZ
end
section
set_option maxRecDepth 10000
open Sl dZ
theorem xA : aI Tryz.prog 52:=⟨_,Tryz.func52,rfl,by kernel_rfl⟩
theorem ir : zc Tryz.prog 23=some ((List.replicate 32 (0 : By)).map U8):=by kernel_rfl
theorem aX (l : List By) : (l.map U8).all Value.oneCell'=true:=by simp [Value.oneCell']
theorem sw (l : List By) (i : Nat) (x : By) : (l.map U8).set i (U8 x)=(l.set i x).map U8:=by rw [List.map_set]
section
variable {P : Program} {n : Nat} {E : Env} {C : World→Prop} {dst : Option Tmp} {ty t t' : TypeId} {pos : String} {aft : Array Edge} {g : Option (Nat × Bool)} {x y : Operand}
theorem OQ.AZ {a : Nat} (hx : ev E x=some (N (a+1))) (hy : ev E y=some (N 1)) (h : a<1000000) : OQ P n E C ⟨dst,.binOp .sub t x y t',ty,pos,aft,g⟩ (N a):=
  OQ.jE hx hy (by omega) (by omega)
end
theorem Good.fit {l : List Int} (h : Good l) : Fit l:=Fit.vH h.wide (by decide)
set_option maxHeartbeats 16000000 in
theorem zC (a : List Int) (ha : Good a) (w : World) : Calls Tryz.prog 52 [.agg (a.map I).toArray].toArray w fun e w'=>e=.returned (.agg ((tI (fv a)).map U8).toArray)∧Ext w w':=by
  have nA:=ha.norm
  have c1:=iR a ha.len (Good.fit ha)
  have c2:=iR (qB a) nA.len (Good.fit nA.zy)
  rw [nA.qB] at c2
  have eW:=Ck ha
  rw [qc] at eW
  have hla : (a.map I).length=16:=by rw [List.length_map];exact ha.len
  have hlA : ((qB a).map I).length=16:=by rw [List.length_map];exact nA.len
  generalize hA : qB a=A at nA c1 c2 eW hlA
  clear hA
  refine enter (n:=78) Tryz.func52 rfl rfl rfl (ah.start w []) ?_
  repeat (first | refine JC.seq ?_ | refine JC.region ?_)
  refine JL.box (r:=a.map I) rfl rfl rfl fun b1 _=>?_
  refine JL.alloc ir rfl fun b2 _=>?_
  repeat (first | refine JL.q (by first|(apply OQ.af (cs:=a.map I);exact cX;exact bg;rfl;exact (.there .here);exact hla;exact Row.all)|(apply OQ.au (vs:=[.agg (a.map I).toArray]);exact gS;rfl;exact (fun w' _=>c1 w'))|(apply OQ.au (vs:=[.agg (A.map I).toArray]);exact gS;rfl;exact (fun w' _=>c2 w'))) rfl ?_ | refine JC.seq ?_ | refine JC.region ?_ | refine JL.nil ?_ | refine JE.next ?_)
  refine JL.ag (cs:=A.map I) bg rfl rfl hlA (bF _) (.there .here) (by rw [hla]) ?_
  repeat (first | refine JL.q (by (apply OQ.assign;rfl)) rfl ?_ | refine JC.seq ?_ | refine JC.region ?_ | refine JC.block ?_ | refine JL.nil ?_ | refine JE.next ?_)
  refine JC.loop (fun n : Nat=>[(1,Pt b1 0),(2,Pt b2 0),(3,N n)])
    (fun n=>[⟨b2,Row 23 ((List.replicate 32 (0 : By)).map U8),true⟩,⟨b1,Row 97 ((vK A n).map I),true⟩])
    (fun n=>2 - n) (fun n=>n≤2) 0 (by omega) (by repeat (first | exact ai.nil | refine ai.cons _ _ _ rfl ?_)) (aq.refl _) ?_
  intro n hn
  have nX:=uF nA n
  have eX : vK A (n+1)=off (vK A n):=rfl
  have hlX : ((vK A n).map I).length=16:=by rw [List.length_map];exact nX.len
  repeat (first | refine JL.q (by first|(apply OQ.move;rfl)|(apply OQ.bP;rfl;rfl)) rfl ?_ | refine JC.seq ?_ | refine JC.region ?_ | refine JL.nil ?_ | refine JE.next ?_)
  refine JC.cond rfl (fun h=>?_) (fun h=>?_)
  · have hn' : n<2:=of_decide_eq_true h
    clear h hn
    generalize vK A n=X at *
    have hd0:=fZ (l:=X) (i:=0) (by rw [nX.len];omega)
    have x0:=nX.all 0 (by omega)
    repeat (first | refine JC.seq ?_ | refine JC.region ?_ | refine JC.block ?_ | refine JC.skip ?_ | refine JE.next ?_)
    refine JL.q (OQ.pure (v:=.agg ((List.replicate 16 (0 : Int)).map I).toArray) rfl rfl (by kernel_rfl)) rfl ?_
    refine JL.alloc jK rfl fun b4 _=>?_
    refine JL.ag bg rfl rfl rfl (bF _) .here (by simp) ?_
    repeat (first | refine JL.q (by first|(apply OQ.aE;exact Tryz.underlying97;exact lN;rfl;rfl;exact (by decide))|(apply OQ.load;exact qS;rfl;exact (.there (.there .here));exact (Row.cell hd0))|(apply OQ.oH (b:=65517);rfl;rfl;exact (by omega);exact (by omega))) rfl ?_ | refine JC.seq ?_ | refine JC.region ?_ | refine JL.nil ?_ | refine JE.next ?_)
    refine JL.az (r':=(sb X 0).map I) lN rfl rfl rfl rfl .here (by simp) (jc _ _ _) ?_
    repeat (first | refine JL.q (by (apply OQ.assign;rfl)) rfl ?_ | refine JC.seq ?_ | refine JC.region ?_ | refine JC.block ?_ | refine JL.nil ?_ | refine JE.next ?_)
    refine JC.loop (fun k : Nat=>[(1,Pt b1 0),(2,Pt b2 0),(3,N n),(4,Pt b4 0),(5,N (k+1))])
      (fun k=>[⟨b4,Row 97 ((sb X k).map I),true⟩,⟨b2,Row 23 ((List.replicate 32 (0 : By)).map U8),true⟩,⟨b1,Row 97 (X.map I),true⟩])
      (fun k=>15 - k) (fun k=>k≤15) 0 (by omega) (by repeat (first | exact ai.nil | refine ai.cons _ _ _ rfl ?_)) (aq.refl _) ?_
    intro k hk
    have c:=Kk.all nX k hk
    repeat (first | refine JL.q (by first|(apply OQ.move;rfl)|(apply OQ.bP;rfl;rfl)) rfl ?_ | refine JC.seq ?_ | refine JC.region ?_ | refine JL.nil ?_ | refine JE.next ?_)
    refine JC.cond rfl (fun h=>?_) (fun h=>?_)
    · have hk' : k+1<16:=of_decide_eq_true h
      clear h hk
      have hc:=fZ (l:=sb X k) (i:=k) (by rw [c.len];omega)
      have hd:=fZ (l:=X) (i:=k+1) (by rw [nX.len];omega)
      have xk:=nX.all (k+1) (by omega)
      have ck:=c.here
      have e1 : sb X (k+1)=((sb X k).set (k+1) (nth X (k+1) - kT (k+1) - nth (sb X k) k / 65536 % 2)).set k (nth ((sb X k).set (k+1) (nth X (k+1) - kT (k+1) - nth (sb X k) k / 65536 % 2)) k % 65536):=rfl
      have l1 : ((sb X k).set (k+1) (nth X (k+1) - kT (k+1) - nth (sb X k) k / 65536 % 2)).length=16:=by rw [List.length_set];exact c.len
      have he:=fZ (l:=(sb X k).set (k+1) (nth X (k+1) - kT (k+1) - nth (sb X k) k / 65536 % 2)) (i:=k) (by omega)
      generalize hm1 : (sb X k).set (k+1) (nth X (k+1) - kT (k+1) - nth (sb X k) k / 65536 % 2)=m1 at e1 l1 he
      repeat (first | refine JL.q (by first|(apply OQ.move;rfl)|(apply OQ.assign;rfl)) rfl ?_ | refine JC.seq ?_ | refine JC.region ?_ | refine JC.block ?_ | refine JC.skip ?_ | refine JL.nil ?_ | refine JE.next ?_)
      by_cases k15 : k+1=15
      · have kI : ((k+1 : Nat) : Int)=15:=by omega
        have t1 : kT (k+1)=32767:=by unfold kT;rw [if_pos k15]
        repeat (first | refine JL.q (by (apply OQ.HF;rfl;rfl;exact kI)) rfl ?_ | refine JL.nil ?_ | refine JE.next ?_)
        refine JC.cond_true rfl rfl ?_
        repeat (first | refine JL.q (by first|(apply OQ.AZ;rfl;rfl;exact (by omega))|(apply OQ.aE;exact Tryz.underlying97;exact lN;rfl;rfl;exact (by (try simp only []);omega))|(apply OQ.load;exact qS;rfl;exact .here;exact (Row.cell hc))|(apply OQ.load;exact qS;rfl;exact (.there (.there .here));exact (Row.cell hd))|(apply OQ.FR (m:=65536) (k:=16);exact (by decide);exact (by decide);rfl;rfl)|(apply OQ.FT (k:=1) (m:=1) (r:=2);exact (by decide);exact (by decide);exact (by decide);rfl;rfl)|(apply OQ.oH;rfl;rfl;exact (by omega);exact (by omega))|(apply OQ.move;rfl)|(apply OQ.assign;rfl)) rfl ?_ | refine JC.seq ?_ | refine JC.region ?_ | refine JL.nil ?_ | refine JE.next ?_)
        refine JL.az (r:=(sb X k).map I) (r':=m1.map I) lN rfl rfl rfl rfl .here (by rw [List.length_map,c.len];(try simp only []);omega) (by rw [jc,← hm1,t1]) ?_
        repeat (first | refine JL.q (by first|(apply OQ.AZ;rfl;rfl;exact (by omega))|(apply OQ.aE;exact Tryz.underlying97;exact lN;rfl;rfl;exact (by (try simp only []);omega))|(apply OQ.load;exact qS;rfl;exact .here;exact (Row.cell he))|(apply OQ.FT (k:=16) (m:=65535) (r:=65536);exact (by decide);exact (by decide);exact (by decide);rfl;rfl)|(apply OQ.move;rfl)) rfl ?_ | refine JC.region ?_ | refine JL.nil ?_ | refine JE.next ?_)
        refine JL.az (r':=(sb X (k+1)).map I) lN rfl rfl rfl rfl .here (by rw [List.length_map,l1];(try simp only []);omega) (by rw [jc,e1]) ?_
        repeat (first | refine JL.q (by first|(apply OQ.move;rfl)|(apply OQ.assign;rfl)|(apply OQ.aZ;rfl;rfl;exact (by (try simp only []);omega))) rfl ?_ | refine JC.region ?_ | refine JL.nil ?_ | refine JE.next ?_ | refine JE.an ?_)
        exact JE.again (i:=k) (k+1) (by omega) (by omega) (by repeat (first | exact ai.nil | refine ai.cons _ _ _ rfl ?_)) (aq.refl _)
      · have kI : ¬ ((k+1 : Nat) : Int)=15:=by omega
        have t2 : kT (k+1)=65535:=by unfold kT;rw [if_neg k15]
        repeat (first | refine JL.q (by (apply OQ.Kw;rfl;rfl;exact kI)) rfl ?_ | refine JL.nil ?_ | refine JE.next ?_)
        refine JC.cond_false rfl rfl ?_
        repeat (first | refine JL.q (by first|(apply OQ.AZ;rfl;rfl;exact (by omega))|(apply OQ.aE;exact Tryz.underlying97;exact lN;rfl;rfl;exact (by (try simp only []);omega))|(apply OQ.load;exact qS;rfl;exact .here;exact (Row.cell hc))|(apply OQ.load;exact qS;rfl;exact (.there (.there .here));exact (Row.cell hd))|(apply OQ.FR (m:=65536) (k:=16);exact (by decide);exact (by decide);rfl;rfl)|(apply OQ.FT (k:=1) (m:=1) (r:=2);exact (by decide);exact (by decide);exact (by decide);rfl;rfl)|(apply OQ.oH;rfl;rfl;exact (by omega);exact (by omega))|(apply OQ.move;rfl)|(apply OQ.assign;rfl)) rfl ?_ | refine JC.seq ?_ | refine JC.region ?_ | refine JC.skip ?_ | refine JL.nil ?_ | refine JE.next ?_)
        refine JL.az (r:=(sb X k).map I) (r':=m1.map I) lN rfl rfl rfl rfl .here (by rw [List.length_map,c.len];(try simp only []);omega) (by rw [jc,← hm1,t2]) ?_
        repeat (first | refine JL.q (by first|(apply OQ.AZ;rfl;rfl;exact (by omega))|(apply OQ.aE;exact Tryz.underlying97;exact lN;rfl;rfl;exact (by (try simp only []);omega))|(apply OQ.load;exact qS;rfl;exact .here;exact (Row.cell he))|(apply OQ.FT (k:=16) (m:=65535) (r:=65536);exact (by decide);exact (by decide);exact (by decide);rfl;rfl)|(apply OQ.move;rfl)) rfl ?_ | refine JC.region ?_ | refine JL.nil ?_ | refine JE.next ?_)
        refine JL.az (r':=(sb X (k+1)).map I) lN rfl rfl rfl rfl .here (by rw [List.length_map,l1];(try simp only []);omega) (by rw [jc,e1]) ?_
        repeat (first | refine JL.q (by first|(apply OQ.move;rfl)|(apply OQ.assign;rfl)|(apply OQ.aZ;rfl;rfl;exact (by (try simp only []);omega))) rfl ?_ | refine JC.region ?_ | refine JL.nil ?_ | refine JE.next ?_ | refine JE.an ?_)
        exact JE.again (i:=k) (k+1) (by omega) (by omega) (by repeat (first | exact ai.nil | refine ai.cons _ _ _ rfl ?_)) (aq.refl _)
    · have hk' : ¬ k+1<16:=of_decide_eq_false h
      obtain rfl : k=15:=by omega
      clear h hk hk'
      have hc:=fZ (l:=sb X 15) (i:=15) (by rw [c.len];omega)
      have hlS : ((sb X 15).map I).length=16:=by rw [List.length_map];exact c.len
      have eO : off X=if 0≤nth (sb X 15) 15 then sb X 15 else X:=rfl
      generalize sb X 15=S at *
      repeat (first | refine JL.q (by first|(apply OQ.aE;exact Tryz.underlying97;exact lN;rfl;rfl;exact (by decide))|(apply OQ.load;exact qS;rfl;exact .here;exact (Row.cell hc))|(apply OQ.Dj (b:=0);rfl;rfl)) rfl ?_ | refine JC.seq ?_ | refine JC.region ?_ | refine JC.exit ?_ | refine JL.nil ?_ | refine JE.next ?_ | refine JE.ax ?_ | refine JE.aA ?_)
      refine JC.cond rfl (fun h=>?_) (fun h=>?_)
      · have hp : 0≤nth S 15:=of_decide_eq_true h
        rw [if_pos hp,← eX] at eO
        repeat (first | refine JL.q (by (apply OQ.af (cs:=S.map I);exact cX;exact bg;rfl;exact .here;exact hlS;exact Row.all)) rfl ?_ | refine JC.region ?_)
        refine JL.ag (cs:=S.map I) bg rfl rfl hlS (bF _) (.there (.there .here)) (by rw [hlX]) ?_
        rw [← eO]
        repeat (first | refine JL.q (by first|(apply OQ.move;rfl)|(apply OQ.assign;rfl)|(apply OQ.aZ;rfl;rfl;exact (by (try simp only []);omega))) rfl ?_ | refine JC.region ?_ | refine JL.nil ?_ | refine JE.next ?_ | refine JE.an ?_)
        exact JE.again (i:=n) (n+1) (by omega) (by omega) (by repeat (first | exact ai.nil | refine ai.cons _ _ _ rfl ?_)) (.drop _ _ _ (aq.refl _))
      · have hp : ¬ 0≤nth S 15:=of_decide_eq_false h
        rw [if_neg hp,← eX] at eO
        rw [← eO]
        repeat (first | refine JL.q (by first|(apply OQ.move;rfl)|(apply OQ.assign;rfl)|(apply OQ.aZ;rfl;rfl;exact (by (try simp only []);omega))) rfl ?_ | refine JC.region ?_ | refine JC.skip ?_ | refine JL.nil ?_ | refine JE.next ?_ | refine JE.an ?_)
        exact JE.again (i:=n) (n+1) (by omega) (by omega) (by repeat (first | exact ai.nil | refine ai.cons _ _ _ rfl ?_)) (.drop _ _ _ (aq.refl _))
  · have hn' : ¬ n<2:=of_decide_eq_false h
    obtain rfl : n=2:=by omega
    clear h hn hn'
    have eO : vK A 2=off (off A):=rfl
    rw [← eO] at eW
    generalize vK A 2=X at *
    rw [← Jv X nX.len] at eW
    repeat (first | refine JC.seq ?_ | refine JC.region ?_ | refine JC.exit ?_ | refine JE.next ?_ | refine JE.ax ?_ | refine JE.aA ?_)
    refine JL.q (OQ.pure (v:=.agg ((wb X 0).map U8).toArray) rfl rfl (by kernel_rfl)) rfl ?_
    refine JL.alloc ir rfl fun b8 _=>?_
    refine JL.ag aB rfl rfl rfl (aX _) .here (by simp) ?_
    repeat (first | refine JL.q (by (apply OQ.assign;rfl)) rfl ?_ | refine JC.seq ?_ | refine JC.region ?_ | refine JC.block ?_ | refine JL.nil ?_ | refine JE.next ?_)
    refine JC.loop (fun i : Nat=>[(1,Pt b1 0),(2,Pt b2 0),(8,Pt b8 0),(9,N i)])
      (fun i=>[⟨b8,Row 23 ((wb X i).map U8),true⟩,⟨b2,Row 23 ((List.replicate 32 (0 : By)).map U8),true⟩,⟨b1,Row 97 (X.map I),true⟩])
      (fun i=>16 - i) (fun i=>i≤16) 0 (by omega) (by repeat (first | exact ai.nil | refine ai.cons _ _ _ rfl ?_)) (aq.refl _) ?_
    intro i hi
    have len:=vL X i
    repeat (first | refine JL.q (by first|(apply OQ.move;rfl)|(apply OQ.bP;rfl;rfl)) rfl ?_ | refine JC.seq ?_ | refine JC.region ?_ | refine JL.nil ?_ | refine JE.next ?_)
    refine JC.cond rfl (fun h=>?_) (fun h=>?_)
    · have hi' : i<16:=of_decide_eq_true h
      clear h hi
      have hc:=fZ (l:=X) (i:=i) (by rw [nX.len];omega)
      repeat (first | refine JL.q (by first|(apply OQ.aE;exact Tryz.underlying97;exact lN;rfl;rfl;exact (by (try simp only []);omega))|(apply OQ.aE;exact Tryz.underlying23;exact wo;rfl;rfl;exact (by (try simp only []);omega))|(apply OQ.load;exact qS;rfl;exact (.there (.there .here));exact (Row.cell hc))|(apply OQ.Ap;rfl;rfl;rfl)|(apply OQ.move;rfl)|(apply OQ.iW;rfl;rfl;exact (by (try simp only []);omega))) rfl ?_ | refine JC.seq ?_ | refine JC.region ?_ | refine JC.block ?_ | refine JC.skip ?_ | refine JE.next ?_)
      refine JL.az (r':=((wb X i).set (2 * i) (BitVec.ofInt 8 (nth X i))).map U8) wo rfl rfl rfl rfl .here (by rw [List.length_map,len];(try simp only []);omega) (sw _ _ _) ?_
      repeat (first | refine JL.q (by first|(apply OQ.aE;exact Tryz.underlying97;exact lN;rfl;rfl;exact (by (try simp only []);omega))|(apply OQ.aE;exact Tryz.underlying23;exact wo;rfl;rfl;exact (by (try simp only []);omega))|(apply OQ.load;exact qS;rfl;exact (.there (.there .here));exact (Row.cell hc))|(apply OQ.FR (m:=256) (k:=8);exact (by decide);exact (by decide);rfl;rfl)|(apply OQ.Ap;rfl;rfl;rfl)|(apply OQ.move;rfl)|(apply OQ.aZ;rfl;rfl;exact (by (try simp only []);omega))|(apply OQ.iW;rfl;rfl;exact (by (try simp only []);omega))) rfl ?_ | refine JC.region ?_ | refine JL.nil ?_ | refine JE.next ?_)
      refine JL.az (r':=(wb X (i+1)).map U8) wo rfl rfl rfl rfl .here (by rw [List.length_map,List.length_set,len];(try simp only []);omega) (sw _ _ _) ?_
      repeat (first | refine JL.q (by first|(apply OQ.move;rfl)|(apply OQ.assign;rfl)|(apply OQ.aZ;rfl;rfl;exact (by (try simp only []);omega))) rfl ?_ | refine JC.region ?_ | refine JL.nil ?_ | refine JE.next ?_ | refine JE.an ?_)
      exact JE.again (i:=i) (i+1) (by omega) (by omega) (by repeat (first | exact ai.nil | refine ai.cons _ _ _ rfl ?_)) (aq.refl _)
    · have hi' : ¬ i<16:=of_decide_eq_false h
      obtain rfl : i=16:=by omega
      clear h hi hi'
      rw [eW] at len ⊢
      have hlk : ((tI (fv a)).map U8).length=32:=by rw [List.length_map];exact len
      repeat (first | refine JL.q (by (apply OQ.af (cs:=(tI (fv a)).map U8);exact aN;exact aB;rfl;exact .here;exact hlk;exact Row.all)) rfl ?_ | refine JC.seq ?_ | refine JC.region ?_ | refine JC.exit ?_ | refine JE.next ?_ | refine JE.ax ?_ | refine JE.aA ?_)
      refine JL.ag (cs:=(tI (fv a)).map U8) aB rfl rfl hlk (aX _) (.there .here) (by simp) ?_
      repeat (first | refine JL.nil ?_ | refine JE.next ?_)
      refine JC.ret (JE.aJ rfl (RV.av aN aB rfl (.there .here) hlk Row.all) ?_)
      exact fun w' hw=>⟨rfl,hw.aM⟩
end
section
namespace dZ
theorem jh (x : F) : (tI x).length=32:=xy 32 _
def dN (k : List By) : List By:=(k.set 0 (k.getD 0 0 / 8 * 8)).set 31 ((k.set 0 (k.getD 0 0 / 8 * 8)).getD 31 0 % 64+64)
theorem om (k : List By) : (dN k).length=k.length:=by rw [dN,List.length_set,List.length_set]
theorem LR : ∀ b : List By,le b % 2=(b.getD 0 0).toNat % 2
  | []=>rfl
  | x::b=>by
    show (x.toNat+256 * le b) % 2=x.toNat % 2
    omega
theorem Ik : ∀ b : List By,le b<256 ^ b.length
  | []=>by show 0<256 ^ 0;decide
  | x::b=>by
    have ih:=Ik b
    have h:=x.isLt
    show x.toNat+256 * le b<256 ^ (b.length+1)
    rw [Nat.pow_succ]
    omega
theorem iS : ∀ a b : List By,le (a++b)=le a+256 ^ a.length * le b
  | [],b=>by show le b=0+256 ^ 0 * le b;rw [Nat.pow_zero];omega
  | x::a,b=>by
    show x.toNat+256 * le (a++b)=x.toNat+256 * le a+256 ^ (a.length+1) * le b
    rw [iS a b,Nat.pow_succ,Nat.mul_add,Nat.mul_comm (256 ^ a.length) 256,Nat.mul_assoc,Nat.add_assoc]
def aP (k u : List By) : List By:=tI (Gr (le (dN k)) (pt u))
theorem zD : ∀ (b : List By) (i : Nat),(le b).testBit i=(b.getD (i / 8) 0).toNat.testBit (i % 8)
  | [],i=>by
    rw [show le []=0 from rfl,Nat.zero_testBit]
    show false=(0 : By).toNat.testBit (i % 8)
    rw [show (0 : By).toNat=0 from rfl,Nat.zero_testBit]
  | x::b,i=>by
    have ih:=zD b
    have h:=x.isLt
    have e : le (x::b)=2 ^ 8 * le b+x.toNat:=by show x.toNat+256 * le b=256 * le b+x.toNat;omega
    rw [e,Nat.testBit_two_pow_mul_add _ h]
    by_cases hi : i<8
    · rw [if_pos hi,Nat.div_eq_of_lt hi,Nat.mod_eq_of_lt hi]
      rfl
    · rw [if_neg hi,ih,show i / 8=(i - 8) / 8+1 by omega,show i % 8=(i - 8) % 8 by omega]
      rfl
structure N4 where
  x2 : List Int
  z2 : List Int
  x3 : List Int
  z3 : List Int
def N4.f (s : N4) : L4:=⟨fv s.x2,fv s.z2,fv s.x3,fv s.z3⟩
structure N4.ok (s : N4) : Prop where
  x2 : Good s.x2
  z2 : Good s.z2
  x3 : Good s.x3
  z3 : Good s.z3
def cL : List Int:=56129::1::List.replicate 14 0
theorem mW : Good cL:=⟨rfl,by decide,fun j h0 h1=>by
  unfold cL
  cases j with
  | zero=>omega
  | succ j=>
    cases j with
    | zero=>decide
    | succ j=>
      have : nth (56129::1::List.replicate 14 0) (j+1+1)=0:=je 14 j
      omega⟩
theorem K8 : fv cL=121665:=by decide +kernel
def qC (x1 : List Int) (s : N4) : N4:=
  let a:=oe s.x2 s.z2
  let b:=og s.x2 s.z2
  let c:=oe s.x3 s.z3
  let d:=og s.x3 s.z3
  let da:=mulL d a
  let cb:=mulL c b
  let aa:=mulL a a
  let bb:=mulL b b
  let e:=og aa bb
  ⟨mulL aa bb,mulL e (oe aa (mulL cL e)),mulL (oe da cb) (oe da cb),mulL x1 (mulL (og da cb) (og da cb))⟩
def kf (b : Bool) (s : N4) : N4:=if b then ⟨s.x3,s.z3,s.x2,s.z2⟩ else s
theorem o9 {s : N4} (h : s.ok) (b : Bool) : (kf b s).ok:=by
  cases b
  · exact h
  · exact ⟨h.x3,h.z3,h.x2,h.z2⟩
theorem A0 (s : N4) (b : Bool) : (kf b s).f=swap b s.f:=by cases b <;> rfl
theorem EC {x1 : List Int} {s : N4} (h1 : Good x1) (h : s.ok) : (qC x1 s).ok:=by
  have a:=de h.x2 h.z2
  have b:=bX h.x2 h.z2
  have c:=de h.x3 h.z3
  have d:=bX h.x3 h.z3
  have da:=aK d a
  have cb:=aK c b
  have aa:=aK a a
  have bb:=aK b b
  have e:=bX aa bb
  have r1:=aK aa bb
  have r2:=aK e (de aa (aK mW e))
  have r3:=aK (de da cb) (de da cb)
  have r4:=aK h1 (aK (bX da cb) (bX da cb))
  unfold qC
  refine ⟨?_,?_,?_,?_⟩
  · simp only;exact r1
  · simp only;exact r2
  · simp only;exact r3
  · simp only;exact r4
theorem GD {a b : List Int} (ha : Good a) (hb : Good b) : fv (oe a b)=fv a+fv b:=Gx ha.len hb.len
theorem GF {a b : List Int} (ha : Good a) (hb : Good b) : fv (og a b)=fv a - fv b:=Gy ha.len hb.len
theorem sx {a b : List Int} (ha : Good a) (hb : Good b) : fv (mulL a b)=fv a * fv b:=qT ha.len hb.len
theorem GG {x1 : List Int} {s : N4} (h1 : Good x1) (h : s.ok) : (qC x1 s).f=core (fv x1) s.f:=by
  have a:=de h.x2 h.z2
  have b:=bX h.x2 h.z2
  have c:=de h.x3 h.z3
  have d:=bX h.x3 h.z3
  have da:=aK d a
  have cb:=aK c b
  have aa:=aK a a
  have bb:=aK b b
  have e:=bX aa bb
  unfold N4.f qC core
  simp only
  rw [sx aa bb,sx e (de aa (aK mW e)),GD aa (aK mW e),sx mW e,GF aa bb,sx (de da cb) (de da cb),GD da cb,
    sx h1 (aK (bX da cb) (bX da cb)),sx (bX da cb) (bX da cb),GF da cb,sx d a,sx c b,sx a a,sx b b,GD h.x2 h.z2,GF h.x2 h.z2,GD h.x3 h.z3,GF h.x3 h.z3,K8]
def jL (x1 : List Int) (k : Nat) : Nat→N4
  | 0=>⟨lJ,List.replicate 16 0,x1,lJ⟩
  | n+1=>kf (k.testBit (254 - n)) (qC x1 (kf (k.testBit (254 - n)) (jL x1 k n)))
theorem zE : Good (List.replicate 16 0):=⟨rfl,by decide,fun j _ _=>by rw [je];omega⟩
theorem qU {x1 : List Int} (h : Good x1) (k : Nat) : ∀ n,(jL x1 k n).ok
  | 0=>⟨qb,zE,h,qb⟩
  | n+1=>o9 (EC h (o9 (qU h k n) _)) _
theorem ED {x1 : List Int} (h : Good x1) (k : Nat) : ∀ n,n≤255→AL (fv x1) k (255 - n) (jL x1 k n).f=AL (fv x1) k 255 (jL x1 k 0).f
  | 0,_=>rfl
  | n+1,hn=>by
    rw [← ED h k n (by omega)]
    have e : 255 - n=(255 - (n+1))+1:=by omega
    have e2 : 254 - n=255 - (n+1):=by omega
    rw [e]
    show AL (fv x1) k (255 - (n+1)) (kf (k.testBit (254 - n)) (qC x1 (kf (k.testBit (254 - n)) (jL x1 k n)))).f=AL (fv x1) k (255 - (n+1)) (swap (k.testBit (255 - (n+1))) (core (fv x1) (swap (k.testBit (255 - (n+1))) (jL x1 k n).f)))
    rw [A0,GG h (o9 (qU h k n) _),A0,e2]
theorem EE : fv (List.replicate 16 0)=0:=by decide +kernel
theorem EG {x1 : List Int} (h : Good x1) (k : Nat) : fv (mulL (jL x1 k 255).x2 (fV (jL x1 k 255).z2 255))=Gr k (fv x1):=by
  have g:=qU h k 255
  have e : (jL x1 k 255).f=AL (fv x1) k 255 (jL x1 k 0).f:=ED h k 255 (by omega)
  have e0 : (jL x1 k 0).f=⟨1,0,fv x1,1⟩:=by
    show (⟨fv lJ,fv (List.replicate 16 0),fv x1,fv lJ⟩ : L4)=_
    rw [AW,EE]
  rw [e0] at e
  rw [sx g.x2 (ke g.z2 255),GB g.z2]
  unfold Gr
  rw [← e]
  rfl
theorem Cl (k u : List By) (hu : u.length=32) : tI (fv (mulL (jL (jg u) (le (dN k)) 255).x2 (fV (jL (jg u) (le (dN k)) 255).z2 255)))=aP k u:=by
  rw [EG (oh u),Eu u hu]
  rfl
end dZ
end
section
set_option maxRecDepth 10000
open Sl dZ
theorem sy : aI Tryz.prog 31:=⟨_,Tryz.func31,rfl,by kernel_rfl⟩
def Jw : Nat→List (Nat × Nat)
  | 2=>[(0,55),(1,56)]
  | 5=>[(3,58),(4,59)]
  | 8=>[(6,61),(7,62)]
  | 11=>[(9,64),(10,65)]
  | 16=>[(12,12),(2,57)]
  | 17=>[(13,13),(5,60)]
  | 18=>[(14,14),(8,63)]
  | 19=>[(15,15),(11,66)]
  | _=>[]
def Jx : Nat→List (Nat × Nat)
  | 2=>[(0,67),(1,68)]
  | 5=>[(3,70),(4,71)]
  | 8=>[(6,73),(7,74)]
  | 11=>[(9,76),(10,77)]
  | 16=>[(12,16),(2,69)]
  | 17=>[(13,17),(5,72)]
  | 18=>[(14,18),(8,75)]
  | 19=>[(15,19),(11,78)]
  | _=>[]
def K9 : Nat→List Nat
  | 0=>[20]
  | 1=>[21]
  | 3=>[20]
  | 4=>[21]
  | 6=>[22]
  | 7=>[23]
  | 9=>[22]
  | 10=>[23]
  | 16=>[12]
  | 17=>[13]
  | 18=>[14]
  | 19=>[15]
  | _=>[]
def La : Nat→List Nat
  | 0=>[23]
  | 1=>[20]
  | 3=>[22]
  | 4=>[21]
  | 6=>[20]
  | 7=>[20]
  | 9=>[21]
  | 10=>[21]
  | 16=>[12]
  | 17=>[13]
  | 18=>[14]
  | 19=>[15]
  | _=>[]
def Il : Nat→List Nat
  | 16=>[12]
  | 17=>[13]
  | 18=>[14]
  | 19=>[15]
  | _=>[]
def Im : Nat→Option Nat
  | 16=>some 12
  | 17=>some 13
  | 18=>some 14
  | 19=>some 15
  | _=>none
def Lb : Nat→List (Nat × Nat)
  | 8=>[(4,6),(0,33)]
  | 9=>[(5,7),(1,34)]
  | 10=>[(6,8),(2,35)]
  | 11=>[(7,9),(3,36)]
  | _=>[]
def MR : Nat→List Nat
  | 2=>[12]
  | 8=>[4]
  | 9=>[5]
  | 10=>[6]
  | 11=>[7]
  | _=>[]
def MS : Nat→List Nat
  | 8=>[4]
  | 9=>[5]
  | 10=>[6]
  | 11=>[7]
  | _=>[]
def MT : Nat→Option Nat
  | 8=>some 4
  | 9=>some 5
  | 10=>some 6
  | 11=>some 7
  | _=>none
theorem Jy (x : By) (k : Nat) (h : k<8) : decide ((x >>> k) &&& 1#8=1#8)=x.toNat.testBit k:=by
  have h8 : ∀ k : Fin 8,∀ x : By,decide ((x >>> k.val) &&& 1#8=1#8)=x.toNat.testBit k.val:=by decide +kernel
  exact h8 ⟨k,h⟩ x
set_option maxHeartbeats 32000000 in
set_option maxRecDepth 4000 in
theorem uG (k u : List By) (hk : k.length=32) (hu : u.length=32) (w : World) : Calls Tryz.prog 31 [.agg (k.map U8).toArray,.agg (u.map U8).toArray].toArray w fun e w'=>e=.returned (.agg ((aP k u).map U8).toArray)∧Ext w w':=by
  have eM:=Cl k u hu
  have hK : (dN k).length=32:=by rw [om,hk]
  have eK : dN k=(k.set 0 (k.getD 0 0 / 8 * 8)).set 31 ((k.set 0 (k.getD 0 0 / 8 * 8)).getD 31 0 % 64+64):=rfl
  have hc0:=kS (l:=k) (i:=0) (by omega)
  have hc31:=kS (l:=k.set 0 (k.getD 0 0 / 8 * 8)) (i:=31) (by rw [List.length_set];omega)
  have gx:=oh u
  have cR:=Ci u hu
  have hlu : (u.map U8).length=32:=by rw [List.length_map];exact hu
  generalize hx1 : jg u=x1 at eM gx cR
  refine enter (n:=119) Tryz.func31 rfl rfl rfl (ah.start w []) ?_
  repeat (first | refine JC.seq ?_ | refine JC.region ?_)
  refine JL.box (r:=k.map U8) rfl rfl rfl fun b2 _=>?_
  refine JL.box (r:=u.map U8) rfl rfl rfl fun b3 _=>?_
  refine JL.alloc ir rfl fun b4 _=>?_
  repeat (first | refine JL.q (by first|(apply OQ.aE;exact Tryz.underlying23;exact wo;rfl;rfl;exact (by decide))|(apply OQ.load;exact GC;rfl;exact (.there (.there .here));exact (Row.cell hc0))|(apply OQ.Md (b:=8#8);rfl;rfl;exact (by decide))|(apply OQ.Mc (b:=8#8);rfl;rfl)) rfl ?_ | refine JC.seq ?_ | refine JC.region ?_ | refine JL.nil ?_ | refine JE.next ?_)
  refine JL.az (r':=(k.set 0 (k.getD 0 0 / 8 * 8)).map U8) wo rfl rfl rfl rfl (.there (.there .here)) (by rw [List.length_map,hk];decide) (sw _ _ _) ?_
  repeat (first | refine JL.q (by first|(apply OQ.aE;exact Tryz.underlying23;exact wo;rfl;rfl;exact (by decide))|(apply OQ.load;exact GC;rfl;exact (.there (.there .here));exact (Row.cell hc31))|(apply OQ.Me (b:=64#8);rfl;rfl;exact (by decide))|(apply OQ.Mb (b:=64#8);rfl;rfl)) rfl ?_ | refine JC.seq ?_ | refine JC.region ?_ | refine JL.nil ?_ | refine JE.next ?_)
  refine JL.az (r':=(dN k).map U8) wo rfl rfl rfl rfl (.there (.there .here)) (by rw [List.length_map,List.length_set,hk];decide) (sw _ _ _) ?_
  generalize dN k=K at eM hK
  clear hc0 hc31 eK
  have hx1l : (x1.map I).length=16:=by rw [List.length_map];exact gx.len
  repeat (first | refine JL.q (by first|(apply OQ.af (cs:=u.map U8);exact aN;exact aB;rfl;exact (.there .here);exact hlu;exact Row.all)|(apply OQ.au;exact zx;rfl;exact (fun w' _=>cR w'))) rfl ?_ | refine JC.seq ?_ | refine JC.region ?_ | refine JL.nil ?_ | refine JE.next ?_)
  refine JL.alloc jK rfl fun b5 _=>?_
  refine JL.ag (cs:=x1.map I) bg rfl rfl hx1l (bF _) .here (by simp) ?_
  repeat (first | refine JC.seq ?_ | refine JL.nil ?_ | refine JE.next ?_)
  · let vs : Nat→Nat→Value:=fun j x=>match j with
      | 0=>.agg (lJ.map I).toArray
      | 1=>.agg ((List.replicate 16 (0 : Int)).map I).toArray
      | 2=>.agg (x1.map I).toArray
      | 3=>.agg (lJ.map I).toArray
      | _=>Pt x 0
    let Ms : Nat→Nat→List aH:=fun j x=>match j with
      | 4=>[⟨x,Row 97 ((List.replicate 16 (0 : Int)).map I),true⟩]
      | 5=>[⟨x,Row 97 ((List.replicate 16 (0 : Int)).map I),true⟩]
      | 6=>[⟨x,Row 97 ((List.replicate 16 (0 : Int)).map I),true⟩]
      | 7=>[⟨x,Row 97 ((List.replicate 16 (0 : Int)).map I),true⟩]
      | 8=>[⟨x,Row 97 (lJ.map I),true⟩]
      | 9=>[⟨x,Row 97 ((List.replicate 16 (0 : Int)).map I),true⟩]
      | 10=>[⟨x,Row 97 (x1.map I),true⟩]
      | 11=>[⟨x,Row 97 (lJ.map I),true⟩]
      | 12=>[⟨b5,Row 97 (x1.map I),true⟩]
      | 13=>[⟨b4,Row 23 ((List.replicate 32 (0 : By)).map U8),true⟩]
      | 14=>[⟨b2,Row 23 (K.map U8),true⟩]
      | _=>[]
    refine JC.grow (g:=⟨[(2,Pt b2 0),(4,Pt b4 0),(5,Pt b5 0)],15,vs,Ms,Lb,MR,MS,MT⟩) [(4,6),(5,7),(6,8),(7,9)] [8,9,10,11,12,13,14] fc (by repeat (first | exact ai.nil | refine ai.cons _ _ _ rfl ?_)) (.keep _ _ _ _ _ _ (fun _ h=>h) (.keep _ _ _ _ _ _ (fun _ h=>h) (.drop _ _ _ (aq.refl _)))) (by kernel_rfl) (by kernel_rfl) (by kernel_rfl) ?_ ?_
    · refine ⟨?_,?_,?_,?_,?_,?_,?_,?_,?_,?_,?_,?_,trivial⟩
      · intro x EF MF Q kk
        exact JL.q (OQ.pure (v:=.agg (lJ.map I).toArray) rfl rfl (by kernel_rfl)) rfl (JL.nil (kk 0 nofun))
      · intro x EF MF Q kk
        exact JL.q (OQ.pure (v:=.agg ((List.replicate 16 (0 : Int)).map I).toArray) rfl rfl (by kernel_rfl)) rfl (JL.nil (kk 0 nofun))
      · intro x EF MF Q kk
        exact JL.q (OQ.af (cs:=x1.map I) cX bg rfl .here hx1l Row.all) rfl (JL.nil (kk 0 nofun))
      · intro x EF MF Q kk
        exact JL.q (OQ.pure (v:=.agg (lJ.map I).toArray) rfl rfl (by kernel_rfl)) rfl (JL.nil (kk 0 nofun))
      iterate 4 (focus (intro x EF MF Q kk;exact JL.alloc jK rfl fun b _=>JL.nil (kk b nofun)))
      · intro x EF MF Q kk
        exact JL.ag (cs:=lJ.map I) bg rfl rfl rfl (bF _) .here (by simp) (JL.nil (kk (x 4) (fun k h=>by cases h;rfl)))
      · intro x EF MF Q kk
        exact JL.ag (cs:=(List.replicate 16 (0 : Int)).map I) bg rfl rfl rfl (bF _) .here (by simp) (JL.nil (kk (x 5) (fun k h=>by cases h;rfl)))
      · intro x EF MF Q kk
        exact JL.ag (cs:=x1.map I) bg rfl rfl hx1l (bF _) .here (by simp) (JL.nil (kk (x 6) (fun k h=>by cases h;rfl)))
      · intro x EF MF Q kk
        exact JL.ag (cs:=lJ.map I) bg rfl rfl rfl (bF _) .here (by simp) (JL.nil (kk (x 7) (fun k h=>by cases h;rfl)))
    · intro x hx
      have h8:=hx 8 4 (by decide) rfl
      have h9:=hx 9 5 (by decide) rfl
      have h10:=hx 10 6 (by decide) rfl
      have h11:=hx 11 7 (by decide) rfl
      show JE _ _ _ _ _ [(6,Pt (x 4) 0),(7,Pt (x 5) 0),(8,Pt (x 6) 0),(9,Pt (x 7) 0),(2,Pt b2 0),(4,Pt b4 0),(5,Pt b5 0)] [⟨(x 8),Row 97 (lJ.map I),true⟩,⟨(x 9),Row 97 ((List.replicate 16 (0 : Int)).map I),true⟩,⟨(x 10),Row 97 (x1.map I),true⟩,⟨(x 11),Row 97 (lJ.map I),true⟩,⟨b5,Row 97 (x1.map I),true⟩,⟨b4,Row 23 ((List.replicate 32 (0 : By)).map U8),true⟩,⟨b2,Row 23 (K.map U8),true⟩]
      rw [h8,h9,h10,h11]
      generalize x 4=b6
      generalize x 5=b7
      generalize x 6=b8
      generalize x 7=b9
      clear hx h8 h9 h10 h11 x vs Ms
      repeat (first | refine JL.q (by (apply OQ.assign;rfl)) rfl ?_ | refine JC.seq ?_ | refine JC.region ?_ | refine JC.block ?_ | refine JL.nil ?_ | refine JE.next ?_)
      refine JC.loop (fun n : Nat=>[(2,Pt b2 0),(4,Pt b4 0),(5,Pt b5 0),(6,Pt b6 0),(7,Pt b7 0),(8,Pt b8 0),(9,Pt b9 0),(10,I (254 - n))])
        (fun n=>[⟨b6,Row 97 ((jL x1 (le K) n).x2.map I),true⟩,⟨b7,Row 97 ((jL x1 (le K) n).z2.map I),true⟩,⟨b8,Row 97 ((jL x1 (le K) n).x3.map I),true⟩,⟨b9,Row 97 ((jL x1 (le K) n).z3.map I),true⟩,⟨b5,Row 97 (x1.map I),true⟩,⟨b4,Row 23 ((List.replicate 32 (0 : By)).map U8),true⟩,⟨b2,Row 23 (K.map U8),true⟩])
        (fun n=>255 - n) (fun n=>n≤255) 0 (by omega) (by repeat (first | exact ai.nil | refine ai.cons _ _ _ rfl ?_)) (aq.refl _) ?_
      intro n hn
      have ok:=qU gx (le K) n
      repeat (first | refine JL.q (by first|(apply OQ.Dj (b:=0);rfl;rfl)|(apply OQ.move;rfl)) rfl ?_ | refine JC.seq ?_ | refine JC.region ?_ | refine JL.nil ?_ | refine JE.next ?_)
      refine JC.cond rfl (fun h=>?_) (fun h=>?_)
      · have hn' : (0 : Int)≤254 - n:=of_decide_eq_true h
        clear h hn
        have hb : n<255:=by omega
        have hb2 : n≤254:=by omega
        have eN : jL x1 (le K) (n+1)=kf ((le K).testBit (254 - n)) (qC x1 (kf ((le K).testBit (254 - n)) (jL x1 (le K) n))):=rfl
        obtain ⟨i,hi⟩ : ∃ i,i=254 - n:=⟨_,rfl⟩
        have eI : (254 - (n : Int))=((i : Nat) : Int):=by omega
        rw [← hi] at eN
        rw [eI]
        have hcb:=kS (l:=K) (i:=i / 8) (by omega)
        have hbit : decide ((K.getD (i / 8) 0 >>> (i % 8)) &&& 1#8=1#8)=(le K).testBit i:=by rw [Jy _ _ (by omega),zD]
        generalize jL x1 (le K) n=s at ok eN ⊢
        obtain ⟨x2,z2,x3,z3⟩:=s
        have gx2 : Good x2:=ok.x2
        have gz2 : Good z2:=ok.z2
        have gx3 : Good x3:=ok.x3
        have gz3 : Good z3:=ok.z3
        dsimp only
        repeat (first | refine JL.q (by first|(apply OQ.aE;exact Tryz.underlying23;exact wo;rfl;rfl;exact (by (try simp only []);omega))|(apply OQ.load;exact GC;rfl;exact (by repeat (first | exact Has.here | apply Has.there));exact (Row.cell hcb))|(apply OQ.KC;rfl;rfl)|(apply OQ.FU (b:=1#8);rfl;rfl)|(apply OQ.move;rfl)|(apply OQ.assign;rfl)|(apply OQ.BA;rfl;rfl;exact (by (try simp only []);omega))|(apply OQ.Dd;rfl;rfl;exact (by (try simp only []);omega);exact (by (try simp only []);omega))) rfl ?_ | refine JC.seq ?_ | refine JC.region ?_ | refine JC.block ?_ | refine JC.skip ?_ | refine JL.nil ?_ | refine JE.next ?_)
        generalize hbt : (K.getD (i / 8) 0 >>> (i % 8)) &&& 1#8=bt at hbit ⊢
        repeat (first | refine JL.q (by (apply OQ.L9 (b:=1#8);rfl;rfl)) rfl ?_ | refine JL.nil ?_ | refine JE.next ?_)
        refine JC.join (ι:=Unit) (fun _=>[(2,Pt b2 0),(4,Pt b4 0),(5,Pt b5 0),(6,Pt b6 0),(7,Pt b7 0),(8,Pt b8 0),(9,Pt b9 0),(10,N i),(11,U8 bt)]) (fun _=>[⟨b6,Row 97 ((kf ((le K).testBit i) ⟨x2,z2,x3,z3⟩).x2.map I),true⟩,⟨b7,Row 97 ((kf ((le K).testBit i) ⟨x2,z2,x3,z3⟩).z2.map I),true⟩,⟨b8,Row 97 ((kf ((le K).testBit i) ⟨x2,z2,x3,z3⟩).x3.map I),true⟩,⟨b9,Row 97 ((kf ((le K).testBit i) ⟨x2,z2,x3,z3⟩).z3.map I),true⟩,⟨b5,Row 97 (x1.map I),true⟩,⟨b4,Row 23 ((List.replicate 32 (0 : By)).map U8),true⟩,⟨b2,Row 23 (K.map U8),true⟩]) (fun _=>True) ?_ (fun _ _=>?_)
        · refine JC.cond rfl (fun h=>?_) (fun h=>?_)
          · rw [← hbit,h]
            repeat (first | refine JL.q (by first|(apply OQ.af (cs:=x2.map I);exact cX;exact bg;rfl;exact (by repeat (first | exact Has.here | apply Has.there));exact (by rw [List.length_map];exact gx2.len);exact Row.all)|(apply OQ.af (cs:=x3.map I);exact cX;exact bg;rfl;exact (by repeat (first | exact Has.here | apply Has.there));exact (by rw [List.length_map];exact gx3.len);exact Row.all)) rfl ?_ | refine JC.seq ?_ | refine JC.region ?_)
            refine JL.ag (cs:=x3.map I) bg rfl rfl (by rw [List.length_map];exact gx3.len) (bF _) (by repeat (first | exact ff.here | apply ff.there)) (by rw [List.length_map];exact gx2.len) ?_
            skip
            refine JL.ag (cs:=x2.map I) bg rfl rfl (by rw [List.length_map];exact gx2.len) (bF _) (by repeat (first | exact ff.here | apply ff.there)) (by rw [List.length_map];exact gx3.len) ?_
            repeat (first | refine JL.q (by first|(apply OQ.af (cs:=z2.map I);exact cX;exact bg;rfl;exact (by repeat (first | exact Has.here | apply Has.there));exact (by rw [List.length_map];exact gz2.len);exact Row.all)|(apply OQ.af (cs:=z3.map I);exact cX;exact bg;rfl;exact (by repeat (first | exact Has.here | apply Has.there));exact (by rw [List.length_map];exact gz3.len);exact Row.all)) rfl ?_ | refine JC.region ?_ | refine JL.nil ?_ | refine JE.next ?_)
            refine JL.ag (cs:=z3.map I) bg rfl rfl (by rw [List.length_map];exact gz3.len) (bF _) (by repeat (first | exact ff.here | apply ff.there)) (by rw [List.length_map];exact gz2.len) ?_
            skip
            refine JL.ag (cs:=z2.map I) bg rfl rfl (by rw [List.length_map];exact gz2.len) (bF _) (by repeat (first | exact ff.here | apply ff.there)) (by rw [List.length_map];exact gz3.len) ?_
            repeat (refine JL.nil ?_)
            exact JE.mid () trivial (by repeat (first | exact ai.nil | refine ai.cons _ _ _ rfl ?_)) (aq.refl _)
          · rw [← hbit,h]
            repeat (refine JC.skip ?_)
            exact JE.mid () trivial (by repeat (first | exact ai.nil | refine ai.cons _ _ _ rfl ?_)) (aq.refl _)
        have ok':=o9 ok ((le K).testBit i)
        generalize kf ((le K).testBit i) ⟨x2,z2,x3,z3⟩=s' at ok' eN ⊢
        obtain ⟨X2,Z2,X3,Z3⟩:=s'
        have gX2 : Good X2:=ok'.x2
        have gZ2 : Good Z2:=ok'.z2
        have gX3 : Good X3:=ok'.x3
        have gZ3 : Good Z3:=ok'.z3
        dsimp only
        clear ok ok' gx2 gz2 gx3 gz3
        have cA:=oX X2 Z2 gX2 gZ2
        have gA:=de gX2 gZ2
        generalize hA : oe X2 Z2=A at cA gA
        have cB:=mV X2 Z2 gX2 gZ2
        have gB:=bX gX2 gZ2
        generalize hB : og X2 Z2=B at cB gB
        have cC:=oX X3 Z3 gX3 gZ3
        have gC:=de gX3 gZ3
        generalize hC : oe X3 Z3=C at cC gC
        have cD:=mV X3 Z3 gX3 gZ3
        have gD:=bX gX3 gZ3
        generalize hD : og X3 Z3=D at cD gD
        have cDA:=dK D A gD gA
        have gDA:=aK gD gA
        generalize hDA : mulL D A=DA at cDA gDA
        have cCB:=dK C B gC gB
        have gCB:=aK gC gB
        generalize hCB : mulL C B=CB at cCB gCB
        have cAA:=dK A A gA gA
        have gAA:=aK gA gA
        generalize hAA : mulL A A=AA at cAA gAA
        have cBB:=dK B B gB gB
        have gBB:=aK gB gB
        generalize hBB : mulL B B=BB at cBB gBB
        have cE:=mV AA BB gAA gBB
        have gE:=bX gAA gBB
        generalize hE : og AA BB=E at cE gE
        have cF:=dK cL E mW gE
        have gF:=aK mW gE
        generalize hF : mulL cL E=F at cF gF
        have cG:=oX AA F gAA gF
        have gG:=de gAA gF
        generalize hG : oe AA F=G at cG gG
        have cR1:=dK AA BB gAA gBB
        have gR1:=aK gAA gBB
        generalize hR1 : mulL AA BB=R1 at cR1 gR1
        have cR2:=dK E G gE gG
        have gR2:=aK gE gG
        generalize hR2 : mulL E G=R2 at cR2 gR2
        have cH:=oX DA CB gDA gCB
        have gH:=de gDA gCB
        generalize hH : oe DA CB=H at cH gH
        have cR3:=dK H H gH gH
        have gR3:=aK gH gH
        generalize hR3 : mulL H H=R3 at cR3 gR3
        have cJ:=mV DA CB gDA gCB
        have gJ:=bX gDA gCB
        generalize hJ : og DA CB=J at cJ gJ
        have cJJ:=dK J J gJ gJ
        have gJJ:=aK gJ gJ
        generalize hJJ : mulL J J=JJ at cJJ gJJ
        have cR4:=dK x1 JJ gx gJJ
        have gR4:=aK gx gJJ
        generalize hR4 : mulL x1 JJ=R4 at cR4 gR4
        have eC : qC x1 ⟨X2,Z2,X3,Z3⟩=⟨R1,R2,R3,R4⟩:=by
          subst hR4 hJJ hJ hR3 hH hR2 hR1 hG hF hE hBB hAA hCB hDA hD hC hB hA
          rfl
        rw [eC] at eN
        clear eC hA hB hC hD hDA hCB hAA hBB hE hF hG hR1 hR2 hH hR3 hJ hJJ hR4
        repeat (refine JC.seq ?_)
        let vs : Nat→Nat→Value:=fun j x=>match j with
          | 0=>.agg (X2.map I).toArray
          | 1=>.agg (Z2.map I).toArray
          | 3=>.agg (X2.map I).toArray
          | 4=>.agg (Z2.map I).toArray
          | 6=>.agg (X3.map I).toArray
          | 7=>.agg (Z3.map I).toArray
          | 9=>.agg (X3.map I).toArray
          | 10=>.agg (Z3.map I).toArray
          | 2=>.agg (A.map I).toArray
          | 5=>.agg (B.map I).toArray
          | 8=>.agg (C.map I).toArray
          | 11=>.agg (D.map I).toArray
          | _=>Pt x 0
        let Ms : Nat→Nat→List aH:=fun j x=>match j with
          | 12=>[⟨x,Row 97 ((List.replicate 16 (0 : Int)).map I),true⟩]
          | 13=>[⟨x,Row 97 ((List.replicate 16 (0 : Int)).map I),true⟩]
          | 14=>[⟨x,Row 97 ((List.replicate 16 (0 : Int)).map I),true⟩]
          | 15=>[⟨x,Row 97 ((List.replicate 16 (0 : Int)).map I),true⟩]
          | 16=>[⟨x,Row 97 (A.map I),true⟩]
          | 17=>[⟨x,Row 97 (B.map I),true⟩]
          | 18=>[⟨x,Row 97 (C.map I),true⟩]
          | 19=>[⟨x,Row 97 (D.map I),true⟩]
          | 20=>[⟨b6,Row 97 (X2.map I),true⟩]
          | 21=>[⟨b7,Row 97 (Z2.map I),true⟩]
          | 22=>[⟨b8,Row 97 (X3.map I),true⟩]
          | 23=>[⟨b9,Row 97 (Z3.map I),true⟩]
          | 24=>[⟨b5,Row 97 (x1.map I),true⟩]
          | 25=>[⟨b4,Row 23 ((List.replicate 32 (0 : By)).map U8),true⟩]
          | 26=>[⟨b2,Row 23 (K.map U8),true⟩]
          | _=>[]
        refine JC.grow (g:=⟨[(2,Pt b2 0),(4,Pt b4 0),(5,Pt b5 0),(6,Pt b6 0),(7,Pt b7 0),(8,Pt b8 0),(9,Pt b9 0),(10,N i),(11,U8 bt)],27,vs,Ms,Jw,K9,Il,Im⟩) [(12,12),(13,13),(14,14),(15,15)] [16,17,18,19,20,21,22,23,24,25,26] fc (by repeat (first | exact ai.nil | refine ai.cons _ _ _ rfl ?_)) (aq.refl _) (by kernel_rfl) (by kernel_rfl) (by kernel_rfl) ?_ ?_
        · refine ⟨?_,?_,?_,?_,?_,?_,?_,?_,?_,?_,?_,?_,?_,?_,?_,?_,?_,?_,?_,?_,trivial⟩
          · intro x EF MF Q kk
            exact JL.q (OQ.af (cs:=X2.map I) cX bg rfl .here (by rw [List.length_map];exact gX2.len) Row.all) rfl (JL.nil (kk 0 nofun))
          · intro x EF MF Q kk
            exact JL.q (OQ.af (cs:=Z2.map I) cX bg rfl .here (by rw [List.length_map];exact gZ2.len) Row.all) rfl (JL.nil (kk 0 nofun))
          · intro x EF MF Q kk
            exact JL.q (OQ.au mU rfl fun w' _=>cA w') rfl (JL.nil (kk 0 nofun))
          · intro x EF MF Q kk
            exact JL.q (OQ.af (cs:=X2.map I) cX bg rfl .here (by rw [List.length_map];exact gX2.len) Row.all) rfl (JL.nil (kk 0 nofun))
          · intro x EF MF Q kk
            exact JL.q (OQ.af (cs:=Z2.map I) cX bg rfl .here (by rw [List.length_map];exact gZ2.len) Row.all) rfl (JL.nil (kk 0 nofun))
          · intro x EF MF Q kk
            exact JL.q (OQ.au kN rfl fun w' _=>cB w') rfl (JL.nil (kk 0 nofun))
          · intro x EF MF Q kk
            exact JL.q (OQ.af (cs:=X3.map I) cX bg rfl .here (by rw [List.length_map];exact gX3.len) Row.all) rfl (JL.nil (kk 0 nofun))
          · intro x EF MF Q kk
            exact JL.q (OQ.af (cs:=Z3.map I) cX bg rfl .here (by rw [List.length_map];exact gZ3.len) Row.all) rfl (JL.nil (kk 0 nofun))
          · intro x EF MF Q kk
            exact JL.q (OQ.au mU rfl fun w' _=>cC w') rfl (JL.nil (kk 0 nofun))
          · intro x EF MF Q kk
            exact JL.q (OQ.af (cs:=X3.map I) cX bg rfl .here (by rw [List.length_map];exact gX3.len) Row.all) rfl (JL.nil (kk 0 nofun))
          · intro x EF MF Q kk
            exact JL.q (OQ.af (cs:=Z3.map I) cX bg rfl .here (by rw [List.length_map];exact gZ3.len) Row.all) rfl (JL.nil (kk 0 nofun))
          · intro x EF MF Q kk
            exact JL.q (OQ.au kN rfl fun w' _=>cD w') rfl (JL.nil (kk 0 nofun))
          · intro x EF MF Q kk
            exact JL.alloc jK rfl fun b _=>JL.nil (kk b nofun)
          · intro x EF MF Q kk
            exact JL.alloc jK rfl fun b _=>JL.nil (kk b nofun)
          · intro x EF MF Q kk
            exact JL.alloc jK rfl fun b _=>JL.nil (kk b nofun)
          · intro x EF MF Q kk
            exact JL.alloc jK rfl fun b _=>JL.nil (kk b nofun)
          · intro x EF MF Q kk
            exact JL.ag (cs:=A.map I) bg rfl rfl (by rw [List.length_map];exact gA.len) (bF _) .here (by simp) (JL.nil (kk (x 12) (fun k h=>by cases h;rfl)))
          · intro x EF MF Q kk
            exact JL.ag (cs:=B.map I) bg rfl rfl (by rw [List.length_map];exact gB.len) (bF _) .here (by simp) (JL.nil (kk (x 13) (fun k h=>by cases h;rfl)))
          · intro x EF MF Q kk
            exact JL.ag (cs:=C.map I) bg rfl rfl (by rw [List.length_map];exact gC.len) (bF _) .here (by simp) (JL.nil (kk (x 14) (fun k h=>by cases h;rfl)))
          · intro x EF MF Q kk
            exact JL.ag (cs:=D.map I) bg rfl rfl (by rw [List.length_map];exact gD.len) (bF _) .here (by simp) (JL.nil (kk (x 15) (fun k h=>by cases h;rfl)))
        · intro x hx
          have h16:=hx 16 12 (by decide) rfl
          have h17:=hx 17 13 (by decide) rfl
          have h18:=hx 18 14 (by decide) rfl
          have h19:=hx 19 15 (by decide) rfl
          show JE _ _ _ _ _ [(12,Pt (x 12) 0),(13,Pt (x 13) 0),(14,Pt (x 14) 0),(15,Pt (x 15) 0),(2,Pt b2 0),(4,Pt b4 0),(5,Pt b5 0),(6,Pt b6 0),(7,Pt b7 0),(8,Pt b8 0),(9,Pt b9 0),(10,N i),(11,U8 bt)] [⟨(x 16),Row 97 (A.map I),true⟩,⟨(x 17),Row 97 (B.map I),true⟩,⟨(x 18),Row 97 (C.map I),true⟩,⟨(x 19),Row 97 (D.map I),true⟩,⟨b6,Row 97 (X2.map I),true⟩,⟨b7,Row 97 (Z2.map I),true⟩,⟨b8,Row 97 (X3.map I),true⟩,⟨b9,Row 97 (Z3.map I),true⟩,⟨b5,Row 97 (x1.map I),true⟩,⟨b4,Row 23 ((List.replicate 32 (0 : By)).map U8),true⟩,⟨b2,Row 23 (K.map U8),true⟩]
          rw [h16,h17,h18,h19]
          generalize x 12=b12
          generalize x 13=b13
          generalize x 14=b14
          generalize x 15=b15
          clear hx h16 h17 h18 h19 x vs Ms
          repeat (first | refine JC.seq ?_ | refine JE.next ?_)
          let vs : Nat→Nat→Value:=fun j x=>match j with
            | 0=>.agg (D.map I).toArray
            | 1=>.agg (A.map I).toArray
            | 3=>.agg (C.map I).toArray
            | 4=>.agg (B.map I).toArray
            | 6=>.agg (A.map I).toArray
            | 7=>.agg (A.map I).toArray
            | 9=>.agg (B.map I).toArray
            | 10=>.agg (B.map I).toArray
            | 2=>.agg (DA.map I).toArray
            | 5=>.agg (CB.map I).toArray
            | 8=>.agg (AA.map I).toArray
            | 11=>.agg (BB.map I).toArray
            | _=>Pt x 0
          let Ms : Nat→Nat→List aH:=fun j x=>match j with
            | 12=>[⟨x,Row 97 ((List.replicate 16 (0 : Int)).map I),true⟩]
            | 13=>[⟨x,Row 97 ((List.replicate 16 (0 : Int)).map I),true⟩]
            | 14=>[⟨x,Row 97 ((List.replicate 16 (0 : Int)).map I),true⟩]
            | 15=>[⟨x,Row 97 ((List.replicate 16 (0 : Int)).map I),true⟩]
            | 16=>[⟨x,Row 97 (DA.map I),true⟩]
            | 17=>[⟨x,Row 97 (CB.map I),true⟩]
            | 18=>[⟨x,Row 97 (AA.map I),true⟩]
            | 19=>[⟨x,Row 97 (BB.map I),true⟩]
            | 20=>[⟨b12,Row 97 (A.map I),true⟩]
            | 21=>[⟨b13,Row 97 (B.map I),true⟩]
            | 22=>[⟨b14,Row 97 (C.map I),true⟩]
            | 23=>[⟨b15,Row 97 (D.map I),true⟩]
            | 24=>[⟨b6,Row 97 (X2.map I),true⟩]
            | 25=>[⟨b7,Row 97 (Z2.map I),true⟩]
            | 26=>[⟨b8,Row 97 (X3.map I),true⟩]
            | 27=>[⟨b9,Row 97 (Z3.map I),true⟩]
            | 28=>[⟨b5,Row 97 (x1.map I),true⟩]
            | 29=>[⟨b4,Row 23 ((List.replicate 32 (0 : By)).map U8),true⟩]
            | 30=>[⟨b2,Row 23 (K.map U8),true⟩]
            | _=>[]
          refine JC.grow (g:=⟨[(2,Pt b2 0),(4,Pt b4 0),(5,Pt b5 0),(6,Pt b6 0),(7,Pt b7 0),(8,Pt b8 0),(9,Pt b9 0),(10,N i),(11,U8 bt),(12,Pt b12 0),(13,Pt b13 0),(14,Pt b14 0),(15,Pt b15 0)],31,vs,Ms,Jx,La,Il,Im⟩) [(12,16),(13,17),(14,18),(15,19)] [16,17,18,19,20,21,22,23,24,25,26,27,28,29,30] fc (by repeat (first | exact ai.nil | refine ai.cons _ _ _ rfl ?_)) (aq.refl _) (by kernel_rfl) (by kernel_rfl) (by kernel_rfl) ?_ ?_
          · refine ⟨?_,?_,?_,?_,?_,?_,?_,?_,?_,?_,?_,?_,?_,?_,?_,?_,?_,?_,?_,?_,trivial⟩
            · intro x EF MF Q kk
              exact JL.q (OQ.af (cs:=D.map I) cX bg rfl .here (by rw [List.length_map];exact gD.len) Row.all) rfl (JL.nil (kk 0 nofun))
            · intro x EF MF Q kk
              exact JL.q (OQ.af (cs:=A.map I) cX bg rfl .here (by rw [List.length_map];exact gA.len) Row.all) rfl (JL.nil (kk 0 nofun))
            · intro x EF MF Q kk
              exact JL.q (OQ.au dh rfl fun w' _=>cDA w') rfl (JL.nil (kk 0 nofun))
            · intro x EF MF Q kk
              exact JL.q (OQ.af (cs:=C.map I) cX bg rfl .here (by rw [List.length_map];exact gC.len) Row.all) rfl (JL.nil (kk 0 nofun))
            · intro x EF MF Q kk
              exact JL.q (OQ.af (cs:=B.map I) cX bg rfl .here (by rw [List.length_map];exact gB.len) Row.all) rfl (JL.nil (kk 0 nofun))
            · intro x EF MF Q kk
              exact JL.q (OQ.au dh rfl fun w' _=>cCB w') rfl (JL.nil (kk 0 nofun))
            · intro x EF MF Q kk
              exact JL.q (OQ.af (cs:=A.map I) cX bg rfl .here (by rw [List.length_map];exact gA.len) Row.all) rfl (JL.nil (kk 0 nofun))
            · intro x EF MF Q kk
              exact JL.q (OQ.af (cs:=A.map I) cX bg rfl .here (by rw [List.length_map];exact gA.len) Row.all) rfl (JL.nil (kk 0 nofun))
            · intro x EF MF Q kk
              exact JL.q (OQ.au dh rfl fun w' _=>cAA w') rfl (JL.nil (kk 0 nofun))
            · intro x EF MF Q kk
              exact JL.q (OQ.af (cs:=B.map I) cX bg rfl .here (by rw [List.length_map];exact gB.len) Row.all) rfl (JL.nil (kk 0 nofun))
            · intro x EF MF Q kk
              exact JL.q (OQ.af (cs:=B.map I) cX bg rfl .here (by rw [List.length_map];exact gB.len) Row.all) rfl (JL.nil (kk 0 nofun))
            · intro x EF MF Q kk
              exact JL.q (OQ.au dh rfl fun w' _=>cBB w') rfl (JL.nil (kk 0 nofun))
            · intro x EF MF Q kk
              exact JL.alloc jK rfl fun b _=>JL.nil (kk b nofun)
            · intro x EF MF Q kk
              exact JL.alloc jK rfl fun b _=>JL.nil (kk b nofun)
            · intro x EF MF Q kk
              exact JL.alloc jK rfl fun b _=>JL.nil (kk b nofun)
            · intro x EF MF Q kk
              exact JL.alloc jK rfl fun b _=>JL.nil (kk b nofun)
            · intro x EF MF Q kk
              exact JL.ag (cs:=DA.map I) bg rfl rfl (by rw [List.length_map];exact gDA.len) (bF _) .here (by simp) (JL.nil (kk (x 12) (fun k h=>by cases h;rfl)))
            · intro x EF MF Q kk
              exact JL.ag (cs:=CB.map I) bg rfl rfl (by rw [List.length_map];exact gCB.len) (bF _) .here (by simp) (JL.nil (kk (x 13) (fun k h=>by cases h;rfl)))
            · intro x EF MF Q kk
              exact JL.ag (cs:=AA.map I) bg rfl rfl (by rw [List.length_map];exact gAA.len) (bF _) .here (by simp) (JL.nil (kk (x 14) (fun k h=>by cases h;rfl)))
            · intro x EF MF Q kk
              exact JL.ag (cs:=BB.map I) bg rfl rfl (by rw [List.length_map];exact gBB.len) (bF _) .here (by simp) (JL.nil (kk (x 15) (fun k h=>by cases h;rfl)))
          · intro x hx
            have h16:=hx 16 12 (by decide) rfl
            have h17:=hx 17 13 (by decide) rfl
            have h18:=hx 18 14 (by decide) rfl
            have h19:=hx 19 15 (by decide) rfl
            show JE _ _ _ _ _ [(16,Pt (x 12) 0),(17,Pt (x 13) 0),(18,Pt (x 14) 0),(19,Pt (x 15) 0),(2,Pt b2 0),(4,Pt b4 0),(5,Pt b5 0),(6,Pt b6 0),(7,Pt b7 0),(8,Pt b8 0),(9,Pt b9 0),(10,N i),(11,U8 bt),(12,Pt b12 0),(13,Pt b13 0),(14,Pt b14 0),(15,Pt b15 0)] [⟨(x 16),Row 97 (DA.map I),true⟩,⟨(x 17),Row 97 (CB.map I),true⟩,⟨(x 18),Row 97 (AA.map I),true⟩,⟨(x 19),Row 97 (BB.map I),true⟩,⟨b12,Row 97 (A.map I),true⟩,⟨b13,Row 97 (B.map I),true⟩,⟨b14,Row 97 (C.map I),true⟩,⟨b15,Row 97 (D.map I),true⟩,⟨b6,Row 97 (X2.map I),true⟩,⟨b7,Row 97 (Z2.map I),true⟩,⟨b8,Row 97 (X3.map I),true⟩,⟨b9,Row 97 (Z3.map I),true⟩,⟨b5,Row 97 (x1.map I),true⟩,⟨b4,Row 23 ((List.replicate 32 (0 : By)).map U8),true⟩,⟨b2,Row 23 (K.map U8),true⟩]
            rw [h16,h17,h18,h19]
            generalize x 12=b16
            generalize x 13=b17
            generalize x 14=b18
            generalize x 15=b19
            clear hx h16 h17 h18 h19 x vs Ms
            repeat (first | refine JC.seq ?_ | refine JC.region ?_ | refine JE.next ?_)
            repeat (refine JL.q (by first|(apply OQ.af (cs:=AA.map I);exact cX;exact bg;rfl;exact (by repeat (first | exact Has.here | apply Has.there));exact (by rw [List.length_map];exact gAA.len);exact Row.all)|(apply OQ.af (cs:=BB.map I);exact cX;exact bg;rfl;exact (by repeat (first | exact Has.here | apply Has.there));exact (by rw [List.length_map];exact gBB.len);exact Row.all)|(apply OQ.au (vs:=[.agg (AA.map I).toArray,.agg (BB.map I).toArray]);exact kN;rfl;exact (fun w' _=>cE w'))) rfl ?_)
            refine JL.alloc jK rfl fun b20 _=>?_
            refine JL.ag (cs:=E.map I) bg rfl rfl (by rw [List.length_map];exact gE.len) (bF _) .here (by simp) ?_
            repeat (first | refine JC.seq ?_ | refine JL.nil ?_ | refine JE.next ?_)
            refine JC.tail 7 fc (by kernel_rfl) ?_
            simp only [List.take_succ_cons,List.take_zero,List.drop_succ_cons,List.drop_zero]
            repeat (first | refine JQ.q (by first|(apply OQ.af (cs:=DA.map I);exact cX;exact bg;rfl;exact (by repeat (first | exact Has.here | apply Has.there));exact (by rw [List.length_map];exact gDA.len);exact Row.all)|(apply OQ.af (cs:=CB.map I);exact cX;exact bg;rfl;exact (by repeat (first | exact Has.here | apply Has.there));exact (by rw [List.length_map];exact gCB.len);exact Row.all)|(apply OQ.au (vs:=[.agg (DA.map I).toArray,.agg (CB.map I).toArray]);exact mU;rfl;exact (fun w' _=>cH w'))|(apply OQ.au (vs:=[.agg (H.map I).toArray,.agg (H.map I).toArray]);exact dh;rfl;exact (fun w' _=>cR3 w'))) rfl ?_ | refine JQ.bA ?_)
            refine JL.ag (cs:=R3.map I) bg rfl rfl (by rw [List.length_map];exact gR3.len) (bF _) (by repeat (first | exact ff.here | apply ff.there)) (by rw [List.length_map];exact gX3.len) ?_
            repeat (first | refine JC.seq ?_ | refine JL.nil ?_ | refine JE.next ?_)
            refine JC.tail 9 fc (by kernel_rfl) ?_
            simp only [List.take_succ_cons,List.take_zero,List.drop_succ_cons,List.drop_zero]
            repeat (first | refine JQ.q (by first|(apply OQ.af (cs:=DA.map I);exact cX;exact bg;rfl;exact (by repeat (first | exact Has.here | apply Has.there));exact (by rw [List.length_map];exact gDA.len);exact Row.all)|(apply OQ.af (cs:=CB.map I);exact cX;exact bg;rfl;exact (by repeat (first | exact Has.here | apply Has.there));exact (by rw [List.length_map];exact gCB.len);exact Row.all)|(apply OQ.af (cs:=x1.map I);exact cX;exact bg;rfl;exact (by repeat (first | exact Has.here | apply Has.there));exact (by rw [List.length_map];exact gx.len);exact Row.all)|(apply OQ.au (vs:=[.agg (DA.map I).toArray,.agg (CB.map I).toArray]);exact kN;rfl;exact (fun w' _=>cJ w'))|(apply OQ.au (vs:=[.agg (J.map I).toArray,.agg (J.map I).toArray]);exact dh;rfl;exact (fun w' _=>cJJ w'))|(apply OQ.au (vs:=[.agg (x1.map I).toArray,.agg (JJ.map I).toArray]);exact dh;rfl;exact (fun w' _=>cR4 w'))) rfl ?_ | refine JQ.bA ?_)
            refine JL.ag (cs:=R4.map I) bg rfl rfl (by rw [List.length_map];exact gR4.len) (bF _) (by repeat (first | exact ff.here | apply ff.there)) (by rw [List.length_map];exact gZ3.len) ?_
            repeat (first | refine JL.q (by first|(apply OQ.af (cs:=AA.map I);exact cX;exact bg;rfl;exact (by repeat (first | exact Has.here | apply Has.there));exact (by rw [List.length_map];exact gAA.len);exact Row.all)|(apply OQ.af (cs:=BB.map I);exact cX;exact bg;rfl;exact (by repeat (first | exact Has.here | apply Has.there));exact (by rw [List.length_map];exact gBB.len);exact Row.all)|(apply OQ.au (vs:=[.agg (AA.map I).toArray,.agg (BB.map I).toArray]);exact dh;rfl;exact (fun w' _=>cR1 w'))) rfl ?_ | refine JC.seq ?_ | refine JC.region ?_ | refine JL.nil ?_ | refine JE.next ?_)
            refine JL.ag (cs:=R1.map I) bg rfl rfl (by rw [List.length_map];exact gR1.len) (bF _) (by repeat (first | exact ff.here | apply ff.there)) (by rw [List.length_map];exact gX2.len) ?_
            repeat (first | refine JC.seq ?_ | refine JL.nil ?_ | refine JE.next ?_)
            refine JC.tail 7 fc (by kernel_rfl) ?_
            simp only [List.take_succ_cons,List.take_zero,List.drop_succ_cons,List.drop_zero]
            repeat (refine JQ.q (by first|(apply OQ.af (cs:=E.map I);exact cX;exact bg;rfl;exact (by repeat (first | exact Has.here | apply Has.there));exact (by rw [List.length_map];exact gE.len);exact Row.all)|(apply OQ.af (cs:=AA.map I);exact cX;exact bg;rfl;exact (by repeat (first | exact Has.here | apply Has.there));exact (by rw [List.length_map];exact gAA.len);exact Row.all)) rfl ?_)
            refine JQ.q (OQ.pure (v:=.agg (cL.map I).toArray) rfl rfl (by kernel_rfl)) rfl ?_
            repeat (first | refine JQ.q (by first|(apply OQ.af (cs:=E.map I);exact cX;exact bg;rfl;exact (by repeat (first | exact Has.here | apply Has.there));exact (by rw [List.length_map];exact gE.len);exact Row.all)|(apply OQ.au (vs:=[.agg (cL.map I).toArray,.agg (E.map I).toArray]);exact dh;rfl;exact (fun w' _=>cF w'))|(apply OQ.au (vs:=[.agg (AA.map I).toArray,.agg (F.map I).toArray]);exact mU;rfl;exact (fun w' _=>cG w'))|(apply OQ.au (vs:=[.agg (E.map I).toArray,.agg (G.map I).toArray]);exact dh;rfl;exact (fun w' _=>cR2 w'))) rfl ?_ | refine JQ.bA ?_)
            refine JL.ag (cs:=R2.map I) bg rfl rfl (by rw [List.length_map];exact gR2.len) (bF _) (by repeat (first | exact ff.here | apply ff.there)) (by rw [List.length_map];exact gZ2.len) ?_
            repeat (first | refine JL.q (by first|(apply OQ.L9 (b:=1#8);rfl;rfl)|(apply OQ.move;rfl)) rfl ?_ | refine JC.seq ?_ | refine JC.region ?_ | refine JL.nil ?_ | refine JE.next ?_)
            refine JC.cond rfl (fun h=>?_) (fun h=>?_)
            · repeat (first | refine JL.q (by first|(apply OQ.af (cs:=R1.map I);exact cX;exact bg;rfl;exact (by repeat (first | exact Has.here | apply Has.there));exact (by rw [List.length_map];exact gR1.len);exact Row.all)|(apply OQ.af (cs:=R3.map I);exact cX;exact bg;rfl;exact (by repeat (first | exact Has.here | apply Has.there));exact (by rw [List.length_map];exact gR3.len);exact Row.all)) rfl ?_ | refine JC.seq ?_ | refine JC.region ?_)
              refine JL.ag (cs:=R3.map I) bg rfl rfl (by rw [List.length_map];exact gR3.len) (bF _) (by repeat (first | exact ff.here | apply ff.there)) (by rw [List.length_map];exact gR1.len) ?_
              skip
              refine JL.ag (cs:=R1.map I) bg rfl rfl (by rw [List.length_map];exact gR1.len) (bF _) (by repeat (first | exact ff.here | apply ff.there)) (by rw [List.length_map];exact gR3.len) ?_
              repeat (first | refine JL.q (by first|(apply OQ.af (cs:=R2.map I);exact cX;exact bg;rfl;exact (by repeat (first | exact Has.here | apply Has.there));exact (by rw [List.length_map];exact gR2.len);exact Row.all)|(apply OQ.af (cs:=R4.map I);exact cX;exact bg;rfl;exact (by repeat (first | exact Has.here | apply Has.there));exact (by rw [List.length_map];exact gR4.len);exact Row.all)) rfl ?_ | refine JC.region ?_ | refine JL.nil ?_ | refine JE.next ?_)
              refine JL.ag (cs:=R4.map I) bg rfl rfl (by rw [List.length_map];exact gR4.len) (bF _) (by repeat (first | exact ff.here | apply ff.there)) (by rw [List.length_map];exact gR2.len) ?_
              skip
              refine JL.ag (cs:=R2.map I) bg rfl rfl (by rw [List.length_map];exact gR2.len) (bF _) (by repeat (first | exact ff.here | apply ff.there)) (by rw [List.length_map];exact gR4.len) ?_
              repeat (first | refine JL.q (by (apply OQ.move;rfl)) rfl ?_ | refine JC.region ?_ | refine JL.nil ?_ | refine JE.next ?_ | refine JE.an ?_)
              repeat (first | refine JL.q (by first|(apply OQ.oH (b:=1);rfl;rfl;exact (by omega);exact (by omega))|(apply OQ.assign;rfl)) rfl ?_ | refine JL.nil ?_)
              refine JE.again (i:=n) (n+1) (by omega) (by omega) ?_ ?_
              · rw [show (254 - ((n+1 : Nat) : Int))=(i : Int) - 1 by omega]
                exact (by repeat (first | exact ai.nil | refine ai.cons _ _ _ rfl ?_))
              · rw [eN,← hbit,h]
                repeat (first | exact aq.refl _ | refine aq.drop _ _ _ ?_)
            · repeat (first | refine JL.q (by (apply OQ.move;rfl)) rfl ?_ | refine JC.region ?_ | refine JC.skip ?_ | refine JE.next ?_ | refine JE.an ?_)
              repeat (first | refine JL.q (by first|(apply OQ.oH (b:=1);rfl;rfl;exact (by omega);exact (by omega))|(apply OQ.assign;rfl)) rfl ?_ | refine JL.nil ?_)
              refine JE.again (i:=n) (n+1) (by omega) (by omega) ?_ ?_
              · rw [show (254 - ((n+1 : Nat) : Int))=(i : Int) - 1 by omega]
                exact (by repeat (first | exact ai.nil | refine ai.cons _ _ _ rfl ?_))
              · rw [eN,← hbit,h]
                repeat (first | exact aq.refl _ | refine aq.drop _ _ _ ?_)
      · have hn' : ¬ (0 : Int)≤254 - n:=of_decide_eq_false h
        obtain rfl : n=255:=by omega
        clear h hn hn'
        generalize jL x1 (le K) 255=s at ok eM ⊢
        obtain ⟨X2,Z2,X3,Z3⟩:=s
        have gX2 : Good X2:=ok.x2
        have gZ2 : Good Z2:=ok.z2
        dsimp only at eM ⊢
        have cV:=Ew Z2 gZ2
        have gV:=ke gZ2 255
        generalize fV Z2 255=V at cV gV eM
        have cW:=dK X2 V gX2 gV
        have gW:=aK gX2 gV
        generalize mulL X2 V=W at cW gW eM
        have cY:=zC W gW
        rw [eM] at cY
        have hly : ((aP k u).map U8).length=32:=by rw [List.length_map];exact jh _
        generalize aP k u=Y at cY hly ⊢
        repeat (first | refine JC.seq ?_ | refine JC.exit ?_ | refine JE.next ?_ | refine JE.ax ?_ | refine JE.aA ?_)
        refine JC.tail 5 fc (by kernel_rfl) ?_
        simp only [List.take_succ_cons,List.take_zero,List.drop_succ_cons,List.drop_zero]
        repeat (first | refine JQ.q (by first|(apply OQ.af (cs:=X2.map I);exact cX;exact bg;rfl;exact (by repeat (first | exact Has.here | apply Has.there));exact (by rw [List.length_map];exact gX2.len);exact Row.all)|(apply OQ.af (cs:=Z2.map I);exact cX;exact bg;rfl;exact (by repeat (first | exact Has.here | apply Has.there));exact (by rw [List.length_map];exact gZ2.len);exact Row.all)|(apply OQ.au (vs:=[.agg (Z2.map I).toArray]);exact Ch;rfl;exact (fun w' _=>cV w'))|(apply OQ.au (vs:=[.agg (X2.map I).toArray,.agg (V.map I).toArray]);exact dh;rfl;exact (fun w' _=>cW w'))|(apply OQ.au (vs:=[.agg (W.map I).toArray]);exact xA;rfl;exact (fun w' _=>cY w'))) rfl ?_ | refine JQ.bA ?_)
        refine JL.ag (cs:=Y.map U8) aB rfl rfl hly (aX _) (by repeat (first | exact ff.here | apply ff.there)) (by simp) ?_
        repeat (first | refine JL.nil ?_ | refine JE.next ?_)
        refine JC.ret (JE.aJ rfl (RV.av aN aB rfl (by repeat (first | exact Has.here | apply Has.there)) hly Row.all) ?_)
        exact fun w' hw=>⟨rfl,hw.aM⟩
end
section
namespace dZ
abbrev dY:=BitVec 64
structure N5 where
  a0 : dY
  a1 : dY
  a2 : dY
  a3 : dY
  a4 : dY
@[reducible] def N5.l (n : N5) : List dY:=[n.a0,n.a1,n.a2,n.a3,n.a4]
def jo (n : N5) : Nat:=n.a0.toNat+2251799813685248 * (n.a1.toNat+2251799813685248 * (n.a2.toNat+2251799813685248 * (n.a3.toNat+2251799813685248 * n.a4.toNat)))
structure dH (n : N5) : Prop where
  a0 : n.a0.toNat<2251799813947392
  a1 : n.a1.toNat<2251799813947392
  a2 : n.a2.toNat<2251799813947392
  a3 : n.a3.toNat<2251799813947392
  a4 : n.a4.toNat<2251799813947392
theorem Jz : P=57896044618658097711785492504343953926634992332820282019728792003956564819949:=rfl
def fn (x : Nat) : F:=fi (x : Int)
theorem ji (x y : Nat) : fn (x+y)=fn x+fn y:=by
  unfold fn
  rw [Int.natCast_add,vG]
theorem kU (x y : Nat) : fn (x * y)=fn x * fn y:=by
  unfold fn
  rw [Int.natCast_mul,Ep]
theorem vM {x y q : Nat} (h : x+q * P=y) : fn x=fn y:=by
  unfold fn
  refine (zu (q:=(q : Int)) ?_).symm
  rw [← h,Int.natCast_add,Int.natCast_mul]
theorem Lc {x : Nat} (h : x<P) : (fn x).val=x:=by
  have:=kM (x : Int)
  rw [Int.emod_eq_of_lt (by omega) (by omega)] at this
  unfold fn
  omega
def iT (n : N5) : F:=fn (jo n)
def rr : F:=2251799813685248
theorem NP : rr * rr * rr * rr * rr=19:=by decide +kernel
theorem Io : fn 2251799813685248=rr:=by decide +kernel
theorem Ld : fn 19=19:=by decide +kernel
theorem EH (n : N5) : iT n=fn n.a0.toNat+rr * (fn n.a1.toNat+rr * (fn n.a2.toNat+rr * (fn n.a3.toNat+rr * fn n.a4.toNat))):=by
  unfold iT jo
  rw [ji,kU,ji,kU,ji,kU,ji,kU,Io]
theorem bR (x : dY) : (x &&& 2251799813685247#64).toNat=x.toNat % 2251799813685248:=by
  rw [BitVec.toNat_and,show (2251799813685247#64).toNat=2 ^ 51 - 1 from rfl,Nat.and_two_pow_sub_one_eq_mod]
theorem dx (x : dY) (k : Nat) : (x >>> k).toNat=x.toNat / 2 ^ k:=by rw [BitVec.toNat_ushiftRight,Nat.shiftRight_eq_div_pow]
theorem fC (x : dY) : (x >>> 51).toNat=x.toNat / 2251799813685248:=dx x 51
theorem toNat_add {x y : dY} (h : x.toNat+y.toNat<18446744073709551616) : (x+y).toNat=x.toNat+y.toNat:=by
  rw [BitVec.toNat_add]
  exact Nat.mod_eq_of_lt h
theorem fD {y : dY} (h : 19 * y.toNat<18446744073709551616) : (19#64 * y).toNat=19 * y.toNat:=by
  rw [BitVec.toNat_mul]
  exact Nat.mod_eq_of_lt h
def tJ (n : N5) : N5:=
  ⟨(n.a0 &&& 2251799813685247#64)+19#64 * (n.a4 >>> 51),(n.a1 &&& 2251799813685247#64)+n.a0 >>> 51,(n.a2 &&& 2251799813685247#64)+n.a1 >>> 51,
   (n.a3 &&& 2251799813685247#64)+n.a2 >>> 51,(n.a4 &&& 2251799813685247#64)+n.a3 >>> 51⟩
structure MU (n m : N5) : Prop where
  a0 : m.a0.toNat=n.a0.toNat % 2251799813685248+19 * (n.a4.toNat / 2251799813685248)
  a1 : m.a1.toNat=n.a1.toNat % 2251799813685248+n.a0.toNat / 2251799813685248
  a2 : m.a2.toNat=n.a2.toNat % 2251799813685248+n.a1.toNat / 2251799813685248
  a3 : m.a3.toNat=n.a3.toNat % 2251799813685248+n.a2.toNat / 2251799813685248
  a4 : m.a4.toNat=n.a4.toNat % 2251799813685248+n.a3.toNat / 2251799813685248
theorem A1 (n : N5) : MU n (tJ n):=by
  have h0:=n.a0.isLt
  have h1:=n.a1.isLt
  have h2:=n.a2.isLt
  have h3:=n.a3.isLt
  have h4:=n.a4.isLt
  have m0:=bR n.a0
  have m1:=bR n.a1
  have m2:=bR n.a2
  have m3:=bR n.a3
  have m4:=bR n.a4
  have s0:=fC n.a0
  have s1:=fC n.a1
  have s2:=fC n.a2
  have s3:=fC n.a3
  have s4:=fC n.a4
  have f:=fD (y:=n.a4 >>> 51) (by omega)
  exact ⟨(toNat_add (by omega)).trans (by omega),(toNat_add (by omega)).trans (by omega),(toNat_add (by omega)).trans (by omega),(toNat_add (by omega)).trans (by omega),(toNat_add (by omega)).trans (by omega)⟩
theorem qd (n : N5) : dH (tJ n):=by
  have c:=A1 n
  have h0:=n.a0.isLt
  have h1:=n.a1.isLt
  have h2:=n.a2.isLt
  have h3:=n.a3.isLt
  have h4:=n.a4.isLt
  exact ⟨by rw [c.a0];omega,by rw [c.a1];omega,by rw [c.a2];omega,by rw [c.a3];omega,by rw [c.a4];omega⟩
theorem EJ (n : N5) : jo (tJ n)+n.a4.toNat / 2251799813685248 * P=jo n:=by
  have c:=A1 n
  unfold jo
  rw [c.a0,c.a1,c.a2,c.a3,c.a4,Jz]
  omega
theorem vN (n : N5) : iT (tJ n)=iT n:=vM (EJ n)
def qe (a b : N5) : N5:=tJ ⟨a.a0+b.a0,a.a1+b.a1,a.a2+b.a2,a.a3+b.a3,a.a4+b.a4⟩
def oo (a b : N5) : N5:=tJ ⟨a.a0+4503599627370458#64 - b.a0,a.a1+4503599627370494#64 - b.a1,a.a2+4503599627370494#64 - b.a2,a.a3+4503599627370494#64 - b.a3,a.a4+4503599627370494#64 - b.a4⟩
theorem kg (a b : N5) : dH (qe a b):=qd _
theorem iU (a b : N5) : dH (oo a b):=qd _
theorem qV {a b : N5} (ha : dH a) (hb : dH b) : iT (qe a b)=iT a+iT b:=by
  obtain ⟨p0,p1,p2,p3,p4⟩:=ha
  obtain ⟨q0,q1,q2,q3,q4⟩:=hb
  have e0:=toNat_add (x:=a.a0) (y:=b.a0) (by omega)
  have e1:=toNat_add (x:=a.a1) (y:=b.a1) (by omega)
  have e2:=toNat_add (x:=a.a2) (y:=b.a2) (by omega)
  have e3:=toNat_add (x:=a.a3) (y:=b.a3) (by omega)
  have e4:=toNat_add (x:=a.a4) (y:=b.a4) (by omega)
  unfold qe
  rw [vN]
  unfold iT
  rw [← ji]
  congr 1
  unfold jo
  rw [e0,e1,e2,e3,e4]
  omega
theorem jj {x y : dY} {c : Nat} (h : x.toNat+c<18446744073709551616) (hy : y.toNat≤c) : (x+BitVec.ofNat 64 c - y).toNat+y.toNat=x.toNat+c:=by
  rw [BitVec.toNat_sub,BitVec.toNat_add,BitVec.toNat_ofNat]
  have:=y.isLt
  omega
theorem qW {a b : N5} (ha : dH a) (hb : dH b) : iT (oo a b)=iT a - iT b:=by
  obtain ⟨p0,p1,p2,p3,p4⟩:=ha
  obtain ⟨q0,q1,q2,q3,q4⟩:=hb
  have e0:=jj (x:=a.a0) (y:=b.a0) (c:=4503599627370458) (by omega) (by omega)
  have e1:=jj (x:=a.a1) (y:=b.a1) (c:=4503599627370494) (by omega) (by omega)
  have e2:=jj (x:=a.a2) (y:=b.a2) (c:=4503599627370494) (by omega) (by omega)
  have e3:=jj (x:=a.a3) (y:=b.a3) (c:=4503599627370494) (by omega) (by omega)
  have e4:=jj (x:=a.a4) (y:=b.a4) (c:=4503599627370494) (by omega) (by omega)
  unfold oo
  rw [vN]
  have k : fn (jo ⟨a.a0+4503599627370458#64 - b.a0,a.a1+4503599627370494#64 - b.a1,a.a2+4503599627370494#64 - b.a2,a.a3+4503599627370494#64 - b.a3,a.a4+4503599627370494#64 - b.a4⟩+jo b)=fn (jo a):=by
    refine (vM (q:=2) ?_).symm
    unfold jo
    simp only
    rw [Jz]
    omega
  rw [ji] at k
  unfold iT
  rw [← k]
  generalize fn (jo b)=y
  generalize fn (jo _)=x
  clear k
  grobner
structure W2 where
  hi : dY
  lo : dY
@[reducible] def W2.l (w : W2) : List dY:=[w.hi,w.lo]
def W2.v (w : W2) : Nat:=w.hi.toNat * 18446744073709551616+w.lo.toNat
def sA (a b : dY) : dY:=BitVec.ofNat 64 (a.toNat * b.toNat / 18446744073709551616)
def Ip (a b : dY) : dY:=BitVec.ofNat 64 ((a.toNat+b.toNat) / 18446744073709551616)
def yo (a b : dY) : W2:=⟨sA a b,a * b⟩
def kV (w : W2) (a b : dY) : W2:=⟨w.hi+sA a b+Ip w.lo (a * b),w.lo+a * b⟩
def qX (w : W2) : dY:=w.hi <<< 13 ||| w.lo >>> 51
theorem sB (a b : dY) : (sA a b).toNat=a.toNat * b.toNat / 18446744073709551616:=by
  unfold sA
  rw [BitVec.toNat_ofNat]
  apply Nat.mod_eq_of_lt
  have h:=Nat.mul_lt_mul'' a.isLt b.isLt
  omega
theorem zF (a b : dY) : (Ip a b).toNat=(a.toNat+b.toNat) / 18446744073709551616:=by
  unfold Ip
  rw [BitVec.toNat_ofNat]
  have:=a.isLt
  have:=b.isLt
  omega
theorem Le (a b : dY) : (yo a b).v=a.toNat * b.toNat:=by
  unfold yo W2.v
  simp only
  rw [sB,BitVec.toNat_mul]
  omega
theorem A2 {w : W2} {a b : dY} (h : w.v+a.toNat * b.toNat<340282366920938463463374607431768211456) : (kV w a b).v=w.v+a.toNat * b.toNat:=by
  unfold kV W2.v at *
  simp only at *
  rw [BitVec.toNat_add,BitVec.toNat_add,BitVec.toNat_add,zF,sB,BitVec.toNat_mul]
  generalize a.toNat * b.toNat=p at *
  have:=w.lo.isLt
  have:=w.hi.isLt
  omega
theorem pR (x y : dY) {k : Nat} (hk : k≤64) (hx : x.toNat<2 ^ k) : (y <<< k ||| x).toNat=y.toNat * 2 ^ k % 2 ^ 64+x.toNat:=by
  have e : (y.toNat * 2 ^ k % 2 ^ 64)=(y.toNat % 2 ^ (64 - k)) <<< k:=by
    rw [Nat.shiftLeft_eq,← Nat.mul_mod_mul_right,← Nat.pow_add,Nat.sub_add_cancel hk]
  rw [BitVec.toNat_or,BitVec.toNat_shiftLeft,Nat.shiftLeft_eq,e,← Nat.shiftLeft_add_eq_or_of_lt hx]
theorem sC {w : W2} (h : w.v<41538374868278621028243970633760768) : (qX w).toNat=w.v / 2251799813685248:=by
  unfold qX
  have hs:=fC w.lo
  have l:=w.lo.isLt
  rw [pR _ _ (k:=13) (by omega) (by omega),hs]
  unfold W2.v at *
  omega
def Lf (w0 w1 w2 w3 w4 : W2) : N5:=
  tJ ⟨(w0.lo &&& 2251799813685247#64)+19#64 * qX w4,(w1.lo &&& 2251799813685247#64)+qX w0,(w2.lo &&& 2251799813685247#64)+qX w1,(w3.lo &&& 2251799813685247#64)+qX w2,(w4.lo &&& 2251799813685247#64)+qX w3⟩
def di (a b : N5) : N5:=
  let f1:=19#64 * b.a1
  let f2:=19#64 * b.a2
  let f3:=19#64 * b.a3
  let f4:=19#64 * b.a4
  Lf (kV (kV (kV (kV (yo a.a0 b.a0) a.a1 f4) a.a2 f3) a.a3 f2) a.a4 f1)
    (kV (kV (kV (kV (yo a.a0 b.a1) a.a1 b.a0) a.a2 f4) a.a3 f3) a.a4 f2)
    (kV (kV (kV (kV (yo a.a0 b.a2) a.a1 b.a1) a.a2 b.a0) a.a3 f4) a.a4 f3)
    (kV (kV (kV (kV (yo a.a0 b.a3) a.a1 b.a2) a.a2 b.a1) a.a3 b.a0) a.a4 f4)
    (kV (kV (kV (kV (yo a.a0 b.a4) a.a1 b.a3) a.a2 b.a2) a.a3 b.a1) a.a4 b.a0)
theorem bT (a b : N5) : dH (di a b):=qd _
theorem JB {w0 w1 w2 w3 w4 : W2} (h0 : w0.v<5192296858534827628530496329220096) (h1 : w1.v<5192296858534827628530496329220096) (h2 : w2.v<5192296858534827628530496329220096) (h3 : w3.v<5192296858534827628530496329220096) (h4 : w4.v<324518553658426726783156020576256) :
    iT (Lf w0 w1 w2 w3 w4)=fn w0.v+rr * (fn w1.v+rr * (fn w2.v+rr * (fn w3.v+rr * fn w4.v))):=by
  have r0:=sC (w:=w0) (by omega)
  have r1:=sC (w:=w1) (by omega)
  have r2:=sC (w:=w2) (by omega)
  have r3:=sC (w:=w3) (by omega)
  have r4:=sC (w:=w4) (by omega)
  have lo : ∀ w : W2,w.lo.toNat % 2251799813685248=w.v % 2251799813685248:=fun w=>by
    unfold W2.v
    omega
  have m0:=(bR w0.lo).trans (lo w0)
  have m1:=(bR w1.lo).trans (lo w1)
  have m2:=(bR w2.lo).trans (lo w2)
  have m3:=(bR w3.lo).trans (lo w3)
  have m4:=(bR w4.lo).trans (lo w4)
  clear lo
  have f:=fD (y:=qX w4) (by omega)
  have e0:=toNat_add (x:=w0.lo &&& 2251799813685247#64) (y:=19#64 * qX w4) (by omega)
  have e1:=toNat_add (x:=w1.lo &&& 2251799813685247#64) (y:=qX w0) (by omega)
  have e2:=toNat_add (x:=w2.lo &&& 2251799813685247#64) (y:=qX w1) (by omega)
  have e3:=toNat_add (x:=w3.lo &&& 2251799813685247#64) (y:=qX w2) (by omega)
  have e4:=toNat_add (x:=w4.lo &&& 2251799813685247#64) (y:=qX w3) (by omega)
  unfold Lf
  rw [vN,← Io,← kU,← ji,← kU,← ji,← kU,← ji,← kU,← ji]
  refine vM (q:=w4.v / 2251799813685248) ?_
  unfold jo
  simp only
  rw [e0,e1,e2,e3,e4,f,m0,m1,m2,m3,m4,r0,r1,r2,r3,r4,Jz]
  clear e0 e1 e2 e3 e4 f m0 m1 m2 m3 m4 r0 r1 r2 r3 r4
  generalize w0.v=v0 at *
  generalize w1.v=v1 at *
  generalize w2.v=v2 at *
  generalize w3.v=v3 at *
  generalize w4.v=v4 at *
  omega
theorem Lg {x y : Nat} {c d : Nat} (hx : x<c) (hy : y<d) : x * y≤c * d:=Nat.mul_le_mul (Nat.le_of_lt hx) (Nat.le_of_lt hy)
theorem EK {a0 a1 a2 a3 a4 b0 b1 b2 b3 b4 : dY} (h0 : a0.toNat<2251799813947392) (h1 : a1.toNat<2251799813947392) (h2 : a2.toNat<2251799813947392) (h3 : a3.toNat<2251799813947392) (h4 : a4.toNat<2251799813947392)
    {d : Nat} (hd : d≤42784196465000448) (k0 : b0.toNat<d) (k1 : b1.toNat<d) (k2 : b2.toNat<d) (k3 : b3.toNat<d) (k4 : b4.toNat<d) :
    (kV (kV (kV (kV (yo a0 b0) a1 b1) a2 b2) a3 b3) a4 b4).v=a0.toNat * b0.toNat+a1.toNat * b1.toNat+a2.toNat * b2.toNat+a3.toNat * b3.toNat+a4.toNat * b4.toNat∧
    (kV (kV (kV (kV (yo a0 b0) a1 b1) a2 b2) a3 b3) a4 b4).v≤11258999069736960 * d:=by
  have p0:=Lg h0 k0
  have p1:=Lg h1 k1
  have p2:=Lg h2 k2
  have p3:=Lg h3 k3
  have p4:=Lg h4 k4
  have e0:=Le a0 b0
  have e1:=A2 (w:=yo a0 b0) (a:=a1) (b:=b1) (by rw [e0];omega)
  rw [e0] at e1
  have e2:=A2 (w:=kV (yo a0 b0) a1 b1) (a:=a2) (b:=b2) (by rw [e1];omega)
  rw [e1] at e2
  have e3:=A2 (w:=kV (kV (yo a0 b0) a1 b1) a2 b2) (a:=a3) (b:=b3) (by rw [e2];omega)
  rw [e2] at e3
  have e4:=A2 (w:=kV (kV (kV (yo a0 b0) a1 b1) a2 b2) a3 b3) (a:=a4) (b:=b4) (by rw [e3];omega)
  rw [e3] at e4
  refine ⟨e4,?_⟩
  rw [e4]
  omega
theorem fP {a b : N5} (ha : dH a) (hb : dH b) : iT (di a b)=iT a * iT b:=by
  obtain ⟨p0,p1,p2,p3,p4⟩:=ha
  obtain ⟨q0,q1,q2,q3,q4⟩:=hb
  have f1:=fD (y:=b.a1) (by omega)
  have f2:=fD (y:=b.a2) (by omega)
  have f3:=fD (y:=b.a3) (by omega)
  have f4:=fD (y:=b.a4) (by omega)
  have v0:=EK p0 p1 p2 p3 p4 (b0:=b.a0) (b1:=19#64 * b.a4) (b2:=19#64 * b.a3) (b3:=19#64 * b.a2) (b4:=19#64 * b.a1) (d:=42784196465000448) (by omega) (by omega) (by omega) (by omega) (by omega) (by omega)
  have v1:=EK p0 p1 p2 p3 p4 (b0:=b.a1) (b1:=b.a0) (b2:=19#64 * b.a4) (b3:=19#64 * b.a3) (b4:=19#64 * b.a2) (d:=42784196465000448) (by omega) (by omega) (by omega) (by omega) (by omega) (by omega)
  have v2:=EK p0 p1 p2 p3 p4 (b0:=b.a2) (b1:=b.a1) (b2:=b.a0) (b3:=19#64 * b.a4) (b4:=19#64 * b.a3) (d:=42784196465000448) (by omega) (by omega) (by omega) (by omega) (by omega) (by omega)
  have v3:=EK p0 p1 p2 p3 p4 (b0:=b.a3) (b1:=b.a2) (b2:=b.a1) (b3:=b.a0) (b4:=19#64 * b.a4) (d:=42784196465000448) (by omega) (by omega) (by omega) (by omega) (by omega) (by omega)
  have v4:=EK p0 p1 p2 p3 p4 (b0:=b.a4) (b1:=b.a3) (b2:=b.a2) (b3:=b.a1) (b4:=b.a0) (d:=2251799813947392) (by omega) q4 q3 q2 q1 q0
  unfold di
  simp only
  rw [JB (by have:=v0.2;omega) (by have:=v1.2;omega) (by have:=v2.2;omega) (by have:=v3.2;omega) (by have:=v4.2;omega),v0.1,v1.1,v2.1,v3.1,v4.1,f1,f2,f3,f4,EH,EH]
  simp only [ji,kU,Ld]
  have h:=NP
  generalize rr=r at *
  generalize fn a.a0.toNat=x0
  generalize fn a.a1.toNat=x1
  generalize fn a.a2.toNat=x2
  generalize fn a.a3.toNat=x3
  generalize fn a.a4.toNat=x4
  generalize fn b.a0.toNat=y0
  generalize fn b.a1.toNat=y1
  generalize fn b.a2.toNat=y2
  generalize fn b.a3.toNat=y3
  generalize fn b.a4.toNat=y4
  clear v0 v1 v2 v3 v4 f1 f2 f3 f4 p0 p1 p2 p3 p4 q0 q1 q2 q3 q4
  grobner
end dZ
end
section
namespace dZ
def nq (n : N5) : Nat→N5
  | 0=>n
  | k+1=>di (nq n k) (nq n k)
theorem Lh {n : N5} (h : dH n) : ∀ k,dH (nq n k)
  | 0=>h
  | _+1=>bT _ _
structure Pow (x : F) (n : N5) (e : Nat) : Prop where
  zy : dH n
  fv : iT n=pw x e
theorem Pow.mul {x : F} {a b : N5} {d e : Nat} (ha : Pow x a d) (hb : Pow x b e) : Pow x (di a b) (d+e):=
  ⟨bT _ _,by rw [fP ha.zy hb.zy,ha.fv,hb.fv,pY]⟩
theorem Pow.sq {x : F} {a : N5} {d : Nat} (ha : Pow x a d) : ∀ k,Pow x (nq a k) (d * 2 ^ k)
  | 0=>by rw [Nat.pow_zero,Nat.mul_one];exact ha
  | k+1=>by
    have:=(ha.sq k).mul (ha.sq k)
    rw [show d * 2 ^ (k+1)=d * 2 ^ k+d * 2 ^ k by rw [Nat.pow_succ,← Nat.mul_assoc];omega]
    exact this
theorem Pow.to {x : F} {a : N5} {d e : Nat} (h : Pow x a d) (he : Nat.beq d e=true) : Pow x a e:=Nat.eq_of_beq_eq_true he ▸ h
structure MV where
  two : N5
  nine : N5
  oq : N5
  o5 : N5
  ki : N5
  nN : N5
  sD : N5
  mj : N5
  iu : N5
  mo : N5
  pe : N5
  all : N5
def MW (n : N5) : MV:=
  let two:=nq n 1
  let nine:=di (nq two 2) n
  let oq:=di nine two
  let o5:=di (nq oq 1) nine
  let ki:=di (nq o5 5) o5
  let nN:=di (nq ki 10) ki
  let sD:=di (nq nN 20) nN
  let mj:=di (nq sD 10) ki
  let iu:=di (nq mj 50) mj
  let mo:=di (nq iu 100) iu
  let pe:=di (nq mo 50) mj
  ⟨two,nine,oq,o5,ki,nN,sD,mj,iu,mo,pe,di (nq pe 5) oq⟩
def sE (n : N5) : N5:=(MW n).all
theorem xB {n : N5} (h : dH n) : Pow (iT n) (sE n) (P - 2):=by
  have h1 : Pow (iT n) n 1:=⟨h,by show iT n=1 * iT n;grobner⟩
  have two:=h1.sq 1
  have nine:=(two.sq 2).mul h1
  have oq:=nine.mul two
  have o5:=(oq.sq 1).mul nine
  have ki:=(o5.sq 5).mul o5
  have nN:=(ki.sq 10).mul ki
  have sD:=(nN.sq 20).mul nN
  have mj:=(sD.sq 10).mul ki
  have iu:=(mj.sq 50).mul mj
  have mo:=(iu.sq 100).mul iu
  have pe:=(mo.sq 50).mul mj
  have all:=(pe.sq 5).mul oq
  have r:=all.to (e:=P - 2) (by decide +kernel)
  exact r
theorem GH {n : N5} (h : dH n) : iT (sE n)=inv (iT n):=(xB h).fv
theorem Cm {n : N5} (h : dH n) : dH (sE n):=(xB h).zy
end dZ
end
section
namespace dZ
def iP (l : List dY) (c : dY) : Nat→dY
  | 0=>c
  | i+1=>(l.getD i 0+iP l c i) >>> 51
def FM (l : List dY) (c : dY) : Nat→List dY
  | 0=>l
  | i+1=>(FM l c i).set i ((l.getD i 0+iP l c i) &&& 2251799813685247#64)
theorem A3 (l : List dY) (c : dY) : ∀ i,(FM l c i).length=l.length
  | 0=>rfl
  | i+1=>by rw [FM,List.length_set,A3 l c i]
def vO (n : N5) : N5:=
  let c:=19#64 * iP n.l 19#64 5
  ⟨(n.a0+iP n.l c 0) &&& 2251799813685247#64,(n.a1+iP n.l c 1) &&& 2251799813685247#64,(n.a2+iP n.l c 2) &&& 2251799813685247#64,(n.a3+iP n.l c 3) &&& 2251799813685247#64,(n.a4+iP n.l c 4) &&& 2251799813685247#64⟩
theorem GI (n : N5) : FM n.l (19#64 * iP n.l 19#64 5) 5=(vO n).l:=rfl
theorem EL (l : List dY) (c : dY) (i : Nat) (h : (l.getD i 0).toNat<2251799813947392) (hc : (iP l c i).toNat<2251799813947392) : (iP l c (i+1)).toNat=((l.getD i 0).toNat+(iP l c i).toNat) / 2251799813685248:=by
  rw [iP,fC,toNat_add (by omega)]
structure Li (n : N5) : Prop where
  a0 : n.a0.toNat<2251799813685248
  a1 : n.a1.toNat<2251799813685248
  a2 : n.a2.toNat<2251799813685248
  a3 : n.a3.toNat<2251799813685248
  a4 : n.a4.toNat<2251799813685248
theorem EM {n0 n1 n2 n3 n4 r0 r1 r2 r3 r4 r5 : Nat} (e1 : r1=(n0+r0) / 2251799813685248) (e2 : r2=(n1+r1) / 2251799813685248) (e3 : r3=(n2+r2) / 2251799813685248) (e4 : r4=(n3+r3) / 2251799813685248) (e5 : r5=(n4+r4) / 2251799813685248) :
    ∃ s,s<57896044618658097711785492504343953926634992332820282019728792003956564819968∧
      s=(n0+r0) % 2251799813685248+2251799813685248 * ((n1+r1) % 2251799813685248+2251799813685248 * ((n2+r2) % 2251799813685248+2251799813685248 * ((n3+r3) % 2251799813685248+2251799813685248 * ((n4+r4) % 2251799813685248))))∧
      n0+2251799813685248 * (n1+2251799813685248 * (n2+2251799813685248 * (n3+2251799813685248 * n4)))+r0=s+57896044618658097711785492504343953926634992332820282019728792003956564819968 * r5:=by
  have d0:=Nat.div_add_mod (n0+r0) 2251799813685248
  have d1:=Nat.div_add_mod (n1+r1) 2251799813685248
  have d2:=Nat.div_add_mod (n2+r2) 2251799813685248
  have d3:=Nat.div_add_mod (n3+r3) 2251799813685248
  have d4:=Nat.div_add_mod (n4+r4) 2251799813685248
  have b0:=Nat.mod_lt (n0+r0) (show 2251799813685248>0 by decide)
  have b1:=Nat.mod_lt (n1+r1) (show 2251799813685248>0 by decide)
  have b2:=Nat.mod_lt (n2+r2) (show 2251799813685248>0 by decide)
  have b3:=Nat.mod_lt (n3+r3) (show 2251799813685248>0 by decide)
  have b4:=Nat.mod_lt (n4+r4) (show 2251799813685248>0 by decide)
  rw [← e1] at d0
  rw [← e2] at d1
  rw [← e3] at d2
  rw [← e4] at d3
  rw [← e5] at d4
  clear e1 e2 e3 e4 e5
  refine ⟨_,?_,rfl,?_⟩
  · clear d0 d1 d2 d3 d4
    generalize (n0+r0) % 2251799813685248=s0 at *
    generalize (n1+r1) % 2251799813685248=s1 at *
    generalize (n2+r2) % 2251799813685248=s2 at *
    generalize (n3+r3) % 2251799813685248=s3 at *
    generalize (n4+r4) % 2251799813685248=s4 at *
    omega
  · clear b0 b1 b2 b3 b4
    generalize (n0+r0) % 2251799813685248=s0 at *
    generalize (n1+r1) % 2251799813685248=s1 at *
    generalize (n2+r2) % 2251799813685248=s2 at *
    generalize (n3+r3) % 2251799813685248=s3 at *
    generalize (n4+r4) % 2251799813685248=s4 at *
    omega
theorem Cn {v o s S r : Nat} (hv : v<115792089237316195423570985008687907853269984665640564039457584007913129639898)
    (hs : s<57896044618658097711785492504343953926634992332820282019728792003956564819968) (h1 : v+19=s+57896044618658097711785492504343953926634992332820282019728792003956564819968 * o)
    (hS : S<57896044618658097711785492504343953926634992332820282019728792003956564819968) (h2 : v+19 * o=S+57896044618658097711785492504343953926634992332820282019728792003956564819968 * r) :
    S+o * 57896044618658097711785492504343953926634992332820282019728792003956564819949=v∧S<57896044618658097711785492504343953926634992332820282019728792003956564819949:=by
  have : o=0∨o=1:=by omega
  rcases this with rfl | rfl
  · omega
  · omega
theorem zG {l : List dY} {c : dY} (h : ∀ i,(l.getD i 0).toNat<2251799813947392) (hc : c.toNat<2251799813947392) : ∀ i,(iP l c i).toNat<2251799813947392
  | 0=>hc
  | i+1=>by
    have h1:=h i
    have h2:=zG h hc i
    rw [EL l c i h1 h2]
    omega
theorem EN {n : N5} (h : dH n) : ∀ i,(n.l.getD i 0).toNat<2251799813947392
  | 0=>h.a0
  | 1=>h.a1
  | 2=>h.a2
  | 3=>h.a3
  | 4=>h.a4
  | i+5=>by
    show (0 : dY).toNat<_
    decide
theorem GJ {n : N5} (h : dH n) : Li (vO n)∧jo (vO n)=(iT n).val:=by
  have ll:=EN h
  have hr : ∀ c : dY,c.toNat<2251799813947392→∀ i,(iP n.l c (i+1)).toNat=((n.l.getD i 0).toNat+(iP n.l c i).toNat) / 2251799813685248:=fun c hc i=>EL n.l c i (ll i) (zG ll hc i)
  have hm : ∀ (c : dY) (x : dY) (i : Nat),c.toNat<2251799813947392→x.toNat<2251799813947392→((x+iP n.l c i) &&& 2251799813685247#64).toNat=(x.toNat+(iP n.l c i).toNat) % 2251799813685248:=fun c x i hc hx=>by
    have h2:=zG ll hc i
    rw [bR,toNat_add (by omega)]
  obtain ⟨p0,p1,p2,p3,p4⟩:=h
  have hb : (19#64 : dY).toNat<2251799813947392:=by decide
  obtain ⟨s,hs,_,h1⟩:=EM (n0:=n.a0.toNat) (n1:=n.a1.toNat) (n2:=n.a2.toNat) (n3:=n.a3.toNat) (n4:=n.a4.toNat) (hr _ hb 0) (hr _ hb 1) (hr _ hb 2) (hr _ hb 3) (hr _ hb 4)
  have t0 : (iP n.l 19#64 0).toNat=19:=rfl
  rw [t0] at h1
  have hv : n.a0.toNat+2251799813685248 * (n.a1.toNat+2251799813685248 * (n.a2.toNat+2251799813685248 * (n.a3.toNat+2251799813685248 * n.a4.toNat)))<115792089237316195423570985008687907853269984665640564039457584007913129639898:=by
    clear h1 hr hm ll
    omega
  have ho : (iP n.l 19#64 (4+1)).toNat≤1:=by
    clear hr hm ll
    omega
  have c:=fD (y:=iP n.l 19#64 (4+1)) (by omega)
  have hC : (19#64 * iP n.l 19#64 (4+1)).toNat<2251799813947392:=by omega
  obtain ⟨S,hS,eS,h2⟩:=EM (n0:=n.a0.toNat) (n1:=n.a1.toNat) (n2:=n.a2.toNat) (n3:=n.a3.toNat) (n4:=n.a4.toNat) (hr _ hC 0) (hr _ hC 1) (hr _ hC 2) (hr _ hC 3) (hr _ hC 4)
  have t1 : (iP n.l (19#64 * iP n.l 19#64 (4+1)) 0).toNat=19 * (iP n.l 19#64 (4+1)).toNat:=c
  have hh2:=h2
  rw [t1] at hh2
  obtain ⟨f1,f2⟩:=Cn hv hs h1 hS hh2
  have m0:=hm (19#64 * iP n.l 19#64 (4+1)) n.a0 0 hC p0
  have m1:=hm (19#64 * iP n.l 19#64 (4+1)) n.a1 1 hC p1
  have m2:=hm (19#64 * iP n.l 19#64 (4+1)) n.a2 2 hC p2
  have m3:=hm (19#64 * iP n.l 19#64 (4+1)) n.a3 3 hC p3
  have m4:=hm (19#64 * iP n.l 19#64 (4+1)) n.a4 4 hC p4
  refine ⟨⟨?_,?_,?_,?_,?_⟩,?_⟩
  · exact m0 ▸ Nat.mod_lt _ (by decide)
  · exact m1 ▸ Nat.mod_lt _ (by decide)
  · exact m2 ▸ Nat.mod_lt _ (by decide)
  · exact m3 ▸ Nat.mod_lt _ (by decide)
  · exact m4 ▸ Nat.mod_lt _ (by decide)
  · have ev : jo (vO n)=S:=by
      rw [eS]
      unfold jo
      show ((n.a0+iP n.l (19#64 * iP n.l 19#64 (4+1)) 0) &&& 2251799813685247#64).toNat+2251799813685248 * (((n.a1+iP n.l (19#64 * iP n.l 19#64 (4+1)) 1) &&& 2251799813685247#64).toNat+2251799813685248 * (((n.a2+iP n.l (19#64 * iP n.l 19#64 (4+1)) 2) &&& 2251799813685247#64).toNat+2251799813685248 * (((n.a3+iP n.l (19#64 * iP n.l 19#64 (4+1)) 3) &&& 2251799813685247#64).toNat+2251799813685248 * ((n.a4+iP n.l (19#64 * iP n.l 19#64 (4+1)) 4) &&& 2251799813685247#64).toNat)))=_
      rw [m0,m1,m2,m3,m4]
    have hf : iT n=fn S:=by
      unfold iT jo
      exact (vM (q:=(iP n.l 19#64 (4+1)).toNat) f1).symm
    rw [ev,hf,Lc f2]
end dZ
end
section
namespace dZ
theorem jB (x y : dY) {k : Nat} (hk : k≤64) (hx : x.toNat<2 ^ k) : (x ||| y <<< k).toNat=y.toNat * 2 ^ k % 2 ^ 64+x.toNat:=by
  rw [BitVec.or_comm,pR x y hk hx]
def xC (n : N5) : List dY:=[n.a0 ||| n.a1 <<< 51,n.a1 >>> 13 ||| n.a2 <<< 38,n.a2 >>> 26 ||| n.a3 <<< 25,n.a3 >>> 39 ||| n.a4 <<< 12]
def zH (w : dY) : List By:=[(w >>> 0).setWidth 8,(w >>> 8).setWidth 8,(w >>> 16).setWidth 8,(w >>> 24).setWidth 8,(w >>> 32).setWidth 8,(w >>> 40).setWidth 8,(w >>> 48).setWidth 8,(w >>> 56).setWidth 8]
theorem NQ (w : dY) (k : Nat) : ((w >>> k).setWidth 8).toNat=w.toNat / 2 ^ k % 256:=by
  rw [BitVec.toNat_setWidth,dx]
theorem vP (w : dY) : le (zH w)=w.toNat:=by
  unfold zH
  simp only [le,NQ]
  have:=w.isLt
  omega
def A4 (w : List dY) : Nat→List By
  | 0=>List.replicate 32 0
  | i+1=>(A4 w i).set i ((w.getD (i / 8) 0 >>> (i % 8 * 8)).setWidth 8)
theorem A5 (w : List dY) : ∀ i,(A4 w i).length=32
  | 0=>rfl
  | i+1=>by rw [A4,List.length_set,A5 w i]
theorem GK (a b c d : dY) : A4 [a,b,c,d] 32=zH a++(zH b++(zH c++zH d)):=by kernel_rfl
theorem JD {n : N5} (h : Li n) : A4 (xC n) 32=zA 32 (jo n):=by
  obtain ⟨p0,p1,p2,p3,p4⟩:=h
  have e0:=jB n.a0 n.a1 (k:=51) (by omega) (by omega)
  have s1:=dx n.a1 13
  have s2:=dx n.a2 26
  have s3:=dx n.a3 39
  have e1:=jB (n.a1 >>> 13) n.a2 (k:=38) (by omega) (by omega)
  have e2:=jB (n.a2 >>> 26) n.a3 (k:=25) (by omega) (by omega)
  have e3:=jB (n.a3 >>> 39) n.a4 (k:=12) (by omega) (by omega)
  unfold xC
  rw [GK]
  have l8 : ∀ w,(zH w).length=8:=fun _=>rfl
  have el : le (zH (n.a0 ||| n.a1 <<< 51)++(zH (n.a1 >>> 13 ||| n.a2 <<< 38)++(zH (n.a2 >>> 26 ||| n.a3 <<< 25)++zH (n.a3 >>> 39 ||| n.a4 <<< 12))))=jo n:=by
    rw [iS,iS,iS,l8,l8,l8,vP,vP,vP,vP,e0,e1,e2,e3,s1,s2,s3]
    unfold jo
    omega
  rw [← el]
  have:=vJ (zH (n.a0 ||| n.a1 <<< 51)++(zH (n.a1 >>> 13 ||| n.a2 <<< 38)++(zH (n.a2 >>> 26 ||| n.a3 <<< 25)++zH (n.a3 >>> 39 ||| n.a4 <<< 12))))
  exact this.symm
def Kl (n : N5) : List By:=A4 (xC (vO n)) 32
theorem JF {n : N5} (h : dH n) : Kl n=tI (iT n):=by
  have:=GJ h
  rw [Kl,JD this.1,this.2];rfl
def th (k : List By) (p : Nat) : Nat→dY
  | 0=>0
  | i+1=>th k p i ||| ((k.getD (8 * p+i) 0).setWidth 64) <<< (8 * i)
theorem sF (k : List By) (p : Nat) : ∀ i,i≤8→8 * p+i≤k.length→(th k p i).toNat=le ((k.drop (8 * p)).take i)
  | 0,_,_=>rfl
  | i+1,hi,hl=>by
    have ih:=sF k p i (by omega) (by omega)
    have lt:=Ik ((k.drop (8 * p)).take i)
    have ln : ((k.drop (8 * p)).take i).length=i:=by rw [List.length_take,List.length_drop];omega
    rw [ln,show 256 ^ i=2 ^ (8 * i) by rw [Nat.pow_mul]] at lt
    have hb : (k.drop (8 * p))[i]?=some (k.getD (8 * p+i) 0):=by
      rw [List.getElem?_drop,List.getD_eq_getElem?_getD,List.getElem?_eq_getElem (by omega)];rfl
    rw [th,jB _ _ (k:=8 * i) (by omega) (by rw [ih];exact lt),ih,List.take_add_one,hb,iS,ln,show 256 ^ i=2 ^ (8 * i) by rw [Nat.pow_mul]]
    generalize k.getD (8 * p+i) 0=x
    have hx:=x.isLt
    have hs : (x.setWidth 64).toNat=x.toNat:=by rw [BitVec.toNat_setWidth];exact Nat.mod_eq_of_lt (by omega)
    have hp : 2 ^ (8 * i)≤2 ^ 56:=Nat.pow_le_pow_right (by omega) (by omega)
    have hm : x.toNat * 2 ^ (8 * i)≤255 * 2 ^ 56:=Nat.mul_le_mul (by omega) hp
    rw [hs,Nat.mod_eq_of_lt (by omega)]
    show _=_+2 ^ (8 * i) * (x.toNat+256 * 0)
    rw [Nat.mul_zero,Nat.add_zero,Nat.mul_comm]
    omega
def zI (w0 w1 w2 w3 : dY) : N5:=⟨w0 &&& 2251799813685247#64,(w0 >>> 51 ||| w1 <<< 13) &&& 2251799813685247#64,(w1 >>> 38 ||| w2 <<< 26) &&& 2251799813685247#64,(w2 >>> 25 ||| w3 <<< 39) &&& 2251799813685247#64,w3 >>> 12 &&& 2251799813685247#64⟩
theorem A6 (w0 w1 w2 w3 : dY) : Li (zI w0 w1 w2 w3)∧jo (zI w0 w1 w2 w3)=(w0.toNat+18446744073709551616 * (w1.toNat+18446744073709551616 * (w2.toNat+18446744073709551616 * w3.toNat))) % 57896044618658097711785492504343953926634992332820282019728792003956564819968:=by
  have h0:=w0.isLt
  have h1:=w1.isLt
  have h2:=w2.isLt
  have h3:=w3.isLt
  have s0:=dx w0 51
  have s1:=dx w1 38
  have s2:=dx w2 25
  have s3:=dx w3 12
  have e1:=jB (w0 >>> 51) w1 (k:=13) (by omega) (by omega)
  have e2:=jB (w1 >>> 38) w2 (k:=26) (by omega) (by omega)
  have e3:=jB (w2 >>> 25) w3 (k:=39) (by omega) (by omega)
  have m0:=bR w0
  have m1:=bR (w0 >>> 51 ||| w1 <<< 13)
  have m2:=bR (w1 >>> 38 ||| w2 <<< 26)
  have m3:=bR (w2 >>> 25 ||| w3 <<< 39)
  have m4:=bR (w3 >>> 12)
  rw [e1,s0] at m1
  rw [e2,s1] at m2
  rw [e3,s2] at m3
  rw [s3] at m4
  refine ⟨⟨?_,?_,?_,?_,?_⟩,?_⟩
  · show (w0 &&& 2251799813685247#64).toNat<_;rw [m0];omega
  · show ((w0 >>> 51 ||| w1 <<< 13) &&& 2251799813685247#64).toNat<_;rw [m1];omega
  · show ((w1 >>> 38 ||| w2 <<< 26) &&& 2251799813685247#64).toNat<_;rw [m2];omega
  · show ((w2 >>> 25 ||| w3 <<< 39) &&& 2251799813685247#64).toNat<_;rw [m3];omega
  · show (w3 >>> 12 &&& 2251799813685247#64).toNat<_;rw [m4];omega
  · unfold jo zI
    simp only
    rw [m0,m1,m2,m3,m4]
    clear e1 e2 e3 s0 s1 s2 s3 m0 m1 m2 m3 m4
    generalize w0.toNat=x0 at *
    generalize w1.toNat=x1 at *
    generalize w2.toNat=x2 at *
    generalize w3.toNat=x3 at *
    omega
theorem Li.zy {n : N5} (h : Li n) : dH n:=by
  obtain ⟨p0,p1,p2,p3,p4⟩:=h
  exact ⟨by omega,by omega,by omega,by omega,by omega⟩
def dm (u : List By) : N5:=zI (th u 0 8) (th u 1 8) (th u 2 8) (th u 3 8)
theorem Co (u : List By) : dH (dm u):=(A6 _ _ _ _).1.zy
theorem GL {u : List By} (hu : u.length=32) : iT (dm u)=pt u:=by
  have e:=(A6 (th u 0 8) (th u 1 8) (th u 2 8) (th u 3 8)).2
  rw [sF u 0 8 (by omega) (by omega),sF u 1 8 (by omega) (by omega),sF u 2 8 (by omega) (by omega),sF u 3 8 (by omega) (by omega)] at e
  have c : ∀ l : List By,8≤l.length→le l=le (l.take 8)+18446744073709551616 * le (l.drop 8):=fun l hl=>by
    have:=iS (l.take 8) (l.drop 8)
    rw [List.take_append_drop,List.length_take,Nat.min_eq_left hl] at this
    exact this
  have c0:=c u (by omega)
  have c1:=c (u.drop 8) (by rw [List.length_drop];omega)
  have c2:=c (u.drop 16) (by rw [List.length_drop];omega)
  have c3 : le (u.drop 24)=le ((u.drop 24).take 8):=by rw [List.take_of_length_le (by rw [List.length_drop];omega)]
  rw [List.drop_drop] at c1 c2
  have hl : le u=le ((u.drop (8 * 0)).take 8)+18446744073709551616 * (le ((u.drop (8 * 1)).take 8)+18446744073709551616 * (le ((u.drop (8 * 2)).take 8)+18446744073709551616 * le ((u.drop (8 * 3)).take 8))):=by
    rw [c0]
    show _=le ((u.drop 0).take 8)+18446744073709551616 * (le ((u.drop 8).take 8)+18446744073709551616 * (le ((u.drop 16).take 8)+18446744073709551616 * le ((u.drop 24).take 8)))
    rw [← c3,← c2,← c1];rfl
  rw [← hl] at e
  unfold iT pt
  show fn _=fn _
  congr 1
end dZ
end
end Go.Proofs.YtgkninhgcpbfnaaGreatDoor
