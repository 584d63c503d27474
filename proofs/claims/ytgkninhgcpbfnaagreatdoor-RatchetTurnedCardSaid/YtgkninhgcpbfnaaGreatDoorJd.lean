/-
  Of no statement by itself: the texts CrvC, CrvD, CrvE, CrvG, CrvH, CurA, CrvJ, CurB, CurC, CrvK, CurD, CrvW, CurE, CrvM, CurF, CrvU, CrvV in one.
  Conditions: each theorem's own.
-/
import Derived.Test.YtgkninhgcpbfnaaGreatDoorJc
import Derived.Test.YtgkninhgcpbfnaaGreatDoorProg
set_option linter.unusedSimpArgs false
set_option linter.unusedVariables false
namespace Go.Proofs.YtgkninhgcpbfnaaGreatDoor
section
namespace dW
def H6 (d x1 y1 x2 y2 : F) : F:=(x2*x2*x2*x2)+(y2*y2*y2*y2)+(-2*x2*x2*y2*y2*y2*y2)+(-2*x2*x2*x2*x2*y2*y2)+(4*x2*x2*y2*y2)+(-d*d*x2*x2*x2*x2*y2*y2*y2*y2)+(-2*d*x2*x2*y2*y2)+(2*d*x2*x2*x2*x2*y2*y2*y2*y2)+(d*d*x1*x1*x2*x2*x2*x2*y2*y2*y2*y2)+(d*d*x2*x2*x2*x2*y1*y1*y2*y2*y2*y2)+(-d*x1*x1*x2*x2*y2*y2*y2*y2)+(-d*x1*x1*x2*x2*x2*x2*y2*y2)+(-d*x2*x2*y1*y1*y2*y2*y2*y2)+(-d*x2*x2*x2*x2*y1*y1*y2*y2)+(d*d*d*x1*x1*x2*x2*x2*x2*y1*y1*y2*y2*y2*y2)
def H7 (d x1 y1 x2 y2 : F) : F:=(1)+(x2*x2)+(y2*y2)+(-x1*x1*x2*x2)+(-x1*x1*y2*y2)+(-x2*x2*y1*y1)+(-y1*y1*y2*y2)+(-2*x2*x2*y2*y2)+(d*x2*x2*y2*y2)+(2*x1*x1*x2*x2*y2*y2)+(2*x2*x2*y1*y1*y2*y2)+(d*x1*x1*x1*x1*x2*x2*y2*y2)+(d*x2*x2*y1*y1*y1*y1*y2*y2)+(-2*d*x1*x1*x2*x2*y2*y2)+(-2*d*x2*x2*y1*y1*y2*y2)
theorem Gv (d x1 y1 x2 y2 : F) : (x1*y2+x2*y1)*(x1*y2+x2*y1)*((1-d*x1*x2*y1*y2)*(1-d*x1*x2*y1*y2))+(y1*y2-x1*x2)*(y1*y2-x1*x2)*((1+d*x1*x2*y1*y2)*(1+d*x1*x2*y1*y2))-(1-d*x1*x2*y1*y2)*(1-d*x1*x2*y1*y2)*((1+d*x1*x2*y1*y2)*(1+d*x1*x2*y1*y2))-d*((x1*y2+x2*y1)*(x1*y2+x2*y1))*((y1*y2-x1*x2)*(y1*y2-x1*x2))
    = H6 d x1 y1 x2 y2*(-d*x1*x1*y1*y1+x1*x1+y1*y1 - 1)+H7 d x1 y1 x2 y2*(-d*x2*x2*y2*y2+x2*x2+y2*y2 - 1):=by
  unfold H6 H7
  grobner
def K4 (d x1 y1 x2 y2 x3 y3 : F) : F:=(d*x1*x2*x2*x2*x3*y2*y2)+(d*x1*x2*x2*y2*y2*y2*y3*y3*y3)+(d*x2*x2*x3*x3*x3*y1*y2*y2*y2)+(d*x2*x2*x2*y1*y2*y2*y3*y3*y3)+(-d*x1*x2*x2*y2*y2*y2*y3)+(-d*x1*x2*x2*x2*x3*x3*x3*y2*y2)+(-d*x2*x2*x3*y1*y2*y2*y2)+(-d*x2*x2*x2*y1*y2*y2*y3)+(d*x1*x2*x3*y2*y2*y2*y2*y3*y3)+(d*d*x1*x2*x2*x2*x2*x3*x3*y2*y2*y2*y3)+(d*d*x2*x2*x2*x2*x3*y1*y2*y2*y2*y3*y3)+(d*d*x2*x2*x2*x3*x3*y1*y2*y2*y2*y2*y3)+(-d*x1*x2*x2*x2*x2*x3*x3*y2*y3)+(-d*x2*x3*x3*y1*y2*y2*y2*y2*y3)+(-d*x2*x2*x2*x2*x3*y1*y2*y3*y3)+(-d*d*x1*x2*x2*x2*x3*y2*y2*y2*y2*y3*y3)
def K5 (d x1 y1 x2 y2 x3 y3 : F) : F:=(x1*x2*x3*x3*x3)+(x1*y2*y3)+(x1*x1*x1*x2*x3)+(x2*y1*y3)+(x2*y1*y1*y1*y3*y3*y3)+(x3*y1*y2)+(x1*x1*x1*y2*y3*y3*y3)+(x3*x3*x3*y1*y1*y1*y2)+(-x1*x2*x3)+(-x1*y2*y3*y3*y3)+(-x2*y1*y3*y3*y3)+(-x2*y1*y1*y1*y3)+(-x1*x1*x1*x2*x3*x3*x3)+(-x3*y1*y1*y1*y2)+(-x3*x3*x3*y1*y2)+(-x1*x1*x1*y2*y3)+(x1*x2*x3*y1*y1)+(x1*x2*x3*y3*y3)+(x1*y1*y1*y2*y3*y3*y3)+(x1*x1*x2*y1*y3*y3*y3)+(x2*x3*x3*y1*y1*y1*y3)+(x3*y1*y1*y1*y2*y3*y3)+(x1*x1*x3*x3*x3*y1*y2)+(x1*x1*x1*x3*x3*y2*y3)+(-x1*x2*x3*x3*x3*y1*y1)+(-x1*x3*x3*y2*y3)+(-x1*y1*y1*y2*y3)+(-x1*x1*x1*x2*x3*y3*y3)+(-x1*x1*x2*y1*y3)+(-x2*x3*x3*y1*y3)+(-x1*x1*x3*y1*y2)+(-x3*y1*y2*y3*y3)+(d*x1*x3*x3*y2*y3*y3*y3)+(d*x2*x3*x3*y1*y3*y3*y3)+(d*x1*x1*x1*x2*x3*x3*x3*y3*y3)+(d*x3*x3*x3*y1*y2*y3*y3)+(x1*x3*x3*y1*y1*y2*y3)+(x1*x1*x2*x3*x3*y1*y3)+(x1*x1*x3*y1*y2*y3*y3)+(-d*x1*x2*x3*x3*x3*y3*y3)+(-d*x2*x3*x3*y1*y1*y1*y3*y3*y3)+(-d*x1*x1*x1*x3*x3*y2*y3*y3*y3)+(-d*x3*x3*x3*y1*y1*y1*y2*y3*y3)+(-x1*x2*x3*y1*y1*y3*y3)+(d*x1*x2*x3*y2*y2*y3*y3)+(d*x1*x2*x3*x3*x3*y1*y1*y3*y3)+(d*x2*x3*x3*y1*y1*y1*y2*y2*y3)+(d*x2*x2*x3*y1*y1*y1*y2*y3*y3)+(d*x1*x1*x1*x2*x2*x3*x3*y2*y3)+(-d*x1*x2*x2*x3*x3*y2*y3)+(-d*x1*x3*x3*y1*y1*y2*y3*y3*y3)+(-d*x1*x1*x1*x2*x3*y2*y2*y3*y3)+(-d*x2*x3*x3*y1*y2*y2*y3)+(-d*x1*x1*x2*x3*x3*y1*y3*y3*y3)+(-d*x2*x2*x3*y1*y2*y3*y3)+(-d*x1*x1*x3*x3*x3*y1*y2*y3*y3)+(d*x1*x2*x2*x3*x3*y1*y1*y2*y3)+(d*x1*x1*x2*x3*x3*y1*y2*y2*y3)+(d*x1*x1*x2*x2*x3*y1*y2*y3*y3)+(d*d*x1*x2*x3*x3*x3*y1*y1*y2*y2*y3*y3)+(-d*x1*x2*x3*y1*y1*y2*y2*y3*y3)+(-d*d*x1*x2*x2*x3*x3*y1*y1*y2*y3*y3*y3)+(-d*d*x1*x1*x2*x3*x3*y1*y2*y2*y3*y3*y3)+(-d*d*x1*x1*x2*x2*x3*x3*x3*y1*y2*y3*y3)
def K6 (d x1 y1 x2 y2 x3 y3 : F) : F:=(x1*x2*x3)+(x1*y2*y2*y2*y3)+(x2*y1*y1*y1*y3)+(x3*y1*y2*y2*y2)+(x3*y1*y1*y1*y2)+(x1*x1*x1*x2*x2*x2*x3)+(x2*x2*x2*y1*y3)+(x1*x1*x1*y2*y3)+(-x1*x2*x2*x2*x3)+(-x1*y2*y3)+(-x1*x1*x1*x2*x3)+(-x2*y1*y3)+(-x3*y1*y2)+(-x3*y1*y1*y1*y2*y2*y2)+(-x1*x1*x1*y2*y2*y2*y3)+(-x2*x2*x2*y1*y1*y1*y3)+(x1*x2*x2*x2*x3*y1*y1)+(x1*x2*x2*y2*y3)+(x1*y1*y1*y2*y3)+(x1*x1*x1*x2*x3*y2*y2)+(x1*x1*x2*y1*y3)+(x2*y1*y2*y2*y3)+(x1*x1*x3*y1*y2)+(x2*x2*x3*y1*y2)+(-x1*x2*x3*y1*y1)+(-x1*x2*x3*y2*y2)+(-x1*y1*y1*y2*y2*y2*y3)+(-x2*y1*y1*y1*y2*y2*y3)+(-x1*x1*x3*y1*y2*y2*y2)+(-x2*x2*x3*y1*y1*y1*y2)+(-x1*x1*x2*x2*x2*y1*y3)+(-x1*x1*x1*x2*x2*y2*y3)+(x1*x2*x3*y1*y1*y2*y2)+(-x1*x2*x2*y1*y1*y2*y3)+(-x1*x1*x2*y1*y2*y2*y3)+(-x1*x1*x2*x2*x3*y1*y2)+(d*x1*x2*x2*y1*y1*y2*y3)+(d*x1*x1*x2*y1*y2*y2*y3)+(d*x1*x1*x2*x2*x3*y1*y2)+(-d*x1*x2*x3*y1*y1*y2*y2)
theorem Je (d x1 y1 x2 y2 x3 y3 : F) : ((x1*y2+x2*y1)*(1-d*x1*x2*y1*y2)*y3+x3*(y1*y2-x1*x2)*(1+d*x1*x2*y1*y2))*((1-d*x2*x3*y2*y3)*(1+d*x2*x3*y2*y3)+d*x1*(x2*y3+x3*y2)*y1*(y2*y3-x2*x3))-(x1*(y2*y3-x2*x3)*(1+d*x2*x3*y2*y3)+(x2*y3+x3*y2)*y1*(1-d*x2*x3*y2*y3))*((1-d*x1*x2*y1*y2)*(1+d*x1*x2*y1*y2)+d*(x1*y2+x2*y1)*x3*(y1*y2-x1*x2)*y3)
    = K4 d x1 y1 x2 y2 x3 y3*(-d*x1*x1*y1*y1+x1*x1+y1*y1 - 1)+K5 d x1 y1 x2 y2 x3 y3*(-d*x2*x2*y2*y2+x2*x2+y2*y2 - 1)+K6 d x1 y1 x2 y2 x3 y3*(-d*x3*x3*y3*y3+x3*x3+y3*y3 - 1):=by
  unfold K4 K5 K6
  grobner
def K7 (d x1 y1 x2 y2 x3 y3 : F) : F:=(d*x1*x2*x2*x3*y2*y2*y2)+(d*x1*x2*x2*x2*y2*y2*y3)+(d*x2*x2*x2*x3*y1*y2*y2)+(d*x2*x2*y1*y2*y2*y2*y3*y3*y3)+(-d*x1*x2*x2*x3*x3*x3*y2*y2*y2)+(-d*x1*x2*x2*x2*y2*y2*y3*y3*y3)+(-d*x2*x2*y1*y2*y2*y2*y3)+(-d*x2*x2*x2*x3*x3*x3*y1*y2*y2)+(d*x1*x2*x3*x3*y2*y2*y2*y2*y3)+(d*x1*x2*x2*x2*x2*x3*y2*y3*y3)+(d*x2*x3*y1*y2*y2*y2*y2*y3*y3)+(d*d*x2*x2*x2*x2*x3*x3*y1*y2*y2*y2*y3)+(-d*x2*x2*x2*x2*x3*x3*y1*y2*y3)+(-d*d*x1*x2*x2*x2*x2*x3*y2*y2*y2*y3*y3)+(-d*d*x1*x2*x2*x2*x3*x3*y2*y2*y2*y2*y3)+(-d*d*x2*x2*x2*x3*y1*y2*y2*y2*y2*y3*y3)
def K8 (d x1 y1 x2 y2 x3 y3 : F) : F:=(x1*x2*y3*y3*y3)+(x1*x3*x3*x3*y2)+(x2*x3*y1*y1*y1)+(x2*x3*x3*x3*y1)+(x1*x1*x1*x2*y3)+(x1*x1*x1*x3*y2)+(y1*y2*y3)+(y1*y1*y1*y2*y3*y3*y3)+(-x1*x2*y3)+(-x1*x3*y2)+(-x2*x3*y1)+(-x1*x1*x1*x2*y3*y3*y3)+(-x2*x3*x3*x3*y1*y1*y1)+(-y1*y2*y3*y3*y3)+(-y1*y1*y1*y2*y3)+(-x1*x1*x1*x3*x3*x3*y2)+(x1*x2*x3*x3*y3)+(x1*x2*y1*y1*y3)+(x1*x3*y1*y1*y2)+(x1*x3*y2*y3*y3)+(x1*x1*x2*x3*y1)+(x2*x3*y1*y3*y3)+(x1*x1*y1*y2*y3*y3*y3)+(x3*x3*y1*y1*y1*y2*y3)+(-x1*x2*y1*y1*y3*y3*y3)+(-x1*x3*x3*x3*y1*y1*y2)+(-x2*x3*y1*y1*y1*y3*y3)+(-x1*x1*x2*x3*x3*x3*y1)+(-x1*x1*x1*x2*x3*x3*y3)+(-x1*x1*x1*x3*y2*y3*y3)+(-x1*x1*y1*y2*y3)+(-x3*x3*y1*y2*y3)+(d*x1*x1*x1*x2*x3*x3*y3*y3*y3)+(d*x2*x3*x3*x3*y1*y1*y1*y3*y3)+(d*x3*x3*y1*y2*y3*y3*y3)+(d*x1*x1*x1*x3*x3*x3*y2*y3*y3)+(x1*x1*x3*x3*y1*y2*y3)+(-d*x1*x2*x3*x3*y3*y3*y3)+(-d*x1*x3*x3*x3*y2*y3*y3)+(-d*x2*x3*x3*x3*y1*y3*y3)+(-d*x3*x3*y1*y1*y1*y2*y3*y3*y3)+(-x1*x2*x3*x3*y1*y1*y3)+(-x1*x3*y1*y1*y2*y3*y3)+(-x1*x1*x2*x3*y1*y3*y3)+(d*x1*x2*x3*x3*y2*y2*y3)+(d*x1*x2*x3*x3*y1*y1*y3*y3*y3)+(d*x1*x2*x2*x3*y2*y3*y3)+(d*x1*x3*x3*x3*y1*y1*y2*y3*y3)+(d*x2*x3*y1*y2*y2*y3*y3)+(d*x1*x1*x2*x3*x3*x3*y1*y3*y3)+(d*x2*x2*x3*x3*y1*y1*y1*y2*y3)+(-d*x2*x3*y1*y1*y1*y2*y2*y3*y3)+(-d*x1*x1*x1*x2*x3*x3*y2*y2*y3)+(-d*x1*x1*x1*x2*x2*x3*y2*y3*y3)+(-d*x2*x2*x3*x3*y1*y2*y3)+(-d*x1*x1*x3*x3*y1*y2*y3*y3*y3)+(d*x1*x1*x2*x2*x3*x3*y1*y2*y3)+(d*d*x1*x2*x3*x3*y1*y1*y2*y2*y3*y3*y3)+(d*d*x1*x2*x2*x3*x3*x3*y1*y1*y2*y3*y3)+(d*d*x1*x1*x2*x3*x3*x3*y1*y2*y2*y3*y3)+(-d*x1*x2*x3*x3*y1*y1*y2*y2*y3)+(-d*x1*x2*x2*x3*y1*y1*y2*y3*y3)+(-d*x1*x1*x2*x3*y1*y2*y2*y3*y3)+(-d*d*x1*x1*x2*x2*x3*x3*y1*y2*y3*y3*y3)
def K9 (d x1 y1 x2 y2 x3 y3 : F) : F:=(x1*x2*y3)+(x1*x3*y2)+(x2*x3*y1)+(x1*x1*x1*x3*y2*y2*y2)+(x2*x2*x2*x3*y1*y1*y1)+(y1*y2*y2*y2*y3)+(y1*y1*y1*y2*y3)+(x1*x1*x1*x2*x2*x2*y3)+(-x1*x3*y2*y2*y2)+(-x1*x2*x2*x2*y3)+(-x2*x3*y1*y1*y1)+(-x1*x1*x1*x2*y3)+(-x2*x2*x2*x3*y1)+(-x1*x1*x1*x3*y2)+(-y1*y2*y3)+(-y1*y1*y1*y2*y2*y2*y3)+(x1*x3*y1*y1*y2*y2*y2)+(x1*x2*x2*x2*y1*y1*y3)+(x2*x3*y1*y1*y1*y2*y2)+(x1*x1*x1*x2*y2*y2*y3)+(x1*x1*x2*x2*x2*x3*y1)+(x1*x1*x1*x2*x2*x3*y2)+(x1*x1*y1*y2*y3)+(x2*x2*y1*y2*y3)+(-x1*x2*y1*y1*y3)+(-x1*x2*y2*y2*y3)+(-x1*x2*x2*x3*y2)+(-x1*x3*y1*y1*y2)+(-x1*x1*x2*x3*y1)+(-x2*x3*y1*y2*y2)+(-x1*x1*y1*y2*y2*y2*y3)+(-x2*x2*y1*y1*y1*y2*y3)+(x1*x2*y1*y1*y2*y2*y3)+(x1*x2*x2*x3*y1*y1*y2)+(x1*x1*x2*x3*y1*y2*y2)+(-x1*x1*x2*x2*y1*y2*y3)+(d*x1*x1*x2*x2*y1*y2*y3)+(-d*x1*x2*y1*y1*y2*y2*y3)+(-d*x1*x2*x2*x3*y1*y1*y2)+(-d*x1*x1*x2*x3*y1*y2*y2)
theorem Jf (d x1 y1 x2 y2 x3 y3 : F) : ((y1*y2-x1*x2)*(1+d*x1*x2*y1*y2)*y3-(x1*y2+x2*y1)*x3*(1-d*x1*x2*y1*y2))*((1-d*x2*x3*y2*y3)*(1+d*x2*x3*y2*y3)-d*x1*(x2*y3+x3*y2)*y1*(y2*y3-x2*x3))-(y1*(y2*y3-x2*x3)*(1+d*x2*x3*y2*y3)-x1*(x2*y3+x3*y2)*(1-d*x2*x3*y2*y3))*((1-d*x1*x2*y1*y2)*(1+d*x1*x2*y1*y2)-d*(x1*y2+x2*y1)*x3*(y1*y2-x1*x2)*y3)
    = K7 d x1 y1 x2 y2 x3 y3*(-d*x1*x1*y1*y1+x1*x1+y1*y1 - 1)+K8 d x1 y1 x2 y2 x3 y3*(-d*x2*x2*y2*y2+x2*x2+y2*y2 - 1)+K9 d x1 y1 x2 y2 x3 y3*(-d*x3*x3*y3*y3+x3*x3+y3*y3 - 1):=by
  unfold K7 K8 K9
  grobner
def AU (d y1 x2 y2 : F) : F:=(4*x2*x2*y1*y2)+(-4*d*x2*x2*y1*y2*y2*y2)
def AV (y1 y2 : F) : F:=(-4*y1*y1*y1*y2)+(4*y1*y2)
theorem Ci (d x1 y1 x2 y2 : F) : ((1-d*x1*x2*y1*y2+y1*y2-x1*x2)*(1+d*x1*x2*y1*y2+y1*y2+x1*x2))*((y1-y2)*(y1-y2))-((1-d*x1*x2*y1*y2-y1*y2+x1*x2)*(1+d*x1*x2*y1*y2-y1*y2-x1*x2))*((y1+y2)*(y1+y2))
    = AU d y1 x2 y2*(-d*x1*x1*y1*y1+x1*x1+y1*y1 - 1)+AV y1 y2*(-d*x2*x2*y2*y2+x2*x2+y2*y2 - 1):=by
  unfold AU AV
  grobner
end dW
end
section
namespace dW
def NS (d : F) : Prop:=∀ t,t * t≠d
def On (d : F) (p : F × F) : Prop:=p.1 * p.1+p.2 * p.2=1+d * p.1 * p.1 * p.2 * p.2
def kk (d : F) (p q : F × F) : F:=d * p.1 * q.1 * p.2 * q.2
theorem den {d : F} {p q : F × F} (ns : NS d) (hp : On d p) (hq : On d q) {ε : F} (hε : ε * ε=1) : kk d p q≠ε:=by
  obtain ⟨x1,y1⟩:=p
  obtain ⟨x2,y2⟩:=q
  unfold kk On at *
  simp only at *
  intro h
  have e1 : (x1+ε * y1) * (x1+ε * y1)=d * (x1 * y1) * (x1 * y1) * ((x2+y2) * (x2+y2)):=by grobner
  have e2 : (x1 - ε * y1) * (x1 - ε * y1)=d * (x1 * y1) * (x1 * y1) * ((x2 - y2) * (x2 - y2)):=by grobner
  have one : (1 : F)≠0:=by decide
  have n0 : x1 * y1≠0:=fun z=>one (by grobner)
  have step : ∀ a b : F,a * a=d * (x1 * y1) * (x1 * y1) * (b * b)→b=0:=fun a b e=>by
    refine Classical.byContradiction fun hb=>?_
    have i:=ew (dx n0 hb)
    exact ns (a * inv (x1 * y1 * b)) (by grobner)
  have z1:=step _ _ e1
  have z2:=step _ _ e2
  have z3 : (2 : F) * x2=0:=by grobner
  have z4 : x2=0:=(mul_zero z3).elim (fun h=>absurd h pK) id
  exact one (by grobner)
theorem rW {d : F} {p q : F × F} (ns : NS d) (hp : On d p) (hq : On d q) : 1+kk d p q≠0:=fun h=>
  den ns hp hq (ε:=-1) (by decide) (by grobner)
theorem nv {d : F} {p q : F × F} (ns : NS d) (hp : On d p) (hq : On d q) : 1 - kk d p q≠0:=fun h=>
  den ns hp hq (ε:=1) (by decide) (by grobner)
def add (d : F) (p q : F × F) : F × F:=((p.1 * q.2+q.1 * p.2) * inv (1+kk d p q),(p.2 * q.2 - p.1 * q.1) * inv (1 - kk d p q))
theorem uw {d : F} {p q : F × F} (ns : NS d) (hp : On d p) (hq : On d q) : (add d p q).1 * (1+kk d p q)=p.1 * q.2+q.1 * p.2:=by
  have:=ew (rW ns hp hq)
  show (p.1 * q.2+q.1 * p.2) * inv (1+kk d p q) * (1+kk d p q)=_
  generalize inv (1+kk d p q)=i at *
  generalize kk d p q=k at *
  grobner
theorem nw {d : F} {p q : F × F} (ns : NS d) (hp : On d p) (hq : On d q) : (add d p q).2 * (1 - kk d p q)=p.2 * q.2 - p.1 * q.1:=by
  have:=ew (nv ns hp hq)
  show (p.2 * q.2 - p.1 * q.1) * inv (1 - kk d p q) * (1 - kk d p q)=_
  generalize inv (1 - kk d p q)=i at *
  generalize kk d p q=k at *
  grobner
theorem Jg {a b c0 c1 z0 z1 : F} (h : a - b=c0 * z0+c1 * z1) (h0 : z0=0) (h1 : z1=0) : a=b:=by grobner
theorem Gw {a c0 c1 z0 z1 : F} (h : a=c0 * z0+c1 * z1) (h0 : z0=0) (h1 : z1=0) : a=0:=by grobner
theorem xD {a b c0 c1 c2 z0 z1 z2 : F} (h : a - b=c0 * z0+c1 * z1+c2 * z2) (h0 : z0=0) (h1 : z1=0) (h2 : z2=0) : a=b:=by grobner
theorem ju {d x y : F} (h : x * x+y * y=1+d * x * x * y * y) : -d*x*x*y*y+x*x+y*y - 1=0:=by grobner
theorem Jh {d k a b x y : F} (hx : x * (1+k)=a) (hy : y * (1 - k)=b)
    (c : a * a * ((1 - k) * (1 - k))+b * b * ((1+k) * (1+k)) - (1 - k) * (1 - k) * ((1+k) * (1+k)) - d * (a * a) * (b * b)=0) :
    (1+k) * (1 - k) * ((1+k) * (1 - k)) * (x * x+y * y)=(1+k) * (1 - k) * ((1+k) * (1 - k)) * (1+d * x * x * y * y):=by
  subst hx
  subst hy
  grobner
theorem zK {d : F} {p q : F × F} (ns : NS d) (hp : On d p) (hq : On d q) : On d (add d p q):=by
  have hx:=uw ns hp hq
  have hy:=nw ns hp hq
  have nn:=dx (rW ns hp hq) (nv ns hp hq)
  exact cancel (dx nn nn) (Jh hx hy (Gw (Gv d p.1 p.2 q.1 q.2) (ju hp) (ju hq)))
theorem H8 {d k a b x y u v : F} (h1 : x * (1+k)=a) (h2 : y * (1 - k)=b) : (1 - k) * (1+k)+d * a * u * b * v=(1 - k) * (1+k) * (1+d * x * u * y * v):=by
  subst h1
  subst h2
  grobner
theorem Er {d k a b x y u v l : F} (h1 : x * (1+k)=a) (h2 : y * (1 - k)=b) (hl : l * (1+d * x * u * y * v)=x * v+u * y) : l * ((1 - k) * (1+k)+d * a * u * b * v)=a * (1 - k) * v+u * b * (1+k):=by
  rw [H8 h1 h2]
  subst h1
  subst h2
  generalize 1+d * x * u * y * v=z at *
  grobner
theorem Es {d k a b x y u v l : F} (h1 : x * (1+k)=a) (h2 : y * (1 - k)=b) (hl : l * (1 - d * x * u * y * v)=y * v - x * u) : l * ((1 - k) * (1+k) - d * a * u * b * v)=b * (1+k) * v - a * u * (1 - k):=by
  have e : (1 - k) * (1+k) - d * a * u * b * v=(1 - k) * (1+k) * (1 - d * x * u * y * v):=by
    subst h1
    subst h2
    grobner
  rw [e]
  subst h1
  subst h2
  generalize 1 - d * x * u * y * v=z at *
  grobner
theorem Ji {d k a b x y u v l : F} (h1 : x * (1+k)=a) (h2 : y * (1 - k)=b) (hl : l * (1+d * u * x * v * y)=u * y+x * v) : l * ((1 - k) * (1+k)+d * u * a * v * b)=u * b * (1+k)+a * v * (1 - k):=by
  have e:=Er h1 h2 (l:=l) (d:=d) (u:=u) (v:=v) (by clear h1 h2;grobner)
  clear h1 h2 hl
  grobner
theorem Jj {d k a b x y u v l : F} (h1 : x * (1+k)=a) (h2 : y * (1 - k)=b) (hl : l * (1 - d * u * x * v * y)=v * y - u * x) : l * ((1 - k) * (1+k) - d * u * a * v * b)=v * b * (1+k) - u * a * (1 - k):=by
  have e:=Es h1 h2 (l:=l) (d:=d) (u:=u) (v:=v) (by clear h1 h2;grobner)
  clear h1 h2 hl
  grobner
theorem H9 {d k a b x y u v : F} (h1 : x * (1+k)=a) (h2 : y * (1 - k)=b) (n1 : 1+k≠0) (n2 : 1 - k≠0) (n3 : 1+d * x * u * y * v≠0) : (1 - k) * (1+k)+d * a * u * b * v≠0:=by
  rw [H8 h1 h2]
  exact dx (dx n2 n1) n3
theorem Ia {d k a b x y u v : F} (h1 : x * (1+k)=a) (h2 : y * (1 - k)=b) (n1 : 1+k≠0) (n2 : 1 - k≠0) (n3 : 1 - d * x * u * y * v≠0) : (1 - k) * (1+k) - d * a * u * b * v≠0:=by
  have e : (1 - k) * (1+k) - d * a * u * b * v=(1 - k) * (1+k) * (1 - d * x * u * y * v):=by
    subst h1
    subst h2
    clear n1 n2 n3
    grobner
  rw [e]
  exact dx (dx n2 n1) n3
theorem Jk {d k a b x y u v : F} (h1 : x * (1+k)=a) (h2 : y * (1 - k)=b) (n1 : 1+k≠0) (n2 : 1 - k≠0) (n3 : 1+d * u * x * v * y≠0) : (1 - k) * (1+k)+d * u * a * v * b≠0:=by
  have e : ∀ x y : F,d * u * x * v * y=d * x * u * y * v:=fun x y=>by clear h1 h2 n1 n2 n3;grobner
  rw [e]
  exact H9 h1 h2 n1 n2 (by rw [← e];exact n3)
theorem Jl {d k a b x y u v : F} (h1 : x * (1+k)=a) (h2 : y * (1 - k)=b) (n1 : 1+k≠0) (n2 : 1 - k≠0) (n3 : 1 - d * u * x * v * y≠0) : (1 - k) * (1+k) - d * u * a * v * b≠0:=by
  have e : ∀ x y : F,d * u * x * v * y=d * x * u * y * v:=fun x y=>by clear h1 h2 n1 n2 n3;grobner
  rw [e]
  exact Ia h1 h2 n1 n2 (by rw [← e];exact n3)
theorem Ib {l r a b c e : F} (h1 : l * b=a) (h2 : r * e=c) (h : a * e=c * b) (n1 : b≠0) (n2 : e≠0) : l=r:=by
  refine cancel (dx n1 n2) ?_
  subst h1
  subst h2
  grobner
theorem assoc {d : F} {p q r : F × F} (ns : NS d) (hp : On d p) (hq : On d q) (hr : On d r) : add d (add d p q) r=add d p (add d q r):=by
  have h12:=zK ns hp hq
  have h23:=zK ns hq hr
  have a1:=uw ns hp hq
  have a2:=nw ns hp hq
  have b1:=uw ns hq hr
  have b2:=nw ns hq hr
  have l1:=uw ns h12 hr
  have l2:=nw ns h12 hr
  have r1:=uw ns hp h23
  have r2:=nw ns hp h23
  have np:=rW ns hp hq
  have nm:=nv ns hp hq
  have mp:=rW ns hq hr
  have mm:=nv ns hq hr
  have lp:=rW ns h12 hr
  have lm:=nv ns h12 hr
  have rp:=rW ns hp h23
  have rm:=nv ns hp h23
  have cx:=xD (Je d p.1 p.2 q.1 q.2 r.1 r.2) (ju hp) (ju hq) (ju hr)
  have cy:=xD (Jf d p.1 p.2 q.1 q.2 r.1 r.2) (ju hp) (ju hq) (ju hr)
  generalize add d (add d p q) r=l at *
  generalize add d p (add d q r)=t at *
  generalize add d p q=s at *
  generalize add d q r=w at *
  obtain ⟨x1,y1⟩:=p
  obtain ⟨x2,y2⟩:=q
  obtain ⟨x3,y3⟩:=r
  obtain ⟨x12,y12⟩:=s
  obtain ⟨x23,y23⟩:=w
  obtain ⟨lx,ly⟩:=l
  obtain ⟨tx,ty⟩:=t
  unfold kk On at *
  simp only at *
  clear hp hq hr h12 h23
  generalize d * x1 * x2 * y1 * y2=k at *
  generalize d * x2 * x3 * y2 * y3=m at *
  generalize x1 * y2+x2 * y1=nx at *
  generalize y1 * y2 - x1 * x2=ny at *
  generalize x2 * y3+x3 * y2=mx at *
  generalize y2 * y3 - x2 * x3=my at *
  have ex : lx=tx:=Ib (Er a1 a2 l1) (Ji b1 b2 r1) cx (H9 a1 a2 np nm lp) (Jk b1 b2 mp mm rp)
  have ey : ly=ty:=Ib (Es a1 a2 l2) (Jj b1 b2 r2) cy (Ia a1 a2 np nm lm) (Jl b1 b2 mp mm rm)
  rw [ex,ey]
theorem add_comm (d : F) (p q : F × F) : add d p q=add d q p:=by
  have e : kk d p q=kk d q p:=by unfold kk;grobner
  unfold add
  rw [e]
  apply Prod.ext
  · show (p.1 * q.2+q.1 * p.2) * _=(q.1 * p.2+p.1 * q.2) * _
    congr 1
    grobner
  · show (p.2 * q.2 - p.1 * q.1) * _=(q.2 * p.2 - q.1 * p.1) * _
    congr 1
    grobner
def O : F × F:=(0,1)
theorem MP (d : F) : On d O:=by
  show (0 : F) * 0+1 * 1=1+d * 0 * 0 * 1 * 1
  grobner
theorem inv_one : inv 1=1:=by
  have:=ew (x:=1) (by decide)
  grobner
theorem xE (d : F) (p : F × F) : add d O p=p:=by
  have e : kk d O p=0:=by show d * 0 * p.1 * 1 * p.2=0;grobner
  unfold add
  rw [e]
  have e1 : (1+0 : F)=1:=by decide
  have e2 : (1 - 0 : F)=1:=by decide
  rw [e1,e2,inv_one]
  apply Prod.ext
  · show (0 * p.2+p.1 * 1) * 1=p.1
    grobner
  · show (1 * p.2 - 0 * p.1) * 1=p.2
    grobner
def neg (p : F × F) : F × F:=(-p.1,p.2)
theorem lO {d : F} {p : F × F} (h : On d p) : On d (neg p):=by
  show -p.1 * -p.1+p.2 * p.2=1+d * -p.1 * -p.1 * p.2 * p.2
  unfold On at h
  grobner
theorem add_neg {d : F} {p : F × F} (ns : NS d) (h : On d p) : add d p (neg p)=O:=by
  have x:=uw ns h (lO h)
  have y:=nw ns h (lO h)
  have n1:=rW ns h (lO h)
  have n2:=nv ns h (lO h)
  generalize add d p (neg p)=r at *
  obtain ⟨rx,ry⟩:=r
  obtain ⟨px,py⟩:=p
  unfold neg kk On at *
  simp only at *
  have ex : rx=0:=by
    refine cancel n1 ?_
    generalize 1+d * px * -px * py * py=z at *
    grobner
  have ey : ry=1:=by
    refine cancel n2 ?_
    have : 1 - d * px * -px * py * py=py * py - px * -px:=by clear x y n1 n2 ex;grobner
    rw [← this] at y
    generalize 1 - d * px * -px * py * py=z at *
    clear x n1 n2 this ex h
    grobner
  rw [ex,ey];rfl
def nP (d : F) (p : F × F) : Nat→F × F
  | 0=>O
  | n+1=>add d (nP d p n) p
theorem rX {d : F} {p : F × F} (ns : NS d) (h : On d p) : ∀ n,On d (nP d p n)
  | 0=>MP d
  | n+1=>zK ns (rX ns h n) h
theorem vD {d : F} {p : F × F} (ns : NS d) (h : On d p) (m : Nat) : ∀ n,nP d p (m+n)=add d (nP d p m) (nP d p n)
  | 0=>by
    show nP d p m=add d (nP d p m) O
    rw [add_comm,xE]
  | n+1=>by
    show add d (nP d p (m+n)) p=add d (nP d p m) (add d (nP d p n) p)
    rw [vD ns h m n,assoc ns (rX ns h m) (rX ns h n) h]
theorem vE {d : F} {p : F × F} (ns : NS d) (h : On d p) (m : Nat) : ∀ n,nP d (nP d p m) n=nP d p (m * n)
  | 0=>rfl
  | n+1=>by
    show add d (nP d (nP d p m) n) (nP d p m)=nP d p (m * n+m)
    rw [vE ns h m n,vD ns h]
theorem Gx {d : F} {p : F × F} (ns : NS d) (h : On d p) (m n : Nat) : nP d (nP d p m) n=nP d (nP d p n) m:=by
  rw [vE ns h,vE ns h,Nat.mul_comm]
end dW
end
section
namespace dW
structure L4 where
  x2 : F
  z2 : F
  x3 : F
  z3 : F
def core (x1 : F) (s : L4) : L4:=
  let a:=s.x2+s.z2
  let b:=s.x2 - s.z2
  let c:=s.x3+s.z3
  let d:=s.x3 - s.z3
  let da:=d * a
  let cb:=c * b
  let aa:=a * a
  let bb:=b * b
  let e:=aa - bb
  ⟨aa * bb,e * (aa+121665 * e),(da+cb) * (da+cb),x1 * ((da - cb) * (da - cb))⟩
def swap (b : Bool) (s : L4) : L4:=if b then ⟨s.x3,s.z3,s.x2,s.z2⟩ else s
def ux (x1 : F) (k : Nat) : Nat→L4→L4
  | 0,s=>s
  | n+1,s=>ux x1 k n (swap (k.testBit n) (core x1 (swap (k.testBit n) s)))
def qy (k : Nat) (u : F) : F:=(ux u k 255 ⟨1,0,u,1⟩).x2 * inv (ux u k 255 ⟨1,0,u,1⟩).z2
def Dc (σ y X Z : F) : Prop:=∃ l,l≠0∧X=l * (1+y)∧Z=l * (σ * (1 - y))
structure Et (σ d : F) : Prop where
  one : σ * σ=1
  num : d * (σ * ca+2)=σ * ca - 2
  ns : NS d
theorem vF {σ y X Z : F} (h1 : σ * σ=1) (h : σ * (1+y) * Z=(1 - y) * X) (n : X=0→Z=0→False) : Dc σ y X Z:=by
  have h2:=ew pK
  refine ⟨(X+σ * Z) * inv 2,fun z=>?_,?_,?_⟩
  · have z1 : X+σ * Z=0:=by
      refine (mul_zero z).elim id fun e=>?_
      rw [e] at h2
      have one : (1 : F)≠0:=by decide
      exact absurd (by grobner) one
    have e : (2 : F) * X=0:=by
      clear z h2 n
      grobner
    have e1 : X=0:=(mul_zero e).elim (fun h=>absurd h pK) id
    refine n e1 ?_
    clear z h2 n
    grobner
  · clear n
    generalize inv 2=i at *
    grobner
  · clear n
    generalize inv 2=i at *
    grobner
theorem Jm {d : F} {p : F × F} (ns : NS d) (hp : On d p) : (1+(add d p p).2) * ((1 - p.2 * p.2) * (1 - d * p.2 * p.2))=(1 - (add d p p).2) * (p.2 * p.2 * (1 - d)):=by
  have hy:=nw ns hp hp
  have n:=nv ns hp hp
  generalize add d p p=r at *
  obtain ⟨rx,y2⟩:=r
  obtain ⟨x,y⟩:=p
  unfold kk On at *
  simp only at *
  have e : 1 - d * x * x * y * y=2 - x * x - y * y:=by clear hy n;grobner
  rw [e] at hy n
  refine cancel n ?_
  have e1 : (2 - x * x - y * y) * (1+y2)=2 - 2 * (x * x):=by clear n e;grobner
  have e2 : (2 - x * x - y * y) * (1 - y2)=2 - 2 * (y * y):=by clear n e e1;grobner
  have e3 : (2 - x * x - y * y) * ((1+y2) * ((1 - y * y) * (1 - d * y * y)))=(2 - 2 * (x * x)) * ((1 - y * y) * (1 - d * y * y)):=by rw [← e1];clear n e e1 e2 hy hp;grobner
  have e4 : (2 - x * x - y * y) * ((1 - y2) * (y * y * (1 - d)))=(2 - 2 * (y * y)) * (y * y * (1 - d)):=by rw [← e2];clear n e e1 e2 e3 hy hp;grobner
  rw [e3,e4]
  clear e3 e4 e1 e2 n e hy
  grobner
theorem Gy {d : F} {p q : F × F} (ns : NS d) (hp : On d p) (hq : On d q) :
    (1+(add d p q).2) * (1+(add d p (neg q)).2) * ((p.2 - q.2) * (p.2 - q.2))=(1 - (add d p q).2) * (1 - (add d p (neg q)).2) * ((p.2+q.2) * (p.2+q.2)):=by
  have a:=nw ns hp hq
  have b:=nw ns hp (lO hq)
  have n1:=nv ns hp hq
  have n2:=nv ns hp (lO hq)
  have c:=Jg (Ci d p.1 p.2 q.1 q.2) (ju hp) (ju hq)
  generalize add d p q=r at *
  generalize add d p (neg q)=t at *
  obtain ⟨rx,ry⟩:=r
  obtain ⟨tx,ty⟩:=t
  obtain ⟨x1,y1⟩:=p
  obtain ⟨x2,y2⟩:=q
  unfold neg kk On at *
  simp only at *
  clear hp hq
  have e : 1 - d * x1 * -x2 * y1 * y2=1+d * x1 * x2 * y1 * y2:=by clear a b n1 n2 c;grobner
  rw [e] at b n2
  generalize d * x1 * x2 * y1 * y2=k at *
  have e1 : (1 - k) * (1+ry)=1 - k+y1 * y2 - x1 * x2:=by clear b n1 n2 c e;grobner
  have e2 : (1 - k) * (1 - ry)=1 - k - y1 * y2+x1 * x2:=by clear b n1 n2 c e e1;grobner
  have e3 : (1+k) * (1+ty)=1+k+y1 * y2+x1 * x2:=by clear a n1 n2 c e e1 e2;grobner
  have e4 : (1+k) * (1 - ty)=1+k - y1 * y2 - x1 * x2:=by clear a n1 n2 c e e1 e2 e3;grobner
  rw [← e1,← e2,← e3,← e4] at c
  refine cancel (dx n1 n2) ?_
  clear e1 e2 e3 e4 a b e n1 n2
  generalize 1+ry=r1 at *
  generalize 1 - ry=r2 at *
  generalize 1+ty=t1 at *
  generalize 1 - ty=t2 at *
  generalize 1+k=k1 at *
  generalize 1 - k=k2 at *
  generalize y1 - y2=f at *
  generalize y1+y2=g at *
  grobner
theorem GA (d : F) (p q : F × F) : (add d p (neg q)).2=(add d q (neg p)).2:=by
  show (p.2 * q.2 - p.1 * -q.1) * inv (1 - d * p.1 * -q.1 * p.2 * q.2)=(q.2 * p.2 - q.1 * -p.1) * inv (1 - d * q.1 * -p.1 * q.2 * p.2)
  have e1 : p.2 * q.2 - p.1 * -q.1=q.2 * p.2 - q.1 * -p.1:=by grobner
  have e2 : 1 - d * p.1 * -q.1 * p.2 * q.2=1 - d * q.1 * -p.1 * q.2 * p.2:=by grobner
  rw [e1,e2]
theorem Et.La {σ d : F} (h : Et σ d) : 1 - d≠0:=fun z=>h.ns 1 (by grobner)
theorem AW {σ d : F} (hp : Et σ d) {p : F × F} (h : On d p) {s : L4} (r : Dc σ p.2 s.x2 s.z2) (x1 : F) : Dc σ (add d p p).2 (core x1 s).x2 (core x1 s).z2:=by
  obtain ⟨l,l0,ex,ez⟩:=r
  have id:=Jm hp.ns h
  have nd:=hp.La
  have h1:=hp.one
  have h2:=hp.num
  show Dc σ (add d p p).2 ((s.x2+s.z2) * (s.x2+s.z2) * ((s.x2 - s.z2) * (s.x2 - s.z2))) (((s.x2+s.z2) * (s.x2+s.z2) - (s.x2 - s.z2) * (s.x2 - s.z2)) * ((s.x2+s.z2) * (s.x2+s.z2)+121665 * ((s.x2+s.z2) * (s.x2+s.z2) - (s.x2 - s.z2) * (s.x2 - s.z2))))
  rw [ex,ez]
  generalize p.2=y at *
  generalize (add d p p).2=y2 at *
  clear ex ez h hp
  have fx : (l * (1+y)+l * (σ * (1 - y))) * (l * (1+y)+l * (σ * (1 - y))) * ((l * (1+y) - l * (σ * (1 - y))) * (l * (1+y) - l * (σ * (1 - y))))=16 * (l * l * (l * l)) * (y * y):=by
    have e : (l * (1+y)+l * (σ * (1 - y))) * (l * (1+y) - l * (σ * (1 - y)))=l * l * (4 * y):=by clear id h2 nd l0;grobner
    clear id h1 h2 nd l0
    generalize l * (1+y)+l * (σ * (1 - y))=a at *
    generalize l * (1+y) - l * (σ * (1 - y))=b at *
    grobner
  have ge : (l * (1+y)+l * (σ * (1 - y))) * (l * (1+y)+l * (σ * (1 - y))) - (l * (1+y) - l * (σ * (1 - y))) * (l * (1+y) - l * (σ * (1 - y)))=4 * (l * l) * (σ * (1 - y * y)):=by clear id h1 h2 nd l0 fx;grobner
  have ga : (l * (1+y)+l * (σ * (1 - y))) * (l * (1+y)+l * (σ * (1 - y)))=l * l * (2+2 * (y * y)+2 * (σ * (1 - y * y))):=by clear id h2 nd l0 fx ge;grobner
  rw [fx,ge,ga]
  have ca4 : (121665 : F) * 4=ca - 2:=by decide +kernel
  have gz : (1 - d) * (4 * (l * l) * (σ * (1 - y * y)) * (l * l * (2+2 * (y * y)+2 * (σ * (1 - y * y)))+121665 * (4 * (l * l) * (σ * (1 - y * y)))))=16 * (l * l * (l * l)) * (σ * ((1 - y * y) * (1 - d * y * y))):=by
    have e1 : l * l * (2+2 * (y * y)+2 * (σ * (1 - y * y)))+121665 * (4 * (l * l) * (σ * (1 - y * y)))=l * l * (2+2 * (y * y)+σ * ca * (1 - y * y)):=by
      clear id h1 h2 nd l0 fx ge ga
      generalize ca=A at *
      grobner
    have e2 : (1 - d) * (2+2 * (y * y)+σ * ca * (1 - y * y))=4 * (1 - d * y * y):=by
      clear id h1 nd l0 fx ge ga e1 ca4
      generalize ca=A at *
      grobner
    rw [e1]
    clear id h1 h2 nd l0 fx ge ga e1 ca4
    generalize 2+2 * (y * y)+σ * ca * (1 - y * y)=w at *
    grobner
  generalize 4 * (l * l) * (σ * (1 - y * y)) * (l * l * (2+2 * (y * y)+2 * (σ * (1 - y * y)))+121665 * (4 * (l * l) * (σ * (1 - y * y))))=Z at *
  have n16 : 16 * (l * l * (l * l))≠0:=dx (by decide) (dx (dx l0 l0) (dx l0 l0))
  clear fx ge ga ca4 h2 l0
  generalize 16 * (l * l * (l * l))=K at *
  refine vF h1 (cancel nd ?_) fun z1 z2=>?_
  · have e : (1 - d) * (σ * (1+y2) * Z)=σ * (1+y2) * ((1 - d) * Z):=by clear id h1 gz nd n16;grobner
    rw [e,gz]
    clear e gz nd n16
    generalize (1 - y * y) * (1 - d * y * y)=w at *
    grobner
  · have y0 : y=0:=(mul_zero z1).elim (fun h=>absurd h n16) qH
    have s0 : σ≠0:=fun e=>by
      rw [e] at h1
      have : (0 : F) * 0≠1:=by decide
      exact this h1
    refine dx n16 s0 ?_
    rw [y0,z2] at gz
    clear id h1 nd n16 z1 z2 y0 s0
    grobner
theorem AX {σ d u : F} (hp : Et σ d) {p q : F × F} (h : On d p) (h' : On d q) {s : L4} (r : Dc σ p.2 s.x2 s.z2) (r' : Dc σ q.2 s.x3 s.z3)
    (hu : u≠0) (hd : u * (σ * (1 - (add d p (neg q)).2))=1+(add d p (neg q)).2) : Dc σ (add d p q).2 (core u s).x3 (core u s).z3:=by
  obtain ⟨l,l0,ex,ez⟩:=r
  obtain ⟨m,m0,fx,fz⟩:=r'
  have id:=Gy hp.ns h h'
  have ty:=nw hp.ns h (lO h')
  have h1:=hp.one
  show Dc σ (add d p q).2 (((s.x3 - s.z3) * (s.x2+s.z2)+(s.x3+s.z3) * (s.x2 - s.z2)) * ((s.x3 - s.z3) * (s.x2+s.z2)+(s.x3+s.z3) * (s.x2 - s.z2)))
    (u * (((s.x3 - s.z3) * (s.x2+s.z2) - (s.x3+s.z3) * (s.x2 - s.z2)) * ((s.x3 - s.z3) * (s.x2+s.z2) - (s.x3+s.z3) * (s.x2 - s.z2))))
  rw [ex,ez,fx,fz]
  generalize (add d p q).2=ry at *
  generalize add d p (neg q)=t at *
  obtain ⟨tx,t⟩:=t
  obtain ⟨x1,y1⟩:=p
  obtain ⟨x2,y2⟩:=q
  unfold neg kk On at *
  simp only at *
  clear ex ez fx fz hp
  have one : (1 : F)≠0:=by decide
  have ga : (m * (1+y2) - m * (σ * (1 - y2))) * (l * (1+y1)+l * (σ * (1 - y1)))+(m * (1+y2)+m * (σ * (1 - y2))) * (l * (1+y1) - l * (σ * (1 - y1)))=4 * (l * m) * (y1+y2):=by
    clear id ty h h' hu hd l0 m0 one
    grobner
  have gb : (m * (1+y2) - m * (σ * (1 - y2))) * (l * (1+y1)+l * (σ * (1 - y1))) - (m * (1+y2)+m * (σ * (1 - y2))) * (l * (1+y1) - l * (σ * (1 - y1)))=4 * (l * m) * (σ * (y2 - y1)):=by
    clear id ty h h' hu hd l0 m0 one ga h1
    grobner
  rw [ga,gb]
  have n4 : 4 * (l * m)≠0:=dx (by decide) (dx l0 m0)
  clear ga gb l0 m0
  generalize 4 * (l * m)=K at *
  have t1 : 1 - t≠0:=fun z=>by
    have e : (2 : F)=0:=by
      rw [z] at hd
      clear id ty h h' hu h1 one n4
      grobner
    exact pK e
  refine vF h1 (cancel t1 ?_) fun z1 z2=>?_
  · have e : (1 - t) * (σ * (1+ry) * (u * (K * (σ * (y2 - y1)) * (K * (σ * (y2 - y1))))))=K * K * (σ * σ) * ((1+ry) * (u * (σ * (1 - t))) * ((y1 - y2) * (y1 - y2))):=by
      clear id ty h h' hu hd h1 one n4 t1
      grobner
    rw [e,hd,id,h1]
    clear id ty h h' hu hd h1 one n4 t1 e
    grobner
  · have a1 : y1+y2=0:=(mul_zero (qH z1)).elim (fun h=>absurd h n4) (fun h=>h)
    have a2 : σ * (y2 - y1)=0:=(mul_zero ((mul_zero z2).elim (fun h=>absurd h hu) qH)).elim (fun h=>absurd h n4) (fun h=>h)
    have a3 : y2 - y1=0:=by clear id ty h h' hu hd one n4 t1 z1 z2 a1;grobner
    have a4 : (2 : F) * y1=0:=by clear id ty h h' hu hd one n4 t1 z1 z2 a2 h1;grobner
    have a5 : y1=0:=(mul_zero a4).elim (fun h=>absurd h pK) (fun h=>h)
    have a6 : y2=0:=by rw [a5] at a1;clear id ty h h' hu hd one n4 t1 z1 z2 a2 h1 a3 a4 a5;grobner
    rw [a5] at h ty
    rw [a6] at h' ty
    have b1 : x1 * x1=1:=by clear id ty h' hu hd one n4 t1 z1 z2 a1 a2 h1 a3 a4 a5 a6;grobner
    have b2 : x2 * x2=1:=by clear id ty h hu hd one n4 t1 z1 z2 a1 a2 h1 a3 a4 a5 a6 b1;grobner
    have b3 : t=x1 * x2:=by clear id h h' hu hd one n4 t1 z1 z2 a1 a2 h1 a3 a4 a5 a6 b1 b2;grobner
    have b4 : (1 - t) * (1+t)=0:=by clear id h h' hu hd one n4 t1 z1 z2 a1 a2 h1 a3 a4 a5 a6 ty;grobner
    have b5 : 1+t=0:=(mul_zero b4).elim (fun h=>absurd h t1) (fun h=>h)
    have s0 : σ≠0:=fun e=>by
      rw [e] at h1
      have : (0 : F) * 0≠1:=by decide
      exact this h1
    rw [b5] at hd
    exact dx hu (dx s0 t1) hd
end dW
end
section
namespace dW
theorem Eu {d : F} {p r : F × F} (ns : NS d) (hp : On d p) (hr : On d r) : add d (add d r p) (neg r)=p:=by
  rw [add_comm d r p,assoc ns hp hr (lO hr),add_neg ns hr,add_comm,xE]
theorem Ev {d : F} {p : F × F} (ns : NS d) (h : On d p) (m : Nat) : add d (nP d p m) (nP d p m)=nP d p (2 * m):=by
  rw [← vD ns h,Nat.two_mul]
theorem AY {d : F} {p : F × F} (ns : NS d) (h : On d p) (m : Nat) : add d (nP d p m) (nP d p (m+1))=nP d p (2 * m+1):=by
  rw [← vD ns h]
  congr 1
  omega
def Inv (σ d : F) (p : F × F) (m : Nat) (s : L4) : Prop:=Dc σ (nP d p m).2 s.x2 s.z2∧Dc σ (nP d p (m+1)).2 s.x3 s.z3
theorem Inv.step {σ d u : F} {p : F × F} (hp : Et σ d) (h : On d p) (hu : u≠0) (hd : u * (σ * (1 - p.2))=1+p.2) {m : Nat} {s : L4} (i : Inv σ d p m s) (b : Bool) :
    Inv σ d p (2 * m+b.toNat) (swap b (core u (swap b s))):=by
  obtain ⟨i1,i2⟩:=i
  have o1:=rX hp.ns h m
  have o2:=rX hp.ns h (m+1)
  have df : add d (nP d p (m+1)) (neg (nP d p m))=p:=Eu hp.ns h o1
  have dg : (add d (nP d p m) (neg (nP d p (m+1)))).2=p.2:=by rw [GA,df]
  cases b with
  | false=>
    have a1:=AW hp o1 i1 u
    have a2:=AX hp o1 o2 i1 i2 hu (by rw [dg];exact hd)
    rw [Ev hp.ns h] at a1
    rw [AY hp.ns h] at a2
    exact ⟨a1,a2⟩
  | true=>
    have a1:=AW hp o2 (s:=⟨s.x3,s.z3,s.x2,s.z2⟩) i2 u
    have a2:=AX hp o2 o1 (s:=⟨s.x3,s.z3,s.x2,s.z2⟩) i2 i1 hu (by rw [df];exact hd)
    rw [Ev hp.ns h] at a1
    rw [add_comm,AY hp.ns h] at a2
    exact ⟨a2,a1⟩
theorem Cj (k n : Nat) : k % 2 ^ (n+1)=(k.testBit n).toNat * 2 ^ n+k % 2 ^ n:=by
  rw [Nat.pow_succ,Nat.mod_mul,Nat.testBit_eq_decide_div_mod_eq,Nat.add_comm,Nat.mul_comm]
  congr 2
  by_cases h : k / 2 ^ n % 2=1
  · rw [h];rfl
  · have h0 : k / 2 ^ n % 2=0:=by omega
    rw [h0];rfl
theorem Inv.all {σ d u : F} {p : F × F} (hp : Et σ d) (h : On d p) (hu : u≠0) (hd : u * (σ * (1 - p.2))=1+p.2) (k : Nat) :
    ∀ n m s,Inv σ d p m s→Inv σ d p (m * 2 ^ n+k % 2 ^ n) (ux u k n s)
  | 0,m,s,i=>by
    have e : m * 2 ^ 0+k % 2 ^ 0=m:=by rw [Nat.pow_zero,Nat.mod_one,Nat.mul_one];rfl
    rw [e];exact i
  | n+1,m,s,i=>by
    have r:=Inv.all hp h hu hd k n _ _ (i.step hp h hu hd (k.testBit n))
    have e : m * 2 ^ (n+1)+k % 2 ^ (n+1)=(2 * m+(k.testBit n).toNat) * 2 ^ n+k % 2 ^ n:=by
      rw [Cj,Nat.add_mul,Nat.pow_succ,Nat.mul_comm (2 ^ n) 2,← Nat.mul_assoc,Nat.mul_comm m 2,Nat.add_assoc]
    rw [e];exact r
def U (σ : F) (p : F × F) : F:=(1+p.2) * inv (σ * (1 - p.2))
theorem GB {σ y X Z : F} (r : Dc σ y X Z) : X * inv Z=(1+y) * inv (σ * (1 - y)):=by
  obtain ⟨l,l0,ex,ez⟩:=r
  by_cases hz : σ * (1 - y)=0
  · have e : Z=0:=by rw [ez,hz];clear ex ez hz l0;grobner
    rw [e,hz,inv_zero]
    clear ex ez hz l0 e
    grobner
  · have i1:=ew hz
    have zn : Z≠0:=by rw [ez];exact dx l0 hz
    have i2:=ew zn
    refine cancel zn ?_
    have e1 : Z * (X * inv Z)=X:=by
      clear ex ez l0 hz i1 zn
      generalize inv Z=a at *
      grobner
    rw [e1,ex,ez]
    clear e1 i2 zn ex ez l0 hz
    generalize inv (σ * (1 - y))=a at *
    generalize σ * (1 - y)=b at *
    grobner
theorem MQ {σ : F} {p : F × F} (h : U σ p≠0) : U σ p * (σ * (1 - p.2))=1+p.2:=by
  have n : σ * (1 - p.2)≠0:=fun e=>by
    refine h ?_
    unfold U
    rw [e,inv_zero]
    clear h e
    grobner
  have i:=ew n
  unfold U
  clear h n
  generalize inv (σ * (1 - p.2))=a at *
  generalize σ * (1 - p.2)=b at *
  grobner
theorem Jn {σ d : F} {p : F × F} (hp : Et σ d) (h : On d p) (hu : U σ p≠0) {k : Nat} (hk : k<2 ^ 255) : qy k (U σ p)=U σ (nP d p k):=by
  have hd:=MQ hu
  have h1:=hp.one
  have i0 : Inv σ d p 0 ⟨1,0,U σ p,1⟩:=by
    refine ⟨vF h1 ?_ fun z _=>?_,?_⟩
    · show σ * (1+1) * 0=(1 - 1) * 1
      clear h1 hd
      grobner
    · have : (1 : F)≠0:=by decide
      exact this z
    · show Dc σ (add d O p).2 (U σ p) 1
      rw [xE]
      refine vF h1 ?_ fun _ z=>?_
      · generalize U σ p=u at *
        clear hu
        grobner
      · have : (1 : F)≠0:=by decide
        exact this z
  have i:=Inv.all hp h hu hd k 255 0 _ i0
  rw [Nat.zero_mul,Nat.zero_add,Nat.mod_eq_of_lt hk] at i
  exact GB i.1
theorem oF (k : Nat) : ∀ n s,s.z2=0→s.z3=0→(ux 0 k n s).z2=0
  | 0,_,h,_=>h
  | n+1,s,h,h'=>by
    have g2 : ∀ s : L4,s.z2=0→(core 0 s).z2=0:=fun s e=>by
      show ((s.x2+s.z2) * (s.x2+s.z2) - (s.x2 - s.z2) * (s.x2 - s.z2)) * ((s.x2+s.z2) * (s.x2+s.z2)+121665 * ((s.x2+s.z2) * (s.x2+s.z2) - (s.x2 - s.z2) * (s.x2 - s.z2)))=0
      rw [e]
      generalize s.x2=x
      clear h h' e
      grobner
    have g3 : ∀ s : L4,(core 0 s).z3=0:=fun s=>by
      show 0 * (((s.x3 - s.z3) * (s.x2+s.z2) - (s.x3+s.z3) * (s.x2 - s.z2)) * ((s.x3 - s.z3) * (s.x2+s.z2) - (s.x3+s.z3) * (s.x2 - s.z2)))=0
      generalize ((s.x3 - s.z3) * (s.x2+s.z2) - (s.x3+s.z3) * (s.x2 - s.z2)) * ((s.x3 - s.z3) * (s.x2+s.z2) - (s.x3+s.z3) * (s.x2 - s.z2))=x
      clear h h' g2
      grobner
    show (ux 0 k n (swap (k.testBit n) (core 0 (swap (k.testBit n) s)))).z2=0
    cases k.testBit n with
    | false=>exact oF k n _ (g2 _ h) (g3 _)
    | true=>exact oF k n _ (g3 _) (g2 _ h')
theorem GC (k n : Nat) : (ux 0 k (n+1) ⟨1,0,0,1⟩).z2=0:=by
  show (ux 0 k n (swap (k.testBit n) (core 0 (swap (k.testBit n) ⟨1,0,0,1⟩)))).z2=0
  cases k.testBit n with
  | false=>exact oF k n _ (by decide +kernel) (by decide +kernel)
  | true=>exact oF k n _ (by decide +kernel) (by decide +kernel)
theorem kq (k : Nat) : qy k 0=0:=by
  have e : (ux 0 k 255 ⟨1,0,0,1⟩).z2=0:=GC k 254
  unfold qy
  rw [e,inv_zero]
  generalize (ux 0 k 255 ⟨1,0,0,1⟩).x2=x
  clear e
  grobner
theorem Lb {d : F} : ∀ n,nP d O n=O
  | 0=>rfl
  | n+1=>by show add d (nP d O n) O=O;rw [Lb n,xE]
theorem NT (σ : F) : U σ O=0:=by
  show (1+1) * inv (σ * (1 - 1))=0
  have e : σ * (1 - 1)=0:=by grobner
  rw [e,inv_zero];rfl
theorem xF {σ d : F} {p : F × F} (hp : Et σ d) (h : On d p) (hu : U σ p=0) (j : Nat) : U σ (nP d p (2 * j))=0:=by
  have h1:=hp.one
  have nd:=hp.La
  have s0 : σ≠0:=fun e=>by
    rw [e] at h1
    have : (0 : F) * 0≠1:=by decide
    exact this h1
  have e1 : (1+p.2) * (1 - p.2)=0:=by
    by_cases z : 1 - p.2=0
    · rw [z];clear h1 nd s0 hu h z;grobner
    · have i:=ew (dx s0 z)
      have e : (1+p.2) * inv (σ * (1 - p.2))=0:=hu
      clear h1 nd s0 hu h z
      generalize inv (σ * (1 - p.2))=a at *
      generalize 1+p.2=b at *
      generalize 1 - p.2=c at *
      grobner
  have e2 : p.1=0:=by
    refine qH ((mul_zero (x:=1 - d) (y:=p.1 * p.1) ?_).elim (fun h=>absurd h nd) (fun h=>h))
    unfold On at h
    clear h1 nd s0 hu
    generalize p.1=x at *
    generalize p.2=y at *
    grobner
  have e3 : neg p=p:=by
    apply Prod.ext
    · show -p.1=p.1
      rw [e2];decide
    · rfl
  have e4 : nP d p 2=O:=by
    show add d (add d O p) p=O
    have:=add_neg hp.ns h
    rw [e3] at this
    rw [xE,this]
  rw [← vE hp.ns h,e4,Lb,NT]
theorem oG {σ d : F} {p : F × F} (hp : Et σ d) (h : On d p) {k : Nat} (hk : k<2 ^ 255) (he : k % 2=0) : qy k (U σ p)=U σ (nP d p k):=by
  by_cases hu : U σ p=0
  · have e : k=2 * (k / 2):=by omega
    rw [hu,kq,e,xF hp h hu]
  · exact Jn hp h hu hk
theorem Ic {σ u s : F} (h1 : σ * σ=1) (hs : σ * (σ * ca+2) * (u * (u * u+ca * u+1))=s * s) : ∃ d p,Et σ d∧On d p∧U σ p=u:=by
  have nr:=AT
  have hc : σ * ca+2≠0:=fun z=>nr 0 (by
    generalize ca=A at *
    clear nr hs
    grobner)
  have hv : σ * u+1≠0:=fun z=>nr s (by
    rw [← hs]
    generalize ca=A at *
    clear nr hs hc
    grobner)
  have hD : u * u+ca * u+1≠0:=fun z=>nr (2 * u+ca) (by
    generalize ca=A at *
    clear nr hs hc hv
    grobner)
  have ic:=ew hc
  have iv:=ew hv
  have iD:=ew hD
  have num : (σ * ca - 2) * inv (σ * ca+2) * (σ * ca+2)=σ * ca - 2:=by
    clear hs hv hD iv iD nr h1
    generalize inv (σ * ca+2)=a at *
    generalize σ * ca+2=b at *
    generalize σ * ca - 2=c at *
    grobner
  have ns : NS ((σ * ca - 2) * inv (σ * ca+2)):=fun t e=>nr (t * (σ * ca+2)) (by
    rw [← e] at num
    clear hs hv hD iv iD nr e ic hc
    generalize ca=A at *
    grobner)
  have hx : s * inv (u * u+ca * u+1) * (u * u+ca * u+1)=s:=by
    clear hs hv ns iv nr ic hc num h1
    generalize inv (u * u+ca * u+1)=a at *
    generalize u * u+ca * u+1=b at *
    grobner
  have hy : (σ * u - 1) * inv (σ * u+1) * (σ * u+1)=σ * u - 1:=by
    clear hs hD ns iD nr ic hc num h1 hx
    generalize inv (σ * u+1)=a at *
    generalize σ * u+1=b at *
    generalize σ * u - 1=c at *
    grobner
  generalize s * inv (u * u+ca * u+1)=x at *
  generalize (σ * u - 1) * inv (σ * u+1)=y at *
  generalize (σ * ca - 2) * inv (σ * ca+2)=d at *
  refine ⟨d,(x,y),⟨h1,num,ns⟩,?_,?_⟩
  · show x * x+y * y=1+d * x * x * y * y
    have e1 : x * x * (u * u+ca * u+1)=(σ * ca+2) * (σ * u):=by
      refine cancel hD ?_
      clear nr hc hv hD ic iv iD num ns hy
      have e : (u * u+ca * u+1) * (x * x * (u * u+ca * u+1))=s * s:=by
        rw [← hx]
        clear hx hs h1
        generalize u * u+ca * u+1=D at *
        grobner
      rw [e,← hs]
      clear e hx hs
      generalize u * u+ca * u+1=D at *
      generalize ca=A at *
      grobner
    refine cancel hD (cancel (dx hv hv) ?_)
    have l : (σ * u+1) * (σ * u+1) * ((u * u+ca * u+1) * (x * x+y * y))=(σ * ca+2) * (σ * u) * ((σ * u+1) * (σ * u+1))+(u * u+ca * u+1) * ((σ * u - 1) * (σ * u - 1)):=by
      rw [← e1,← hy]
      clear e1 hy hx hs nr hc hv hD ic iv iD num ns h1
      generalize σ * u+1=E at *
      generalize u * u+ca * u+1=D at *
      grobner
    have r : (σ * u+1) * (σ * u+1) * ((u * u+ca * u+1) * (1+d * x * x * y * y))=(u * u+ca * u+1) * ((σ * u+1) * (σ * u+1))+d * (σ * ca+2) * (σ * u) * ((σ * u - 1) * (σ * u - 1)):=by
      have e2 : d * (σ * ca+2) * (σ * u)=d * (x * x * (u * u+ca * u+1)):=by
        rw [e1]
        clear l e1 hy hx hs nr hc hv hD ic iv iD num ns h1
        generalize σ * ca+2=C at *
        generalize σ * u=v at *
        grobner
      rw [e2,← hy]
      clear l e1 e2 hy hx hs nr hc hv hD ic iv iD num ns h1
      generalize σ * u+1=E at *
      generalize u * u+ca * u+1=D at *
      grobner
    rw [l,r,num]
    clear l r e1 hy hx hs nr hc hv hD ic iv iD num ns
    generalize ca=A at *
    grobner
  · show (1+y) * inv (σ * (1 - y))=u
    have e1 : (σ * u+1) * (1+y)=2 * (σ * u):=by
      clear hx hs nr hc hv hD ic iv iD num ns h1
      grobner
    have e2 : (σ * u+1) * (1 - y)=2:=by
      clear hx hs nr hc hv hD ic iv iD num ns h1 e1
      grobner
    have e3 : u * (σ * (1 - y))=1+y:=by
      refine cancel hv ?_
      rw [e1]
      clear hx hs nr hc hv hD ic iv iD num ns h1 e1 hy
      grobner
    have n : σ * (1 - y)≠0:=fun z=>by
      have e4 : (2 : F)=0:=by
        clear hx hs nr hc hv hD ic iv iD num ns e1 hy e3
        grobner
      exact pK e4
    have i:=ew n
    rw [← e3]
    clear hx hs nr hc hv hD ic iv iD num ns e1 hy e3 e2 n h1
    generalize inv (σ * (1 - y))=a at *
    generalize σ * (1 - y)=b at *
    grobner
theorem zL {u : F} (hu : u≠0) : ∃ σ d p,Et σ d∧On d p∧U σ p=u:=by
  have hD : u * u+ca * u+1≠0:=fun z=>AT (2 * u+ca) (by
    generalize ca=A at *
    clear hu
    grobner)
  cases Gu (dx hu hD) with
  | inl h=>
    obtain ⟨s,hs⟩:=h
    refine ⟨1,Ic (s:=s) (by decide) ?_⟩
    rw [← hs]
    clear hs hD hu
    generalize u * (u * u+ca * u+1)=w at *
    generalize ca=A at *
    grobner
  | inr h=>
    obtain ⟨s,hs⟩:=h
    refine ⟨-1,Ic (s:=s) (by decide) ?_⟩
    rw [← hs]
    clear hs hD hu
    generalize u * (u * u+ca * u+1)=w at *
    generalize ca=A at *
    grobner
theorem Ck (u : F) {a b : Nat} (ha : a<2 ^ 255) (hb : b<2 ^ 255) (ea : a % 2=0) (eb : b % 2=0) : qy a (qy b u)=qy b (qy a u):=by
  by_cases hu : u=0
  · rw [hu,kq,kq,kq]
  · obtain ⟨σ,d,p,hp,h,e⟩:=zL hu
    rw [← e,oG hp h hb eb,oG hp h ha ea,oG hp (rX hp.ns h b) ha ea,oG hp (rX hp.ns h a) hb eb,Gx hp.ns h]
end dW
end
section
namespace dW
def val : List Int→Int
  | []=>0
  | a::l=>a+65536 * val l
def nth (l : List Int) (i : Nat) : Int:=l.getD i 0
theorem bF (l : List Int) (i j : Nat) (x : Int) (h : i<l.length) : nth (l.set i x) j=if i=j then x else nth l j:=by
  unfold nth
  simp only [List.getD_eq_getElem?_getD,List.getElem?_set]
  by_cases e : i=j
  · subst e
    simp [h]
  · simp [e]
theorem gm : ∀ (l : List Int) (i : Nat) (x : Int),i<l.length→val (l.set i x)=val l+(x - nth l i) * 65536 ^ i
  | [],i,x,h=>absurd h (by simp)
  | a::l,0,x,_=>by
    show x+65536 * val l=a+65536 * val l+(x - a) * 65536 ^ 0
    rw [Int.pow_zero];omega
  | a::l,i+1,x,h=>by
    have ih:=gm l i x (by simpa using h)
    show a+65536 * val (l.set i x)=a+65536 * val l+(x - nth l i) * 65536 ^ (i+1)
    rw [ih,Int.pow_succ,Int.mul_add,Int.mul_comm (65536 ^ i) 65536,Int.mul_left_comm,Int.add_assoc]
def eJ (l : List Int) (i : Nat) : List Int:=
  let q:=nth l i / 65536
  let m:=l.set i (nth l i - q * 65536)
  if i<15 then m.set (i+1) (nth m (i+1)+q) else m.set 0 (nth m 0+38 * q)
def fk (l : List Int) : Nat→List Int
  | 0=>l
  | i+1=>eJ (fk l i) i
def qm (l : List Int) : List Int:=fk l 16
theorem Cl (l : List Int) (i : Nat) : (eJ l i).length=l.length:=by
  unfold eJ
  simp only
  split <;> simp
theorem kr (l : List Int) : ∀ i,(fk l i).length=l.length
  | 0=>rfl
  | i+1=>by show (eJ (fk l i) i).length=_;rw [Cl,kr l i]
theorem Cm {l : List Int} (hl : l.length=16) {i : Nat} (h : i<15) : val (eJ l i)=val l:=by
  unfold eJ
  simp only [h,if_true]
  rw [gm _ _ _ (by simp [hl];omega),gm _ _ _ (by omega),Int.pow_succ]
  have e : nth (l.set i (nth l i - nth l i / 65536 * 65536)) (i+1)+nth l i / 65536 - nth (l.set i (nth l i - nth l i / 65536 * 65536)) (i+1)=nth l i / 65536:=by omega
  have e2 : nth l i - nth l i / 65536 * 65536 - nth l i=-(nth l i / 65536 * 65536):=by omega
  rw [e,e2]
  generalize nth l i / 65536=q
  rw [Int.neg_mul,Int.mul_assoc q,Int.mul_comm 65536 (65536 ^ i)]
  omega
theorem xG {l : List Int} (hl : l.length=16) : ∃ q,val (eJ l 15)=val l - q * (2 * P):=by
  refine ⟨nth l 15 / 65536,?_⟩
  unfold eJ
  simp only [show ¬ (15 : Nat)<15 by decide,if_false]
  rw [gm _ _ _ (by simp [hl]),gm _ _ _ (by omega)]
  have e2 : nth l 15 - nth l 15 / 65536 * 65536 - nth l 15=-(nth l 15 / 65536 * 65536):=by omega
  rw [e2]
  generalize nth l 15 / 65536=q
  generalize nth (l.set 15 (nth l 15 - q * 65536)) 0=z
  have e3 : (65536 : Int) ^ 15=1766847064778384329583297500742918515827483896875618958121606201292619776:=by decide
  have e4 : (2 * (P : Int))=115792089237316195423570985008687907853269984665640564039457584007913129639898:=by decide
  rw [e3,e4,Int.pow_zero]
  omega
theorem vG {l : List Int} (hl : l.length=16) : ∀ i,i≤15→val (fk l i)=val l
  | 0,_=>rfl
  | i+1,h=>by
    show val (eJ (fk l i) i)=val l
    rw [Cm (by rw [kr,hl]) (by omega),vG hl i (by omega)]
theorem GD {l : List Int} (hl : l.length=16) : ∃ q,val (qm l)=val l - q * (2 * P):=by
  obtain ⟨q,e⟩:=xG (l:=fk l 15) (by rw [kr,hl])
  exact ⟨q,by show val (eJ (fk l 15) 15)=_;rw [e,vG hl 15 (by omega)]⟩
def iq (lo : List Int) : Nat→Int
  | 0=>0
  | i+1=>(nth lo i+iq lo i) / 65536
def Jo (lo hi l : List Int) : Prop:=∀ j,j<16→nth lo j≤nth l j∧nth l j≤nth hi j
structure Cn (lo hi : List Int) (i : Nat) (l : List Int) : Prop where
  len : l.length=16
  done : ∀ j,j<i→0≤nth l j∧nth l j≤65535
  here : nth lo i+iq lo i≤nth l i∧nth l i≤nth hi i+iq hi i
  rest : ∀ j,i<j→j<16→nth lo j≤nth l j∧nth l j≤nth hi j
theorem Cn.step {lo hi l : List Int} {i : Nat} (h : i<15) (c : Cn lo hi i l) : Cn lo hi (i+1) (eJ l i):=by
  obtain ⟨len,done,here,rest⟩:=c
  unfold eJ
  simp only [h,if_true]
  have l1 : (l.set i (nth l i - nth l i / 65536 * 65536)).length=16:=by simp [len]
  refine ⟨by simp [len],fun j hj=>?_,?_,fun j hj hj2=>?_⟩
  · rw [bF _ _ _ _ (by omega),if_neg (by omega),bF _ _ _ _ (by omega)]
    split
    next e=>omega
    next e=>exact done j (by omega)
  · rw [bF _ _ _ _ (by omega),if_pos rfl,bF _ _ _ _ (by omega),if_neg (by omega)]
    have r:=rest (i+1) (by omega) (by omega)
    have e1 : iq lo (i+1)=(nth lo i+iq lo i) / 65536:=rfl
    have e2 : iq hi (i+1)=(nth hi i+iq hi i) / 65536:=rfl
    rw [e1,e2]
    omega
  · rw [bF _ _ _ _ (by omega),if_neg (by omega),bF _ _ _ _ (by omega),if_neg (by omega)]
    exact rest j (by omega) hj2
theorem Cn.all {lo hi l : List Int} (hl : l.length=16) (b : Jo lo hi l) : ∀ i,i≤15→Cn lo hi i (fk l i)
  | 0,_=>⟨hl,fun j h=>absurd h (by omega),by have:=b 0 (by omega);show nth lo 0+0≤nth l 0∧nth l 0≤nth hi 0+0;omega,fun j _ h=>b j h⟩
  | i+1,h=>(Cn.all hl b i (by omega)).step (by omega)
structure Small (l0 h0 : Int) (l : List Int) : Prop where
  len : l.length=16
  first : l0≤nth l 0∧nth l 0≤h0
  rest : ∀ j,0<j→j<16→0≤nth l j∧nth l j≤65535
theorem Cn.last {lo hi l : List Int} (c : Cn lo hi 15 l) : Small (38 * iq lo 16) (65535+38 * iq hi 16) (eJ l 15):=by
  obtain ⟨len,done,here,rest⟩:=c
  unfold eJ
  simp only [show ¬ (15 : Nat)<15 by decide,if_false]
  have l1 : (l.set 15 (nth l 15 - nth l 15 / 65536 * 65536)).length=16:=by simp [len]
  have d0:=done 0 (by omega)
  have e1 : iq lo 16=(nth lo 15+iq lo 15) / 65536:=rfl
  have e2 : iq hi 16=(nth hi 15+iq hi 15) / 65536:=rfl
  refine ⟨by simp [len],?_,fun j hj hj2=>?_⟩
  · rw [bF _ _ _ _ (by omega),if_pos rfl,bF _ _ _ _ (by omega),if_neg (by omega),e1,e2]
    omega
  · rw [bF _ _ _ _ (by omega),if_neg (by omega),bF _ _ _ _ (by omega)]
    split
    next e=>omega
    next e=>exact done j (by omega)
theorem jP {lo hi l : List Int} (hl : l.length=16) (b : Jo lo hi l) : Small (38 * iq lo 16) (65535+38 * iq hi 16) (qm l):=
  (Cn.all hl b 15 (by omega)).last
theorem Small.weak {a b c d : Int} {l : List Int} (h : Small a b l) (h1 : c≤a) (h2 : b≤d) : Small c d l:=
  ⟨h.len,by have:=h.first;omega,h.rest⟩
def Co (a b : Int) : List Int:=a::List.replicate 15 b
theorem gp (a b : Int) (j : Nat) (h : j<16) : nth (Co a b) j=if j=0 then a else b:=by
  cases j with
  | zero=>rfl
  | succ j=>
    unfold nth Co
    rw [List.getD_cons_succ,List.getD_eq_getElem?_getD,List.getElem?_replicate,if_pos (by omega),if_neg (by omega)]
    rfl
theorem Small.Kl {a b : Int} {l : List Int} (h : Small a b l) : Jo (Co a 0) (Co b 65535) l:=fun j hj=>by
  rw [gp _ _ _ hj,gp _ _ _ hj]
  by_cases e : j=0
  · subst e;simpa using h.first
  · simpa [e] using h.rest j (by omega) hj
end dW
end
section
set_option maxRecDepth 10000
open Sl dW
theorem eP : Tryz.prog.follows .mixedOrders=true:=by kernel_rfl
theorem ld : dP Tryz.prog 2=some 1:=by kernel_rfl
theorem qJ : iI Tryz.prog 2=true:=by kernel_rfl
theorem bg : dP Tryz.prog 97=some 16:=by kernel_rfl
theorem cu : gy Tryz.prog 97=true:=by kernel_rfl
theorem jv : zc Tryz.prog 97=some ((List.replicate 16 (0 : Int)).map I):=by kernel_rfl
theorem gP : aL Tryz.prog 73:=⟨_,Tryz.func73,rfl,by kernel_rfl⟩
theorem fY {l : List Int} {i : Nat} (h : i<l.length) : (l.map I)[i]?=some (I (nth l i)):=by
  simp [nth,h]
theorem iN (l : List Int) (i : Nat) (x : Int) : (l.map I).set i (I x)=(l.set i x).map I:=by rw [List.map_set]
def Fit (l : List Int) : Prop:=∀ j,j<16→-288230376151711744≤nth l j∧nth l j≤288230376151711744
def wlo : List Int:=List.replicate 16 (-288230376151711744)
def whi : List Int:=List.replicate 16 288230376151711744
theorem jl (x : Int) (j : Nat) (h : j<16) : nth (List.replicate 16 x) j=x:=by
  unfold nth
  rw [List.getD_eq_getElem?_getD,List.getElem?_replicate,if_pos h];rfl
theorem Fit.Kl {l : List Int} (h : Fit l) : Jo wlo whi l:=fun j hj=>by
  rw [wlo,whi,jl _ _ hj,jl _ _ hj];exact h j hj
theorem AZ : ∀ i,i≤16→-8796093022208≤iq wlo i∧iq wlo i≤0
  | 0,_=>by decide
  | i+1,h=>by
    have ih:=AZ i (by omega)
    have e : iq wlo (i+1)=(nth wlo i+iq wlo i) / 65536:=rfl
    rw [e,wlo,jl _ _ (by omega),← wlo]
    omega
theorem A0 : ∀ i,i≤16→0≤iq whi i∧iq whi i≤8796093022208
  | 0,_=>by decide
  | i+1,h=>by
    have ih:=A0 i (by omega)
    have e : iq whi (i+1)=(nth whi i+iq whi i) / 65536:=rfl
    rw [e,whi,jl _ _ (by omega),← whi]
    omega
theorem Fit.here {l : List Int} (hl : l.length=16) (h : Fit l) {i : Nat} (hi : i<16) : -297237575406452736≤nth (fk l i) i∧nth (fk l i) i≤297237575406452736:=by
  have c:=(Cn.all hl h.Kl i (by omega)).here
  have a:=AZ i (by omega)
  have b:=A0 i (by omega)
  rw [wlo,whi,jl _ _ hi,jl _ _ hi,← wlo,← whi] at c
  omega
theorem Fit.next {l : List Int} (hl : l.length=16) (h : Fit l) {i : Nat} (hi : i<15) : -288230376151711744≤nth (fk l i) (i+1)∧nth (fk l i) (i+1)≤288230376151711744:=by
  have c:=(Cn.all hl h.Kl i (by omega)).rest (i+1) (by omega) (by omega)
  rw [wlo,whi,jl _ _ (by omega),jl _ _ (by omega)] at c
  exact c
theorem Fit.zero {l : List Int} (hl : l.length=16) (h : Fit l) : 0≤nth (fk l 15) 0∧nth (fk l 15) 0≤65535:=(Cn.all hl h.Kl 15 (by omega)).done 0 (by omega)
theorem Ew {l : List Int} {i : Nat} (h : i<15) : ((fk l i).set i (nth (fk l i) i - nth (fk l i) i / 65536 * 65536)).set (i+1) (nth ((fk l i).set i (nth (fk l i) i - nth (fk l i) i / 65536 * 65536)) (i+1)+nth (fk l i) i / 65536)=fk l (i+1):=by
  show _=eJ (fk l i) i
  unfold eJ
  simp only [h,if_true]
theorem Ex {l : List Int} : ((fk l 15).set 15 (nth (fk l 15) 15 - nth (fk l 15) 15 / 65536 * 65536)).set 0 (nth ((fk l 15).set 15 (nth (fk l 15) 15 - nth (fk l 15) 15 / 65536 * 65536)) 0+38 * (nth (fk l 15) 15 / 65536))=fk l 16:=by
  show _=eJ (fk l 15) 15
  unfold eJ
  simp only [show ¬ (15 : Nat)<15 by decide,if_false]
set_option maxHeartbeats 8000000 in
theorem iE (l : List Int) (hl : l.length=16) (hf : Fit l) (w : World) : Calls Tryz.prog 73 [.agg (l.map I).toArray].toArray w fun e w'=>e=.returned (.agg ((qm l).map I).toArray)∧Ext w w':=by
  refine enter (n:=36) Tryz.func73 rfl rfl rfl (ah.start w []) ?_
  repeat (first | refine JC.seq ?_ | refine JC.region ?_)
  refine JL.box (r:=l.map I) rfl rfl rfl fun b1 _=>?_
  refine JL.alloc jv rfl fun b2 _=>?_
  repeat (first | refine JL.q (by (apply OQ.assign;rfl)) rfl ?_ | refine JC.seq ?_ | refine JC.region ?_ | refine JC.block ?_ | refine JL.nil ?_ | refine JE.next ?_)
  refine JC.loop (fun i : Nat=>[(1,Pt b1 0),(2,Pt b2 0),(3,N i)])
    (fun i=>[⟨b2,Row 97 ((List.replicate 16 (0 : Int)).map I),true⟩,⟨b1,Row 97 ((fk l i).map I),true⟩])
    (fun i=>16 - i) (fun i=>i≤16) 0 (by omega) (by repeat (first | exact ai.nil | refine ai.cons _ _ _ rfl ?_)) (an.refl _) ?_
  intro i hi
  have len:=kr l i
  rw [hl] at len
  repeat (first | refine JL.q (by first|(apply OQ.move;rfl)|(apply OQ.bN;rfl;rfl)) rfl ?_ | refine JC.seq ?_ | refine JC.region ?_ | refine JL.nil ?_ | refine JE.next ?_)
  refine JC.cond rfl (fun h=>?_) (fun h=>?_)
  · have hi' : i<16:=of_decide_eq_true h
    clear h hi
    have hh:=hf.here hl hi'
    have hc:=fY (l:=fk l i) (i:=i) (by omega)
    repeat (first | refine JL.q (by first|(apply OQ.aD;exact Tryz.underlying97;exact ld;rfl;rfl;exact (by (try simp only []);omega))|(apply OQ.load;exact qJ;rfl;exact (.there .here);exact (Row.cell hc))|(apply OQ.FY (m:=65536) (k:=16);exact (by decide);exact (by decide);rfl;rfl)|(apply OQ.Mb (m:=65536) (k:=16);exact (by decide);exact (by decide);rfl;rfl;exact (by omega);exact (by omega))|(apply OQ.om;rfl;rfl;exact (by omega);exact (by omega))|(apply OQ.move;rfl)|(apply OQ.assign;rfl)) rfl ?_ | refine JC.seq ?_ | refine JC.region ?_ | refine JC.block ?_ | refine JC.skip ?_ | refine JL.nil ?_ | refine JE.next ?_)
    refine JL.az (r':=((fk l i).set i (nth (fk l i) i - nth (fk l i) i / 65536 * 65536)).map I) ld rfl rfl rfl rfl (.there .here) (by rw [List.length_map];omega) (iN _ _ _) ?_
    repeat (first | refine JL.q (by first|(apply OQ.move;rfl)|(apply OQ.bN;rfl;rfl)) rfl ?_ | refine JC.seq ?_ | refine JC.region ?_ | refine JL.nil ?_ | refine JE.next ?_)
    refine JC.cond rfl (fun h=>?_) (fun h=>?_)
    · have h15 : i<15:=of_decide_eq_true h
      clear h
      have hn:=hf.next hl h15
      have hm : nth ((fk l i).set i (nth (fk l i) i - nth (fk l i) i / 65536 * 65536)) (i+1)=nth (fk l i) (i+1):=by rw [bF _ _ _ _ (by omega),if_neg (by omega)]
      have hd:=fY (l:=(fk l i).set i (nth (fk l i) i - nth (fk l i) i / 65536 * 65536)) (i:=i+1) (by rw [List.length_set];omega)
      repeat (first | refine JL.q (by first|(apply OQ.aD;exact Tryz.underlying97;exact ld;rfl;rfl;exact (by (try simp only []);omega))|(apply OQ.load;exact qJ;rfl;exact (.there .here);exact (Row.cell hd))|(apply OQ.DD;rfl;rfl;exact (by omega);exact (by omega))|(apply OQ.move;rfl)) rfl ?_ | refine JC.region ?_)
      refine JL.az (r':=(fk l (i+1)).map I) ld rfl rfl rfl rfl (.there .here) (by rw [List.length_map,List.length_set,len];(try simp only []);omega) (by rw [iN,Ew h15]) ?_
      repeat (first | refine JL.q (by first|(apply OQ.move;rfl)|(apply OQ.assign;rfl)|(apply OQ.aY;rfl;rfl;exact (by (try simp only []);omega))) rfl ?_ | refine JC.region ?_ | refine JL.nil ?_ | refine JE.next ?_ | refine JE.aq ?_)
      exact JE.again (i:=i) (i+1) (by omega) (by omega) (by repeat (first | exact ai.nil | refine ai.cons _ _ _ rfl ?_)) (an.refl _)
    · have h15 : ¬ i<15:=of_decide_eq_false h
      obtain rfl : i=15:=by omega
      clear h
      have hn:=hf.zero hl
      have hm : nth ((fk l 15).set 15 (nth (fk l 15) 15 - nth (fk l 15) 15 / 65536 * 65536)) 0=nth (fk l 15) 0:=by rw [bF _ _ _ _ (by omega),if_neg (by omega)]
      have hd:=fY (l:=(fk l 15).set 15 (nth (fk l 15) 15 - nth (fk l 15) 15 / 65536 * 65536)) (i:=0) (by rw [List.length_set];omega)
      repeat (first | refine JL.q (by first|(apply OQ.aD;exact Tryz.underlying97;exact ld;rfl;rfl;exact (by decide))|(apply OQ.load;exact qJ;rfl;exact (.there .here);exact (Row.cell hd))|(apply OQ.IE (a:=38);rfl;rfl;exact (by omega);exact (by omega))|(apply OQ.DD;rfl;rfl;exact (by omega);exact (by omega))|(apply OQ.move;rfl)) rfl ?_ | refine JC.region ?_)
      refine JL.az (r':=(fk l 16).map I) ld rfl rfl rfl rfl (.there .here) (by rw [List.length_map,List.length_set,len];(try simp only []);omega) (by rw [iN,Ex]) ?_
      repeat (first | refine JL.q (by first|(apply OQ.move;rfl)|(apply OQ.assign;rfl)|(apply OQ.aY;rfl;rfl;exact (by (try simp only []);omega))) rfl ?_ | refine JC.region ?_ | refine JL.nil ?_ | refine JE.next ?_ | refine JE.aq ?_)
      exact JE.again (i:=15) 16 (by omega) (by omega) (by repeat (first | exact ai.nil | refine ai.cons _ _ _ rfl ?_)) (an.refl _)
  · have hi' : ¬ i<16:=of_decide_eq_false h
    obtain rfl : i=16:=by omega
    clear h hi hi'
    have hl' : ((fk l 16).map I).length=16:=by rw [List.length_map];exact len
    repeat (first | refine JL.q (by (apply OQ.af (cs:=(fk l 16).map I);exact cu;exact bg;rfl;exact (.there .here);exact hl';exact Row.all)) rfl ?_ | refine JC.seq ?_ | refine JC.region ?_ | refine JC.exit ?_ | refine JE.next ?_ | refine JE.ax ?_ | refine JE.aA ?_)
    refine JL.ag bg rfl rfl hl' (bE _) .here (by simp) ?_
    repeat (first | refine JL.nil ?_ | refine JE.next ?_)
    refine JC.ret (JE.aR rfl (RV.av cu bg rfl .here hl' Row.all) ?_)
    exact fun w' hw=>⟨rfl,hw.aM⟩
end
section
namespace dW
def fi (x : Int) : F:=⟨(x % (P : Int)).toNat,by
  have h1 : 0≤x % (P : Int):=Int.emod_nonneg _ (by decide)
  have h2 : x % (P : Int)<(P : Int):=Int.emod_lt_of_pos _ (by decide)
  omega⟩
theorem jw (x : Int) : ((fi x).val : Int)=x % (P : Int):=Int.toNat_of_nonneg (Int.emod_nonneg _ (by decide))
theorem A2 {a b : F} (h : (a.val : Int)=(b.val : Int)) : a=b:=Fin.ext (by omega)
theorem vH (x y : Int) : fi (x+y)=fi x+fi y:=A2 (by
  rw [jw,Fin.val_add,Int.natCast_emod,Int.natCast_add,jw,jw,← Int.add_emod])
theorem Ey (x y : Int) : fi (x * y)=fi x * fi y:=A2 (by
  rw [jw,Fin.val_mul,Int.natCast_emod,Int.natCast_mul,jw,jw,← Int.mul_emod])
theorem Jp (x y : Int) : fi (x - y)=fi x - fi y:=by
  have h:=vH (x - y) y
  rw [Int.sub_add_cancel] at h
  rw [h]
  generalize fi (x - y)=a
  generalize fi y=b
  clear h
  grobner
theorem MR (q : Int) : fi (q * P)=0:=A2 (by rw [jw,Int.mul_emod_left];rfl)
theorem zM {x y q : Int} (h : x=y+q * P) : fi x=fi y:=by
  rw [h,vH,MR]
  generalize fi y=a
  clear h
  grobner
theorem Jq (x : F) : fi (x.val : Int)=x:=A2 (by
  rw [jw]
  exact Int.emod_eq_of_lt (by omega) (by have:=x.isLt;omega))
def fv (l : List Int) : F:=fi (val l)
theorem rY {l : List Int} (hl : l.length=16) : fv (qm l)=fv l:=by
  obtain ⟨q,e⟩:=GD hl
  refine zM (q:=-(2 * q)) ?_
  rw [e,Int.sub_eq_add_neg,← Int.neg_mul,← Int.mul_assoc,Int.mul_comm (-q) 2,Int.mul_neg]
def ps (l : List Int) : Nat→Int
  | 0=>0
  | k+1=>ps l k+nth l k * 65536 ^ k
theorem A3 (a : Int) (l : List Int) : ∀ k,ps (a::l) (k+1)=a+65536 * ps l k
  | 0=>by
    show 0+nth (a::l) 0 * 65536 ^ 0=a+65536 * 0
    rw [Int.pow_zero]
    show 0+a * 1=a+65536 * 0
    omega
  | k+1=>by
    show ps (a::l) (k+1)+nth (a::l) (k+1) * 65536 ^ (k+1)=a+65536 * (ps l k+nth l k * 65536 ^ k)
    rw [A3 a l k,Int.pow_succ,Int.mul_comm (65536 ^ k) 65536,Int.mul_add,Int.mul_left_comm]
    show a+65536 * ps l k+65536 * (nth l k * 65536 ^ k)=_
    rw [Int.add_assoc]
theorem Ez : ∀ k,ps [] k=0
  | 0=>rfl
  | k+1=>by show ps [] k+0 * 65536 ^ k=0;rw [Ez k,Int.zero_mul];rfl
theorem gQ : ∀ (l : List Int) (k : Nat),l.length≤k→val l=ps l k
  | [],k,_=>(Ez k).symm
  | a::l,0,h=>absurd h (by simp)
  | a::l,k+1,h=>by rw [A3,← gQ l k (by simpa using h)];rfl
def fK (f : Int→Int→Int) (a b : List Int) : Nat→List Int
  | 0=>a
  | i+1=>(fK f a b i).set i (f (nth (fK f a b i) i) (nth b i))
theorem gr (f : Int→Int→Int) (a b : List Int) : ∀ i,(fK f a b i).length=a.length
  | 0=>rfl
  | i+1=>by rw [fK,List.length_set,gr f a b i]
theorem lQ (f : Int→Int→Int) (a b : List Int) (j : Nat) : ∀ i,i≤a.length→nth (fK f a b i) j=if j<i then f (nth a j) (nth b j) else nth a j
  | 0,_=>rfl
  | i+1,h=>by
    have ih:=lQ f a b j i (by omega)
    rw [fK,bF _ _ _ _ (by rw [gr];omega)]
    by_cases e : i=j
    · subst e
      rw [if_pos rfl,if_pos (by omega),ih,if_neg (by omega)]
    · rw [if_neg e,ih]
      by_cases e2 : j<i
      · rw [if_pos e2,if_pos (by omega)]
      · rw [if_neg e2,if_neg (by omega)]
theorem rZ (s : Int) (a b : List Int) : ∀ i,i≤a.length→val (fK (fun x y=>x+s * y) a b i)=val a+s * ps b i
  | 0,_=>by show val a=val a+s * 0;rw [Int.mul_zero,Int.add_zero]
  | i+1,h=>by
    rw [fK,gm _ _ _ (by rw [gr];omega),rZ s a b i (by omega)]
    show val a+s * ps b i+(nth (fK (fun x y=>x+s * y) a b i) i+s * nth b i - nth (fK (fun x y=>x+s * y) a b i) i) * 65536 ^ i=val a+s * (ps b i+nth b i * 65536 ^ i)
    generalize nth (fK (fun x y=>x+s * y) a b i) i=z
    rw [show z+s * nth b i - z=s * nth b i by omega,Int.mul_add,Int.mul_assoc,Int.add_assoc]
def nR (a b : List Int) : List Int:=qm (fK (fun x y=>x+y) a b 16)
def nU (a b : List Int) : List Int:=qm (fK (fun x y=>x - y) a b 16)
theorem GF (a b : List Int) : fK (fun x y=>x+y) a b=fK (fun x y=>x+1 * y) a b:=by
  have : (fun x y : Int=>x+y)=fun x y=>x+1 * y:=by funext x y;omega
  rw [this]
theorem GG (a b : List Int) : fK (fun x y=>x - y) a b=fK (fun x y=>x+-1 * y) a b:=by
  have : (fun x y : Int=>x - y)=fun x y=>x+-1 * y:=by funext x y;omega
  rw [this]
abbrev Good (l : List Int) : Prop:=Small (-128) 65663 l
theorem xH {f : Int→Int→Int} {a b : List Int} {x0 y0 x1 y1 : Int} (ha : Good a) (hb : Good b)
    (h0 : ∀ x y,-128≤x→x≤65663→-128≤y→y≤65663→x0≤f x y∧f x y≤y0)
    (h1 : ∀ x y,0≤x→x≤65535→0≤y→y≤65535→x1≤f x y∧f x y≤y1) : Jo (Co x0 x1) (Co y0 y1) (fK f a b 16):=fun j hj=>by
  rw [gp _ _ _ hj,gp _ _ _ hj,lQ _ _ _ _ _ (by rw [ha.len];omega),if_pos hj]
  by_cases e : j=0
  · subst e
    rw [if_pos rfl,if_pos rfl]
    have p:=ha.first
    have q:=hb.first
    exact h0 _ _ p.1 p.2 q.1 q.2
  · rw [if_neg e,if_neg e]
    have p:=ha.rest j (by omega) hj
    have q:=hb.rest j (by omega) hj
    exact h1 _ _ p.1 p.2 q.1 q.2
theorem cw {a b : List Int} (ha : Good a) (hb : Good b) : Good (nR a b):=
  (jP (by rw [gr,ha.len]) (xH (x0:=-256) (y0:=131326) (x1:=0) (y1:=131070) ha hb (fun x y _ _ _ _=>by omega) (fun x y _ _ _ _=>by omega))).weak (by decide) (by decide)
theorem bU {a b : List Int} (ha : Good a) (hb : Good b) : Good (nU a b):=
  (jP (by rw [gr,ha.len]) (xH (x0:=-65791) (y0:=65791) (x1:=-65535) (y1:=65535) ha hb (fun x y _ _ _ _=>by omega) (fun x y _ _ _ _=>by omega))).weak (by decide) (by decide)
theorem GH {a b : List Int} (ha : a.length=16) (hb : b.length=16) : fv (nR a b)=fv a+fv b:=by
  rw [nR,rY (by rw [gr,ha]),GF]
  unfold fv
  rw [rZ _ _ _ _ (by omega),← gQ b 16 (by omega),vH,Int.one_mul]
theorem GI {a b : List Int} (ha : a.length=16) (hb : b.length=16) : fv (nU a b)=fv a - fv b:=by
  rw [nU,rY (by rw [gr,ha]),GG]
  unfold fv
  rw [rZ _ _ _ _ (by omega),← gQ b 16 (by omega),show val a+-1 * val b=val a - val b by omega,Jp]
def xI (t a b : List Int) (i : Nat) : Nat→List Int
  | 0=>t
  | k+1=>(xI t a b i k).set (i+k) (nth (xI t a b i k) (i+k)+nth a i * nth b k)
def fF (a b : List Int) : Nat→List Int
  | 0=>List.replicate 31 0
  | i+1=>xI (fF a b i) a b i 16
theorem oH (t a b : List Int) (i : Nat) : ∀ k,(xI t a b i k).length=t.length
  | 0=>rfl
  | k+1=>by rw [xI,List.length_set,oH t a b i k]
theorem iO (a b : List Int) : ∀ i,(fF a b i).length=31
  | 0=>rfl
  | i+1=>by rw [fF,oH,iO a b i]
theorem A4 (t a b : List Int) (i : Nat) (h : i<16) (ht : t.length=31) : ∀ k,k≤16→val (xI t a b i k)=val t+nth a i * 65536 ^ i * ps b k
  | 0,_=>by show val t=val t+nth a i * 65536 ^ i * 0;rw [Int.mul_zero,Int.add_zero]
  | k+1,hk=>by
    rw [xI,gm _ _ _ (by rw [oH];omega),A4 t a b i h ht k (by omega)]
    show val t+nth a i * 65536 ^ i * ps b k+(nth (xI t a b i k) (i+k)+nth a i * nth b k - nth (xI t a b i k) (i+k)) * 65536 ^ (i+k)=val t+nth a i * 65536 ^ i * (ps b k+nth b k * 65536 ^ k)
    generalize nth (xI t a b i k) (i+k)=z
    rw [show z+nth a i * nth b k - z=nth a i * nth b k by omega,Int.pow_add,Int.mul_add,Int.add_assoc]
    congr 2
    rw [Int.mul_assoc,Int.mul_assoc]
    congr 1
    rw [Int.mul_left_comm]
theorem xJ (a b : List Int) : ∀ i,i≤16→val (fF a b i)=ps a i * ps b 16
  | 0,_=>by show val (List.replicate 31 0)=0 * ps b 16;rw [Int.zero_mul];decide
  | i+1,h=>by
    rw [fF,A4 _ _ _ _ (by omega) (iO a b i) 16 (by omega),xJ a b i (by omega)]
    show ps a i * ps b 16+nth a i * 65536 ^ i * ps b 16=(ps a i+nth a i * 65536 ^ i) * ps b 16
    rw [Int.add_mul]
def pM (m : Int) (l : List Int) : Prop:=∀ j,-m≤nth l j∧nth l j≤m
theorem A5 {x y : Int} (h1 : -131072≤x) (h2 : x≤131072) (h3 : -131072≤y) (h4 : y≤131072) : -17179869184≤x * y∧x * y≤17179869184:=by
  have a : x.natAbs≤131072:=by omega
  have b : y.natAbs≤131072:=by omega
  have c:=Nat.mul_le_mul a b
  rw [← Int.natAbs_mul] at c
  omega
theorem r8 {t a b : List Int} {i : Nat} {m : Int} (h : i<16) (ht : t.length=31) (ha : pM 131072 a) (hb : pM 131072 b) (hw : pM m t) : ∀ k : Nat,k≤16→pM (m+17179869184 * k) (xI t a b i k)
  | 0,_=>fun j=>by have:=hw j;show -(m+17179869184 * (0 : Nat))≤nth t j∧nth t j≤m+17179869184 * (0 : Nat);omega
  | k+1,hk=>fun j=>by
    have ih:=r8 h ht ha hb hw k (by omega)
    have p:=A5 (ha i).1 (ha i).2 (hb k).1 (hb k).2
    rw [xI,bF _ _ _ _ (by rw [oH];omega)]
    generalize nth a i * nth b k=z at p
    split
    · have:=ih (i+k)
      omega
    · have:=ih j
      omega
theorem iP (n j : Nat) : nth (List.replicate n 0) j=0:=by
  unfold nth
  rw [List.getD_eq_getElem?_getD,List.getElem?_replicate]
  split <;> rfl
theorem mL {a b : List Int} (ha : pM 131072 a) (hb : pM 131072 b) : ∀ i : Nat,i≤16→pM (274877906944 * i) (fF a b i)
  | 0,_=>fun j=>by rw [fF,iP];omega
  | i+1,h=>fun j=>by
    have ih:=r8 (i:=i) (by omega) (iO a b i) ha hb (mL ha hb i (by omega)) 16 (by omega) j
    rw [fF]
    omega
theorem Good.wide {l : List Int} (h : Good l) : pM 131072 l:=fun j=>by
  by_cases e : j=0
  · subst e;have:=h.first;omega
  · by_cases e2 : j<16
    · have:=h.rest j (by omega) e2;omega
    · have : nth l j=0:=by
        unfold nth
        rw [List.getD_eq_getElem?_getD,List.getElem?_eq_none (by rw [h.len];omega)];rfl
      omega
def fold (t : List Int) : Nat→List Int
  | 0=>List.replicate 16 0
  | i+1=>if i<15 then ((fold t i).set i (nth t i)).set i (nth ((fold t i).set i (nth t i)) i+38 * nth t (i+16)) else (fold t i).set i (nth t i)
theorem iQ (t : List Int) : ∀ i,(fold t i).length=16
  | 0=>rfl
  | i+1=>by rw [fold];split <;> simp [iQ t i]
theorem oI (t : List Int) : ∀ i,i≤16→∀ j,nth (fold t i) j=if j<i then (if j<15 then nth t j+38 * nth t (j+16) else nth t j) else 0
  | 0,_,j=>by rw [fold,iP];rfl
  | i+1,h,j=>by
    have ih:=oI t i (by omega) j
    have l:=iQ t i
    have x1 : ∀ z,nth ((fold t i).set i z) j=if i=j then z else nth (fold t i) j:=fun z=>bF _ _ _ _ (by omega)
    have x2 : ∀ z y,nth (((fold t i).set i z).set i y) j=if i=j then y else nth ((fold t i).set i z) j:=fun z y=>bF _ _ _ _ (by rw [List.length_set];omega)
    have x3 : ∀ z,nth ((fold t i).set i z) i=z:=fun z=>by rw [bF _ _ _ _ (by omega),if_pos rfl]
    rw [fold]
    by_cases e : i<15
    · rw [if_pos e,x2,x1,x3,ih]
      by_cases e2 : i=j
      · subst e2
        rw [if_pos rfl,if_pos (by omega),if_pos e]
      · rw [if_neg e2,if_neg e2]
        by_cases e3 : j<i
        · rw [if_pos e3];exact (if_pos (by omega)).symm
        · rw [if_neg e3,if_neg (by omega)]
    · rw [if_neg e,x1,ih]
      by_cases e2 : i=j
      · subst e2
        rw [if_pos rfl,if_pos (by omega),if_neg e]
      · rw [if_neg e2]
        by_cases e3 : j<i
        · rw [if_pos e3];exact (if_pos (by omega)).symm
        · rw [if_neg e3,if_neg (by omega)]
def zN (t : List Int) : Nat→Int
  | 0=>0
  | k+1=>zN t k+nth t (k+16) * 65536 ^ k
theorem Ie (t : List Int) : ∀ k,ps t (16+k)=ps t 16+65536 ^ 16 * zN t k
  | 0=>by show ps t 16=ps t 16+65536 ^ 16 * 0;rw [Int.mul_zero,Int.add_zero]
  | k+1=>by
    show ps t (16+k)+nth t (16+k) * 65536 ^ (16+k)=ps t 16+65536 ^ 16 * (zN t k+nth t (k+16) * 65536 ^ k)
    rw [Ie t k,Int.mul_add,Int.add_assoc,Nat.add_comm 16 k,Int.pow_add,Int.mul_comm (65536 ^ k),← Int.mul_assoc,Int.mul_comm (nth t (k+16)),Int.mul_assoc (65536 ^ 16)]
theorem A6 (t : List Int) : ∀ k,k≤15→ps (fold t 16) k=ps t k+38 * zN t k
  | 0,_=>rfl
  | k+1,h=>by
    show ps (fold t 16) k+nth (fold t 16) k * 65536 ^ k=ps t k+nth t k * 65536 ^ k+38 * (zN t k+nth t (k+16) * 65536 ^ k)
    rw [A6 t k (by omega),oI t 16 (by omega),if_pos (by omega),if_pos (by omega),Int.add_mul,Int.mul_add,Int.mul_assoc]
    omega
theorem EA {t : List Int} (ht : t.length=31) : val t=val (fold t 16)+2 * zN t 15 * P:=by
  rw [gQ t 31 (by omega),gQ (fold t 16) 16 (by rw [iQ];omega)]
  have a:=Ie t 15
  have b:=A6 t 15 (by omega)
  have c : ps (fold t 16) 16=ps (fold t 16) 15+nth (fold t 16) 15 * 65536 ^ 15:=rfl
  have d : ps t 16=ps t 15+nth t 15 * 65536 ^ 15:=rfl
  have e : nth (fold t 16) 15=nth t 15:=by rw [oI t 16 (by omega),if_pos (by omega),if_neg (by omega)]
  rw [a,c,b,e,d]
  generalize nth t 15 * 65536 ^ 15=z
  generalize zN t 15=y
  have e4 : (65536 : Int) ^ 16=2 * (P : Int)+38:=by decide
  rw [e4]
  have e5 : ((P : Nat) : Int)=57896044618658097711785492504343953926634992332820282019728792003956564819949:=rfl
  rw [e5]
  omega
def mulL (a b : List Int) : List Int:=qm (qm (fold (fF a b 16) 16))
theorem uy {a b : List Int} (ha : Good a) (hb : Good b) : pM 171523813933056 (fold (fF a b 16) 16):=fun j=>by
  have w:=mL ha.wide hb.wide 16 (by omega)
  have w1:=w j
  have w2:=w (j+16)
  rw [oI _ 16 (by omega)]
  split
  · split <;> omega
  · omega
theorem EB {a b : List Int} (w : pM 171523813933056 (fold (fF a b 16) 16)) : pM 100000000000 (qm (fold (fF a b 16) 16)):=fun j=>by
  have b1 : Jo (Co (-171523813933056) (-171523813933056)) (Co 171523813933056 171523813933056) (fold (fF a b 16) 16):=fun j hj=>by
    rw [gp _ _ _ hj,gp _ _ _ hj]
    have:=w j
    split <;> omega
  have s1:=(jP (iQ _ 16) b1).weak (c:=-100000000000) (d:=100000000000) (by decide) (by decide)
  by_cases e : j=0
  · subst e;exact s1.first
  · by_cases e2 : j<16
    · have:=s1.rest j (by omega) e2;omega
    · have : nth (qm (fold (fF a b 16) 16)) j=0:=by
        unfold nth
        rw [List.getD_eq_getElem?_getD,List.getElem?_eq_none (by rw [s1.len];omega)];rfl
      omega
theorem aI {a b : List Int} (ha : Good a) (hb : Good b) : Good (mulL a b):=by
  have w:=uy ha hb
  have b1 : Jo (Co (-171523813933056) (-171523813933056)) (Co 171523813933056 171523813933056) (fold (fF a b 16) 16):=fun j hj=>by
    rw [gp _ _ _ hj,gp _ _ _ hj]
    have:=w j
    split <;> omega
  have s1:=(jP (iQ _ 16) b1).weak (c:=-100000000000) (d:=100000000000) (by decide) (by decide)
  exact (jP s1.len s1.Kl).weak (by decide) (by decide)
theorem qK {a b : List Int} (ha : a.length=16) (hb : b.length=16) : fv (mulL a b)=fv a * fv b:=by
  have l1:=iQ (fF a b 16) 16
  have e1 : fv (fold (fF a b 16) 16)=fi (val (fF a b 16)):=(zM (EA (iO a b 16))).symm
  rw [mulL,rY (by rw [qm,kr,l1]),rY l1,e1,xJ a b 16 (by omega),← gQ a 16 (by omega),← gQ b 16 (by omega),Ey]
  rfl
end dW
end
section
set_option maxRecDepth 10000
open Sl dW
theorem mM : aL Tryz.prog 49:=⟨_,Tryz.func49,rfl,by kernel_rfl⟩
theorem ku : aL Tryz.prog 50:=⟨_,Tryz.func50,rfl,by kernel_rfl⟩
theorem cI : aL Tryz.prog 51:=⟨_,Tryz.func51,rfl,by kernel_rfl⟩
theorem MS : dP Tryz.prog 116=some 31:=by kernel_rfl
theorem MT : zc Tryz.prog 116=some ((List.replicate 31 (0 : Int)).map I):=by kernel_rfl
theorem Fit.vI {l : List Int} {m : Int} (h : pM m l) (hm : m≤288230376151711744) : Fit l:=fun j _=>by have:=h j;omega
theorem xK {f : Int→Int→Int} {a b : List Int} (ha : Good a) (hb : Good b) (h : ∀ x y,-131072≤x→x≤131072→-131072≤y→y≤131072→-300000≤f x y∧f x y≤300000) : Fit (fK f a b 16):=fun j hj=>by
  rw [lQ _ _ _ _ _ (by rw [ha.len];omega),if_pos hj]
  have p:=ha.wide j
  have q:=hb.wide j
  have:=h _ _ p.1 p.2 q.1 q.2
  omega
set_option maxHeartbeats 8000000 in
theorem oJ (a b : List Int) (ha : Good a) (hb : Good b) (w : World) : Calls Tryz.prog 49 [.agg (a.map I).toArray,.agg (b.map I).toArray].toArray w fun e w'=>e=.returned (.agg ((nR a b).map I).toArray)∧Ext w w':=by
  refine enter (n:=20) Tryz.func49 rfl rfl rfl (ah.start w []) ?_
  repeat (first | refine JC.seq ?_ | refine JC.region ?_)
  refine JL.box (r:=a.map I) rfl rfl rfl fun b2 _=>?_
  refine JL.box (r:=b.map I) rfl rfl rfl fun b3 _=>?_
  refine JL.alloc jv rfl fun b4 _=>?_
  repeat (first | refine JL.q (by (apply OQ.assign;rfl)) rfl ?_ | refine JC.seq ?_ | refine JC.region ?_ | refine JC.block ?_ | refine JL.nil ?_ | refine JE.next ?_)
  refine JC.loop (fun i : Nat=>[(2,Pt b2 0),(3,Pt b3 0),(4,Pt b4 0),(5,N i)])
    (fun i=>[⟨b4,Row 97 ((List.replicate 16 (0 : Int)).map I),true⟩,⟨b3,Row 97 (b.map I),true⟩,⟨b2,Row 97 ((fK (fun x y=>x+y) a b i).map I),true⟩])
    (fun i=>16 - i) (fun i=>i≤16) 0 (by omega) (by repeat (first | exact ai.nil | refine ai.cons _ _ _ rfl ?_)) (an.refl _) ?_
  intro i hi
  have len:=gr (fun x y=>x+y) a b i
  rw [ha.len] at len
  repeat (first | refine JL.q (by first|(apply OQ.move;rfl)|(apply OQ.bN;rfl;rfl)) rfl ?_ | refine JC.seq ?_ | refine JC.region ?_ | refine JL.nil ?_ | refine JE.next ?_)
  refine JC.cond rfl (fun h=>?_) (fun h=>?_)
  · have hi' : i<16:=of_decide_eq_true h
    clear h hi
    have hc:=fY (l:=fK (fun x y=>x+y) a b i) (i:=i) (by omega)
    have hd:=fY (l:=b) (i:=i) (by rw [hb.len];omega)
    have e1 : nth (fK (fun x y=>x+y) a b i) i=nth a i:=by rw [lQ _ _ _ _ _ (by rw [ha.len];omega),if_neg (by omega)]
    have w1:=ha.wide i
    have w2:=hb.wide i
    repeat (first | refine JC.seq ?_ | refine JC.block ?_ | refine JC.skip ?_ | refine JE.next ?_)
    refine JC.tail 8 eP (by kernel_rfl) ?_
    simp only [List.take_succ_cons,List.take_zero,List.drop_succ_cons,List.drop_zero]
    repeat (first | refine JQ.q (by first|(apply OQ.aD;exact Tryz.underlying97;exact ld;rfl;rfl;exact (by (try simp only []);omega))|(apply OQ.load;exact qJ;rfl;exact (.there (.there .here));exact (Row.cell hc))|(apply OQ.load;exact qJ;rfl;exact (.there .here);exact (Row.cell hd))|(apply OQ.DD;rfl;rfl;exact (by omega);exact (by omega))|(apply OQ.move;rfl)) rfl ?_ | refine JQ.bC ?_)
    refine JL.az (r':=(fK (fun x y=>x+y) a b (i+1)).map I) ld rfl rfl rfl rfl (.there (.there .here)) (by rw [List.length_map,len];(try simp only []);omega) (iN _ _ _) ?_
    repeat (first | refine JL.q (by first|(apply OQ.move;rfl)|(apply OQ.assign;rfl)|(apply OQ.aY;rfl;rfl;exact (by (try simp only []);omega))) rfl ?_ | refine JC.region ?_ | refine JL.nil ?_ | refine JE.next ?_ | refine JE.aq ?_)
    exact JE.again (i:=i) (i+1) (by omega) (by omega) (by repeat (first | exact ai.nil | refine ai.cons _ _ _ rfl ?_)) (an.refl _)
  · have hi' : ¬ i<16:=of_decide_eq_false h
    obtain rfl : i=16:=by omega
    clear h hi hi'
    have hl' : ((fK (fun x y=>x+y) a b 16).map I).length=16:=by rw [List.length_map];exact len
    have hl2 : ((nR a b).map I).length=16:=by rw [List.length_map];exact (cw ha hb).len
    have hf : Fit (fK (fun x y=>x+y) a b 16):=xK ha hb fun x y _ _ _ _=>by omega
    repeat (first | refine JL.q (by first|(apply OQ.af (cs:=(fK (fun x y=>x+y) a b 16).map I);exact cu;exact bg;rfl;exact (.there (.there .here));exact hl';exact Row.all)|(apply OQ.au;exact gP;rfl;exact (fun w' _=>iE _ len hf w'))) rfl ?_ | refine JC.seq ?_ | refine JC.region ?_ | refine JC.exit ?_ | refine JE.next ?_ | refine JE.ax ?_ | refine JE.aA ?_)
    refine JL.ag bg rfl rfl hl2 (bE _) .here (by simp) ?_
    repeat (first | refine JL.nil ?_ | refine JE.next ?_)
    refine JC.ret (JE.aR rfl (RV.av cu bg rfl .here hl2 Row.all) ?_)
    exact fun w' hw=>⟨rfl,hw.aM⟩
set_option maxHeartbeats 8000000 in
theorem mN (a b : List Int) (ha : Good a) (hb : Good b) (w : World) : Calls Tryz.prog 50 [.agg (a.map I).toArray,.agg (b.map I).toArray].toArray w fun e w'=>e=.returned (.agg ((nU a b).map I).toArray)∧Ext w w':=by
  refine enter (n:=20) Tryz.func50 rfl rfl rfl (ah.start w []) ?_
  repeat (first | refine JC.seq ?_ | refine JC.region ?_)
  refine JL.box (r:=a.map I) rfl rfl rfl fun b2 _=>?_
  refine JL.box (r:=b.map I) rfl rfl rfl fun b3 _=>?_
  refine JL.alloc jv rfl fun b4 _=>?_
  repeat (first | refine JL.q (by (apply OQ.assign;rfl)) rfl ?_ | refine JC.seq ?_ | refine JC.region ?_ | refine JC.block ?_ | refine JL.nil ?_ | refine JE.next ?_)
  refine JC.loop (fun i : Nat=>[(2,Pt b2 0),(3,Pt b3 0),(4,Pt b4 0),(5,N i)])
    (fun i=>[⟨b4,Row 97 ((List.replicate 16 (0 : Int)).map I),true⟩,⟨b3,Row 97 (b.map I),true⟩,⟨b2,Row 97 ((fK (fun x y=>x - y) a b i).map I),true⟩])
    (fun i=>16 - i) (fun i=>i≤16) 0 (by omega) (by repeat (first | exact ai.nil | refine ai.cons _ _ _ rfl ?_)) (an.refl _) ?_
  intro i hi
  have len:=gr (fun x y=>x - y) a b i
  rw [ha.len] at len
  repeat (first | refine JL.q (by first|(apply OQ.move;rfl)|(apply OQ.bN;rfl;rfl)) rfl ?_ | refine JC.seq ?_ | refine JC.region ?_ | refine JL.nil ?_ | refine JE.next ?_)
  refine JC.cond rfl (fun h=>?_) (fun h=>?_)
  · have hi' : i<16:=of_decide_eq_true h
    clear h hi
    have hc:=fY (l:=fK (fun x y=>x - y) a b i) (i:=i) (by omega)
    have hd:=fY (l:=b) (i:=i) (by rw [hb.len];omega)
    have e1 : nth (fK (fun x y=>x - y) a b i) i=nth a i:=by rw [lQ _ _ _ _ _ (by rw [ha.len];omega),if_neg (by omega)]
    have w1:=ha.wide i
    have w2:=hb.wide i
    repeat (first | refine JC.seq ?_ | refine JC.block ?_ | refine JC.skip ?_ | refine JE.next ?_)
    refine JC.tail 8 eP (by kernel_rfl) ?_
    simp only [List.take_succ_cons,List.take_zero,List.drop_succ_cons,List.drop_zero]
    repeat (first | refine JQ.q (by first|(apply OQ.aD;exact Tryz.underlying97;exact ld;rfl;rfl;exact (by (try simp only []);omega))|(apply OQ.load;exact qJ;rfl;exact (.there (.there .here));exact (Row.cell hc))|(apply OQ.load;exact qJ;rfl;exact (.there .here);exact (Row.cell hd))|(apply OQ.om;rfl;rfl;exact (by omega);exact (by omega))|(apply OQ.move;rfl)) rfl ?_ | refine JQ.bC ?_)
    refine JL.az (r':=(fK (fun x y=>x - y) a b (i+1)).map I) ld rfl rfl rfl rfl (.there (.there .here)) (by rw [List.length_map,len];(try simp only []);omega) (iN _ _ _) ?_
    repeat (first | refine JL.q (by first|(apply OQ.move;rfl)|(apply OQ.assign;rfl)|(apply OQ.aY;rfl;rfl;exact (by (try simp only []);omega))) rfl ?_ | refine JC.region ?_ | refine JL.nil ?_ | refine JE.next ?_ | refine JE.aq ?_)
    exact JE.again (i:=i) (i+1) (by omega) (by omega) (by repeat (first | exact ai.nil | refine ai.cons _ _ _ rfl ?_)) (an.refl _)
  · have hi' : ¬ i<16:=of_decide_eq_false h
    obtain rfl : i=16:=by omega
    clear h hi hi'
    have hl' : ((fK (fun x y=>x - y) a b 16).map I).length=16:=by rw [List.length_map];exact len
    have hl2 : ((nU a b).map I).length=16:=by rw [List.length_map];exact (bU ha hb).len
    have hf : Fit (fK (fun x y=>x - y) a b 16):=xK ha hb fun x y _ _ _ _=>by omega
    repeat (first | refine JL.q (by first|(apply OQ.af (cs:=(fK (fun x y=>x - y) a b 16).map I);exact cu;exact bg;rfl;exact (.there (.there .here));exact hl';exact Row.all)|(apply OQ.au;exact gP;rfl;exact (fun w' _=>iE _ len hf w'))) rfl ?_ | refine JC.seq ?_ | refine JC.region ?_ | refine JC.exit ?_ | refine JE.next ?_ | refine JE.ax ?_ | refine JE.aA ?_)
    refine JL.ag bg rfl rfl hl2 (bE _) .here (by simp) ?_
    repeat (first | refine JL.nil ?_ | refine JE.next ?_)
    refine JC.ret (JE.aR rfl (RV.av cu bg rfl .here hl2 Row.all) ?_)
    exact fun w' hw=>⟨rfl,hw.aM⟩
end
section
set_option maxRecDepth 10000
open Sl dW
def kz (t : List Int) (i : Nat) : List Int:=(fold t i).set i (nth t i)
set_option maxHeartbeats 16000000 in
theorem dD (a b : List Int) (ha : Good a) (hb : Good b) (w : World) : Calls Tryz.prog 51 [.agg (a.map I).toArray,.agg (b.map I).toArray].toArray w fun e w'=>e=.returned (.agg ((mulL a b).map I).toArray)∧Ext w w':=by
  have wa:=ha.wide
  have wb:=hb.wide
  refine enter (n:=58) Tryz.func51 rfl rfl rfl (ah.start w []) ?_
  repeat (first | refine JC.seq ?_ | refine JC.region ?_)
  refine JL.box (r:=a.map I) rfl rfl rfl fun b2 _=>?_
  refine JL.box (r:=b.map I) rfl rfl rfl fun b3 _=>?_
  refine JL.alloc jv rfl fun b4 _=>?_
  repeat (first | refine JC.seq ?_ | refine JC.region ?_ | refine JL.nil ?_ | refine JE.next ?_)
  refine JL.q (OQ.pure (v:=.agg ((fF a b 0).map I).toArray) rfl rfl (by kernel_rfl)) rfl ?_
  refine JL.alloc MT rfl fun b5 _=>?_
  refine JL.ag MS rfl rfl rfl (bE _) .here (by simp) ?_
  repeat (first | refine JL.q (by (apply OQ.assign;rfl)) rfl ?_ | refine JC.seq ?_ | refine JC.region ?_ | refine JC.block ?_ | refine JL.nil ?_ | refine JE.next ?_)
  refine JC.loop (fun i : Nat=>[(2,Pt b2 0),(3,Pt b3 0),(4,Pt b4 0),(5,Pt b5 0),(6,N i)])
    (fun i=>[⟨b5,Row 116 ((fF a b i).map I),true⟩,⟨b4,Row 97 ((List.replicate 16 (0 : Int)).map I),true⟩,⟨b3,Row 97 (b.map I),true⟩,⟨b2,Row 97 (a.map I),true⟩])
    (fun i=>16 - i) (fun i=>i≤16) 0 (by omega) (by repeat (first | exact ai.nil | refine ai.cons _ _ _ rfl ?_)) (an.refl _) ?_
  intro i hi
  repeat (first | refine JL.q (by first|(apply OQ.move;rfl)|(apply OQ.bN;rfl;rfl)) rfl ?_ | refine JC.seq ?_ | refine JC.region ?_ | refine JL.nil ?_ | refine JE.next ?_)
  refine JC.cond rfl (fun h=>?_) (fun h=>?_)
  · have hi' : i<16:=of_decide_eq_true h
    clear h hi
    repeat (first | refine JL.q (by (apply OQ.assign;rfl)) rfl ?_ | refine JC.seq ?_ | refine JC.region ?_ | refine JC.block ?_ | refine JC.skip ?_ | refine JL.nil ?_ | refine JE.next ?_)
    refine JC.loop (fun k : Nat=>[(2,Pt b2 0),(3,Pt b3 0),(4,Pt b4 0),(5,Pt b5 0),(6,N i),(7,N k)])
      (fun k=>[⟨b5,Row 116 ((xI (fF a b i) a b i k).map I),true⟩,⟨b4,Row 97 ((List.replicate 16 (0 : Int)).map I),true⟩,⟨b3,Row 97 (b.map I),true⟩,⟨b2,Row 97 (a.map I),true⟩])
      (fun k=>16 - k) (fun k=>k≤16) 0 (by omega) (by repeat (first | exact ai.nil | refine ai.cons _ _ _ rfl ?_)) (an.refl _) ?_
    intro k hk
    have len:=oH (fF a b i) a b i k
    rw [iO] at len
    repeat (first | refine JL.q (by first|(apply OQ.move;rfl)|(apply OQ.bN;rfl;rfl)) rfl ?_ | refine JC.seq ?_ | refine JC.region ?_ | refine JL.nil ?_ | refine JE.next ?_)
    refine JC.cond rfl (fun h=>?_) (fun h=>?_)
    · have hk' : k<16:=of_decide_eq_true h
      clear h hk
      have hc:=fY (l:=xI (fF a b i) a b i k) (i:=i+k) (by omega)
      have hd:=fY (l:=a) (i:=i) (by rw [ha.len];omega)
      have he:=fY (l:=b) (i:=k) (by rw [hb.len];omega)
      have p:=A5 (wa i).1 (wa i).2 (wb k).1 (wb k).2
      have q:=r8 hi' (iO a b i) wa wb (mL wa wb i (by omega)) k (by omega) (i+k)
      have q1 : -9007199254740992≤nth (xI (fF a b i) a b i k) (i+k)∧nth (xI (fF a b i) a b i k) (i+k)≤9007199254740992:=by omega
      repeat (first | refine JC.seq ?_ | refine JC.block ?_ | refine JC.skip ?_ | refine JE.next ?_)
      refine JC.tail 14 eP (by kernel_rfl) ?_
      simp only [List.take_succ_cons,List.take_zero,List.drop_succ_cons,List.drop_zero]
      repeat (first | refine JQ.q (by first|(apply OQ.aD;exact Tryz.underlying97;exact ld;rfl;rfl;exact (by (try simp only []);omega))|(apply OQ.aD;exact Tryz.underlying116;exact ld;rfl;rfl;exact (by (try simp only []);omega))|(apply OQ.load;exact qJ;rfl;exact .here;exact (Row.cell hc))|(apply OQ.load;exact qJ;rfl;exact (.there (.there (.there .here)));exact (Row.cell hd))|(apply OQ.load;exact qJ;rfl;exact (.there (.there .here));exact (Row.cell he))|(apply OQ.IE (a:=nth a i) (b:=nth b k);rfl;rfl;exact (by omega);exact (by omega))|(apply OQ.DD;rfl;rfl;exact (by omega);exact (by omega))|(apply OQ.move;rfl)) rfl ?_ | refine JQ.bC ?_)
      refine JL.az (r':=(xI (fF a b i) a b i (k+1)).map I) ld rfl rfl rfl rfl .here (by rw [List.length_map,len];(try simp only []);omega) (iN _ _ _) ?_
      repeat (first | refine JL.q (by first|(apply OQ.move;rfl)|(apply OQ.assign;rfl)|(apply OQ.aY;rfl;rfl;exact (by (try simp only []);omega))) rfl ?_ | refine JC.region ?_ | refine JL.nil ?_ | refine JE.next ?_ | refine JE.aq ?_)
      exact JE.again (i:=k) (k+1) (by omega) (by omega) (by repeat (first | exact ai.nil | refine ai.cons _ _ _ rfl ?_)) (an.refl _)
    · have hk' : ¬ k<16:=of_decide_eq_false h
      obtain rfl : k=16:=by omega
      clear h hk hk'
      repeat (first | refine JL.q (by first|(apply OQ.move;rfl)|(apply OQ.assign;rfl)|(apply OQ.aY;rfl;rfl;exact (by (try simp only []);omega))) rfl ?_ | refine JC.region ?_ | refine JC.exit ?_ | refine JL.nil ?_ | refine JE.next ?_ | refine JE.aq ?_ | refine JE.ax ?_ | refine JE.aA ?_)
      exact JE.again (i:=i) (i+1) (by omega) (by omega) (by repeat (first | exact ai.nil | refine ai.cons _ _ _ rfl ?_)) (an.refl _)
  · have hi' : ¬ i<16:=of_decide_eq_false h
    obtain rfl : i=16:=by omega
    clear h hi hi'
    have tw:=mL wa wb 16 (by omega)
    have tl:=iO a b 16
    generalize ht : fF a b 16=t at tw tl
    repeat (first | refine JC.seq ?_ | refine JC.region ?_ | refine JC.exit ?_ | refine JE.next ?_ | refine JE.ax ?_ | refine JE.aA ?_)
    refine JL.q (OQ.pure (v:=.agg ((fold t 0).map I).toArray) rfl rfl (by kernel_rfl)) rfl ?_
    refine JL.alloc jv rfl fun b8 _=>?_
    refine JL.ag bg rfl rfl rfl (bE _) .here (by simp) ?_
    repeat (first | refine JL.q (by (apply OQ.assign;rfl)) rfl ?_ | refine JC.seq ?_ | refine JC.region ?_ | refine JC.block ?_ | refine JL.nil ?_ | refine JE.next ?_)
    refine JC.loop (fun i : Nat=>[(4,Pt b4 0),(5,Pt b5 0),(8,Pt b8 0),(9,N i)])
      (fun i=>[⟨b8,Row 97 ((fold t i).map I),true⟩,⟨b5,Row 116 (t.map I),true⟩,⟨b4,Row 97 ((List.replicate 16 (0 : Int)).map I),true⟩])
      (fun i=>16 - i) (fun i=>i≤16) 0 (by omega) (by repeat (first | exact ai.nil | refine ai.cons _ _ _ rfl ?_)) (.keep _ _ _ _ _ _ (fun _ h=>h) (.keep _ _ _ _ _ _ (fun _ h=>h) (.keep _ _ _ _ _ _ (fun _ h=>h) (an.nil _)))) ?_
    intro i hi
    have len:=iQ t i
    repeat (first | refine JL.q (by first|(apply OQ.move;rfl)|(apply OQ.bN;rfl;rfl)) rfl ?_ | refine JC.seq ?_ | refine JC.region ?_ | refine JL.nil ?_ | refine JE.next ?_)
    refine JC.cond rfl (fun h=>?_) (fun h=>?_)
    · have hi' : i<16:=of_decide_eq_true h
      clear h hi
      have hc:=fY (l:=t) (i:=i) (by omega)
      have w1:=tw i
      repeat (first | refine JL.q (by first|(apply OQ.aD;exact Tryz.underlying97;exact ld;rfl;rfl;exact (by (try simp only []);omega))|(apply OQ.aD;exact Tryz.underlying116;exact ld;rfl;rfl;exact (by (try simp only []);omega))|(apply OQ.load;exact qJ;rfl;exact (.there .here);exact (Row.cell hc))|(apply OQ.move;rfl)) rfl ?_ | refine JC.seq ?_ | refine JC.region ?_ | refine JC.block ?_ | refine JC.skip ?_ | refine JE.next ?_)
      refine JL.az (r':=(kz t i).map I) ld rfl rfl rfl rfl .here (by rw [List.length_map,len];(try simp only []);omega) (iN _ _ _) ?_
      repeat (first | refine JL.q (by first|(apply OQ.move;rfl)|(apply OQ.bN;rfl;rfl)) rfl ?_ | refine JC.seq ?_ | refine JC.region ?_ | refine JL.nil ?_ | refine JE.next ?_)
      have len2 : (kz t i).length=16:=by rw [kz,List.length_set];exact len
      refine JC.cond rfl (fun h=>?_) (fun h=>?_)
      · have h15 : i<15:=of_decide_eq_true h
        clear h
        have hd:=fY (l:=kz t i) (i:=i) (by omega)
        have e1 : nth (kz t i) i=nth t i:=by rw [kz,bF _ _ _ _ (by omega),if_pos rfl]
        have he:=fY (l:=t) (i:=i+16) (by omega)
        have w2:=tw (i+16)
        have e2 : fold t (i+1)=(kz t i).set i (nth (kz t i) i+38 * nth t (i+16)):=by rw [fold,if_pos h15];rfl
        skip
        refine JC.tail 10 eP (by kernel_rfl) ?_
        simp only [List.take_succ_cons,List.take_zero,List.drop_succ_cons,List.drop_zero]
        repeat (first | refine JQ.q (by first|(apply OQ.aD;exact Tryz.underlying97;exact ld;rfl;rfl;exact (by (try simp only []);omega))|(apply OQ.aD;exact Tryz.underlying116;exact ld;rfl;rfl;exact (by (try simp only []);omega))|(apply OQ.load;exact qJ;rfl;exact .here;exact (Row.cell hd))|(apply OQ.load;exact qJ;rfl;exact (.there .here);exact (Row.cell he))|(apply OQ.IE (a:=38);rfl;rfl;exact (by omega);exact (by omega))|(apply OQ.DD;rfl;rfl;exact (by omega);exact (by omega))|(apply OQ.move;rfl)) rfl ?_ | refine JQ.bC ?_)
        refine JL.az (r':=(fold t (i+1)).map I) ld rfl rfl rfl rfl .here (by rw [List.length_map,len2];(try simp only []);omega) (by rw [iN,e2]) ?_
        repeat (first | refine JL.q (by first|(apply OQ.move;rfl)|(apply OQ.assign;rfl)|(apply OQ.aY;rfl;rfl;exact (by (try simp only []);omega))) rfl ?_ | refine JC.region ?_ | refine JL.nil ?_ | refine JE.next ?_ | refine JE.aq ?_)
        exact JE.again (i:=i) (i+1) (by omega) (by omega) (by repeat (first | exact ai.nil | refine ai.cons _ _ _ rfl ?_)) (an.refl _)
      · have h15 : ¬ i<15:=of_decide_eq_false h
        clear h
        have e2 : fold t (i+1)=kz t i:=by rw [fold,if_neg h15];rfl
        rw [← e2]
        repeat (first | refine JL.q (by first|(apply OQ.move;rfl)|(apply OQ.assign;rfl)|(apply OQ.aY;rfl;rfl;exact (by (try simp only []);omega))) rfl ?_ | refine JC.region ?_ | refine JC.skip ?_ | refine JL.nil ?_ | refine JE.next ?_ | refine JE.aq ?_)
        exact JE.again (i:=i) (i+1) (by omega) (by omega) (by repeat (first | exact ai.nil | refine ai.cons _ _ _ rfl ?_)) (an.refl _)
    · have hi' : ¬ i<16:=of_decide_eq_false h
      obtain rfl : i=16:=by omega
      clear h hi hi'
      subst ht
      have fw:=uy ha hb
      have hf1:=Fit.vI fw (by decide)
      have l1 : (qm (fold (fF a b 16) 16)).length=16:=by rw [qm,kr,len]
      have w2 : pM 100000000000 (qm (fold (fF a b 16) 16)):=EB fw
      have hf2:=Fit.vI w2 (by decide)
      have c1:=iE _ len hf1
      have c2:=iE _ l1 hf2
      have eM : qm (qm (fold (fF a b 16) 16))=mulL a b:=rfl
      have hl2 : ((mulL a b).map I).length=16:=by rw [List.length_map];exact (aI ha hb).len
      have hl' : ((fold (fF a b 16) 16).map I).length=16:=by rw [List.length_map];exact len
      rw [eM] at c2
      clear eM hf1 hf2 w2 fw l1 tw tl len
      generalize mulL a b=M at *
      generalize qm (fold (fF a b 16) 16)=G at *
      generalize fold (fF a b 16) 16=X at *
      generalize fF a b 16=T at *
      repeat (first | refine JL.q (by first|(apply OQ.af (cs:=X.map I);exact cu;exact bg;rfl;exact .here;exact hl';exact Row.all)|(apply OQ.au (vs:=[.agg (X.map I).toArray]);exact gP;rfl;exact (fun w' _=>c1 w'))|(apply OQ.au (vs:=[.agg (G.map I).toArray]);exact gP;rfl;exact (fun w' _=>c2 w'))) rfl ?_ | refine JC.seq ?_ | refine JC.region ?_ | refine JC.exit ?_ | refine JE.next ?_ | refine JE.ax ?_ | refine JE.aA ?_)
      refine JL.ag (cs:=M.map I) bg rfl rfl hl2 (bE _) (.there (.there .here)) (by simp) ?_
      repeat (first | refine JL.nil ?_ | refine JE.next ?_)
      refine JC.ret (JE.aR rfl (RV.av cu bg rfl (.there (.there .here)) hl2 Row.all) ?_)
      exact fun w' hw=>⟨rfl,hw.aM⟩
end
section
namespace dW
abbrev By:=BitVec 8
def le : List By→Nat
  | []=>0
  | b::l=>b.toNat+256 * le l
def hO (u : List By) (i : Nat) : Nat:=(u.getD (2 * i) 0).toNat+256 * (u.getD (2 * i+1) 0).toNat
theorem r9 (u : List By) (i : Nat) : hO u i<65536:=by
  have a:=(u.getD (2 * i) 0).isLt
  have b:=(u.getD (2 * i+1) 0).isLt
  unfold hO
  omega
def A7 (u : List By) : Nat→List Int
  | 0=>List.replicate 16 0
  | i+1=>(A7 u i).set i ((hO u i : Nat) : Int)
def iR (u : List By) : List Int:=(A7 u 16).set 15 ((hO u 15 % 32768 : Nat) : Int)
theorem kC (u : List By) : ∀ i,(A7 u i).length=16
  | 0=>rfl
  | i+1=>by rw [A7,List.length_set,kC u i]
theorem oK (u : List By) (j : Nat) : ∀ i,i≤16→nth (A7 u i) j=if j<i then ((hO u j : Nat) : Int) else 0
  | 0,_=>by rw [A7,iP];rfl
  | i+1,h=>by
    rw [A7,bF _ _ _ _ (by rw [kC];omega),oK u j i (by omega)]
    by_cases e : i=j
    · subst e
      rw [if_pos rfl,if_pos (by omega)]
    · rw [if_neg e]
      by_cases e2 : j<i
      · rw [if_pos e2,if_pos (by omega)]
      · rw [if_neg e2,if_neg (by omega)]
def lw (u : List By) : Nat→Nat
  | 0=>0
  | k+1=>lw u k+hO u k * 65536 ^ k
theorem Ig (u : List By) : ∀ k,k≤16→ps (A7 u 16) k=(lw u k : Nat)
  | 0,_=>rfl
  | k+1,h=>by
    show ps (A7 u 16) k+nth (A7 u 16) k * 65536 ^ k=((lw u k+hO u k * 65536 ^ k : Nat) : Int)
    rw [Ig u k (by omega),oK u k 16 (by omega),if_pos (by omega)]
    simp
theorem Ih (u : List By) : ∀ k,lw u k<65536 ^ k
  | 0=>by show 0<65536 ^ 0;rw [Nat.pow_zero];omega
  | k+1=>by
    have ih:=Ih u k
    have w:=r9 u k
    have m:=Nat.mul_le_mul_right (65536 ^ k) (Nat.le_of_lt_succ (show hO u k<65535+1 by omega))
    show lw u k+hO u k * 65536 ^ k<65536 ^ (k+1)
    rw [Nat.pow_succ]
    omega
theorem Ii (u : List By) (hu : u.length=32) : ∀ k,k≤16→le u=lw u k+65536 ^ k * le (u.drop (2 * k))
  | 0,_=>by rw [lw,Nat.zero_add,Nat.pow_zero,Nat.one_mul,Nat.mul_zero,List.drop_zero]
  | k+1,h=>by
    rw [Ii u hu k (by omega)]
    have e1 : u.drop (2 * k)=u.getD (2 * k) 0::u.getD (2 * k+1) 0::u.drop (2 * (k+1)):=by
      rw [List.drop_eq_getElem_cons (by omega),List.drop_eq_getElem_cons (by omega)]
      simp only [List.getD_eq_getElem?_getD,List.getElem?_eq_getElem (show 2 * k<u.length by omega),List.getElem?_eq_getElem (show 2 * k+1<u.length by omega),Option.getD_some]
      rfl
    rw [e1]
    show lw u k+65536 ^ k * ((u.getD (2 * k) 0).toNat+256 * ((u.getD (2 * k+1) 0).toNat+256 * le (u.drop (2 * (k+1)))))=lw u k+hO u k * 65536 ^ k+65536 ^ (k+1) * le (u.drop (2 * (k+1)))
    have e2 : (u.getD (2 * k) 0).toNat+256 * ((u.getD (2 * k+1) 0).toNat+256 * le (u.drop (2 * (k+1))))=hO u k+65536 * le (u.drop (2 * (k+1))):=by unfold hO;omega
    rw [e2,Nat.mul_add,Nat.pow_succ,Nat.mul_comm (hO u k),Nat.mul_assoc,Nat.add_assoc]
theorem GJ (M x y : Nat) (hy : y<M) : (y+x * M) % (32768 * M)=y+(x % 32768) * M:=by
  have e : y+x * M=(y+(x % 32768) * M)+(x / 32768) * (32768 * M):=by
    have h : x=x % 32768+(x / 32768) * 32768:=by omega
    rw [Nat.add_assoc,← Nat.mul_assoc,← Nat.add_mul,← h]
  have l : (x % 32768) * M≤32767 * M:=Nat.mul_le_mul_right M (by omega)
  have l2 : 32768 * M=32767 * M+M:=by omega
  rw [e,Nat.add_mul_mod_self_right,Nat.mod_eq_of_lt (by omega)]
def top : Nat:=32768 * 65536 ^ 15
theorem Cp (u : List By) (hu : u.length=32) : val (iR u)=((le u % top : Nat) : Int):=by
  have e:=Ii u hu 16 (by omega)
  have e0 : u.drop (2 * 16)=[]:=List.drop_eq_nil_of_le (by omega)
  have e1 : lw u 16=lw u 15+hO u 15 * 65536 ^ 15:=rfl
  have e2:=Ih u 15
  rw [e0] at e
  have e3 : le u=lw u 15+hO u 15 * 65536 ^ 15:=by
    rw [e,← e1]
    show lw u 16+65536 ^ 16 * 0=lw u 16
    rw [Nat.mul_zero,Nat.add_zero]
  rw [e3,top,GJ _ _ _ e2,iR,gm _ _ _ (by rw [kC];omega),oK u 15 16 (by omega),if_pos (by omega),gQ _ 16 (by rw [kC];omega),Ig u 16 (by omega),e1]
  clear e e0 e1 e2 e3
  generalize hO u 15=x
  generalize lw u 15=y
  rw [Int.natCast_add,Int.natCast_add,Int.natCast_mul,Int.natCast_mul,Int.natCast_pow,Int.sub_mul]
  rw [show ((65536 : Nat) : Int)=65536 from rfl]
  generalize (65536 : Int) ^ 15=M
  omega
theorem nV (u : List By) : Good (iR u):=by
  have n : ∀ j,j<16→0≤nth (iR u) j∧nth (iR u) j≤65535:=fun j hj=>by
    have a:=r9 u j
    have b:=r9 u 15
    rw [iR,bF _ _ _ _ (by rw [kC];omega),oK u j 16 (by omega),if_pos hj]
    split <;> omega
  refine ⟨by rw [iR,List.length_set,kC],?_,fun j _ h=>n j h⟩
  have:=n 0 (by omega)
  omega
def pt (u : List By) : F:=fi ((le u % top : Nat) : Int)
theorem EC (u : List By) (hu : u.length=32) : fv (iR u)=pt u:=by rw [fv,Cp u hu];rfl
def kW : List Int:=1::List.replicate 15 0
theorem pN : Good kW:=⟨rfl,by decide,fun j h0 h1=>by rw [show kW=Co 1 0 from rfl,gp _ _ _ h1,if_neg (by omega)];omega⟩
theorem A8 : fv kW=1:=by decide +kernel
def fU (a : List Int) : Nat→List Int
  | 0=>kW
  | n+1=>if n=252∨n=250 then mulL (fU a n) (fU a n) else mulL (mulL (fU a n) (fU a n)) a
def vJ : Nat→Nat
  | 0=>0
  | n+1=>if n=252∨n=250 then 2 * vJ n else 2 * vJ n+1
theorem jQ {a : List Int} (ha : Good a) : ∀ n,Good (fU a n)
  | 0=>pN
  | n+1=>by
    have ih:=jQ ha n
    rw [fU]
    split
    · exact aI ih ih
    · exact aI (aI ih ih) ha
theorem A9 {a : List Int} (ha : Good a) : ∀ n,fv (fU a n)=pw (fv a) (vJ n)
  | 0=>A8
  | n+1=>by
    have ih:=A9 ha n
    have g:=jQ ha n
    rw [fU,vJ]
    have e : pw (fv a) (2 * vJ n)=pw (fv a) (vJ n) * pw (fv a) (vJ n):=by rw [Nat.two_mul,pJ]
    split
    · rw [qK g.len g.len,ih,e]
    · rw [qK (aI g g).len ha.len,qK g.len g.len,ih]
      show _=pw (fv a) (2 * vJ n) * fv a
      rw [e]
theorem ED : vJ 255=P - 2:=by decide +kernel
theorem GK {a : List Int} (ha : Good a) : fv (fU a 255)=inv (fv a):=by rw [A9 ha,ED];rfl
end dW
end
section
set_option maxRecDepth 10000
open Sl dW
theorem zO : aL Tryz.prog 48:=⟨_,Tryz.func48,rfl,by kernel_rfl⟩
theorem Cq : aL Tryz.prog 53:=⟨_,Tryz.func53,rfl,by kernel_rfl⟩
theorem aB : dP Tryz.prog 23=some 32:=by kernel_rfl
theorem aQ : gy Tryz.prog 23=true:=by kernel_rfl
theorem wB : dP Tryz.prog 5=some 1:=by kernel_rfl
theorem GL : iI Tryz.prog 5=true:=by kernel_rfl
theorem kD {l : List By} {i : Nat} (h : i<l.length) : (l.map U8)[i]?=some (U8 (l.getD i 0)):=by
  simp [h]
section
variable {P : Program} {n : Nat} {E : Env} {C : World→Prop} {dst : Option Tmp} {ty t t' : TypeId} {pos : String} {aft : Array Edge} {g : Option (Nat × Bool)} {x y : Operand}
theorem OQ.Ij {k : IntKind} {a b : Int} (hx : ev E x=some (.int k a)) (hy : ev E y=some (.int k b)) (h : ¬ a=b) : OQ P n E C ⟨dst,.binOp .neq t x y t',ty,pos,aft,g⟩ (.bool true):=by
  have e : (!decide (a=b))=true:=by rw [decide_eq_false h];rfl
  exact e ▸ OQ.Ku hx hy
end
set_option maxHeartbeats 8000000 in
theorem Cr (u : List By) (hu : u.length=32) (w : World) : Calls Tryz.prog 48 [.agg (u.map U8).toArray].toArray w fun e w'=>e=.returned (.agg ((iR u).map I).toArray)∧Ext w w':=by
  refine enter (n:=30) Tryz.func48 rfl rfl rfl (ah.start w []) ?_
  repeat (first | refine JC.seq ?_ | refine JC.region ?_)
  refine JL.box (r:=u.map U8) rfl rfl rfl fun b1 _=>?_
  refine JL.alloc jv rfl fun b2 _=>?_
  repeat (first | refine JC.seq ?_ | refine JC.region ?_ | refine JL.nil ?_ | refine JE.next ?_)
  refine JL.q (OQ.pure (v:=.agg ((A7 u 0).map I).toArray) rfl rfl (by kernel_rfl)) rfl ?_
  refine JL.alloc jv rfl fun b3 _=>?_
  refine JL.ag bg rfl rfl rfl (bE _) .here (by simp) ?_
  repeat (first | refine JL.q (by (apply OQ.assign;rfl)) rfl ?_ | refine JC.seq ?_ | refine JC.region ?_ | refine JC.block ?_ | refine JL.nil ?_ | refine JE.next ?_)
  refine JC.loop (fun i : Nat=>[(1,Pt b1 0),(2,Pt b2 0),(3,Pt b3 0),(4,N i)])
    (fun i=>[⟨b3,Row 97 ((A7 u i).map I),true⟩,⟨b2,Row 97 ((List.replicate 16 (0 : Int)).map I),true⟩,⟨b1,Row 23 (u.map U8),true⟩])
    (fun i=>16 - i) (fun i=>i≤16) 0 (by omega) (by repeat (first | exact ai.nil | refine ai.cons _ _ _ rfl ?_)) (an.refl _) ?_
  intro i hi
  have len:=kC u i
  repeat (first | refine JL.q (by first|(apply OQ.move;rfl)|(apply OQ.bN;rfl;rfl)) rfl ?_ | refine JC.seq ?_ | refine JC.region ?_ | refine JL.nil ?_ | refine JE.next ?_)
  refine JC.cond rfl (fun h=>?_) (fun h=>?_)
  · have hi' : i<16:=of_decide_eq_true h
    clear h hi
    have hc:=kD (l:=u) (i:=2 * i) (by omega)
    have hd:=kD (l:=u) (i:=2 * i+1) (by omega)
    have q1:=(u.getD (2 * i) 0).isLt
    have q2:=(u.getD (2 * i+1) 0).isLt
    repeat (first | refine JC.seq ?_ | refine JC.block ?_ | refine JC.skip ?_ | refine JE.next ?_)
    refine JC.tail 15 eP (by kernel_rfl) ?_
    simp only [List.take_succ_cons,List.take_zero,List.drop_succ_cons,List.drop_zero]
    repeat (first | refine JQ.q (by first|(apply OQ.aD;exact Tryz.underlying23;exact wB;rfl;rfl;exact (by (try simp only []);omega))|(apply OQ.aD;exact Tryz.underlying97;exact ld;rfl;rfl;exact (by (try simp only []);omega))|(apply OQ.load;exact GL;rfl;exact (.there (.there .here));exact (Row.cell hc))|(apply OQ.load;exact GL;rfl;exact (.there (.there .here));exact (Row.cell hd))|(apply OQ.AB;rfl;rfl;rfl)|(apply OQ.move;rfl)|(apply OQ.aY;rfl;rfl;exact (by (try simp only []);omega))|(apply OQ.iJ;rfl;rfl;exact (by (try simp only []);omega))) rfl ?_ | refine JQ.bC ?_)
    refine JL.az (r':=(A7 u (i+1)).map I) ld rfl rfl rfl rfl .here (by rw [List.length_map,len];(try simp only []);omega) (iN _ _ _) ?_
    repeat (first | refine JL.q (by first|(apply OQ.move;rfl)|(apply OQ.assign;rfl)|(apply OQ.aY;rfl;rfl;exact (by (try simp only []);omega))) rfl ?_ | refine JC.region ?_ | refine JL.nil ?_ | refine JE.next ?_ | refine JE.aq ?_)
    exact JE.again (i:=i) (i+1) (by omega) (by omega) (by repeat (first | exact ai.nil | refine ai.cons _ _ _ rfl ?_)) (an.refl _)
  · have hi' : ¬ i<16:=of_decide_eq_false h
    obtain rfl : i=16:=by omega
    clear h hi hi'
    have hc : ((A7 u 16).map I)[15]?=some (N (hO u 15)):=by
      rw [fY (by rw [len];decide),oK u 15 16 (by omega)]
      rfl
    have hl' : ((iR u).map I).length=16:=by rw [List.length_map];exact (nV u).len
    repeat (first | refine JL.q (by first|(apply OQ.aD;exact Tryz.underlying97;exact ld;rfl;rfl;exact (by decide))|(apply OQ.load;exact qJ;rfl;exact .here;exact (Row.cell hc))|(apply OQ.yI;rfl;rfl;exact (by (try simp only []);omega))) rfl ?_ | refine JC.seq ?_ | refine JC.region ?_ | refine JC.exit ?_ | refine JE.next ?_ | refine JE.ax ?_ | refine JE.aA ?_)
    refine JL.az (r':=(iR u).map I) ld rfl rfl rfl rfl .here (by rw [List.length_map,len];decide) (iN _ _ _) ?_
    repeat (first | refine JL.q (by (apply OQ.af (cs:=(iR u).map I);exact cu;exact bg;rfl;exact .here;exact hl';exact Row.all)) rfl ?_ | refine JC.seq ?_ | refine JC.region ?_ | refine JL.nil ?_ | refine JE.next ?_)
    refine JL.ag bg rfl rfl hl' (bE _) (.there .here) (by simp) ?_
    repeat (first | refine JL.nil ?_ | refine JE.next ?_)
    refine JC.ret (JE.aR rfl (RV.av cu bg rfl (.there .here) hl' Row.all) ?_)
    exact fun w' hw=>⟨rfl,hw.aM⟩
set_option maxHeartbeats 8000000 in
theorem EE (a : List Int) (ha : Good a) (w : World) : Calls Tryz.prog 53 [.agg (a.map I).toArray].toArray w fun e w'=>e=.returned (.agg ((fU a 255).map I).toArray)∧Ext w w':=by
  refine enter (n:=23) Tryz.func53 rfl rfl rfl (ah.start w []) ?_
  repeat (first | refine JC.seq ?_ | refine JC.region ?_)
  refine JL.box (r:=a.map I) rfl rfl rfl fun b1 _=>?_
  refine JL.alloc jv rfl fun b2 _=>?_
  repeat (first | refine JC.seq ?_ | refine JC.region ?_ | refine JL.nil ?_ | refine JE.next ?_)
  refine JL.q (OQ.pure (v:=.agg ((fU a 0).map I).toArray) rfl rfl (by kernel_rfl)) rfl ?_
  refine JL.alloc jv rfl fun b3 _=>?_
  refine JL.ag bg rfl rfl rfl (bE _) .here (by simp) ?_
  repeat (first | refine JL.q (by (apply OQ.assign;rfl)) rfl ?_ | refine JC.seq ?_ | refine JC.region ?_ | refine JC.block ?_ | refine JL.nil ?_ | refine JE.next ?_)
  refine JC.loop (fun i : Nat=>[(1,Pt b1 0),(2,Pt b2 0),(3,Pt b3 0),(4,I (254 - i))])
    (fun i=>[⟨b3,Row 97 ((fU a i).map I),true⟩,⟨b2,Row 97 ((List.replicate 16 (0 : Int)).map I),true⟩,⟨b1,Row 97 (a.map I),true⟩])
    (fun i=>255 - i) (fun i=>i≤255) 0 (by omega) (by repeat (first | exact ai.nil | refine ai.cons _ _ _ rfl ?_)) (an.refl _) ?_
  intro i hi
  have g0:=jQ ha i
  have hl0 : ((fU a i).map I).length=16:=by rw [List.length_map];exact g0.len
  have hla : (a.map I).length=16:=by rw [List.length_map];exact ha.len
  repeat (first | refine JL.q (by first|(apply OQ.Ds (b:=0);rfl;rfl)|(apply OQ.move;rfl)) rfl ?_ | refine JC.seq ?_ | refine JC.region ?_ | refine JL.nil ?_ | refine JE.next ?_)
  refine JC.cond rfl (fun h=>?_) (fun h=>?_)
  · have hi' : (0 : Int)≤254 - i:=of_decide_eq_true h
    clear h hi
    have g1:=aI g0 g0
    have c1:=dD _ _ g0 g0
    have c2:=dD _ _ g1 ha
    have hl1 : ((mulL (fU a i) (fU a i)).map I).length=16:=by rw [List.length_map];exact g1.len
    have hl2 : ((mulL (mulL (fU a i) (fU a i)) a).map I).length=16:=by rw [List.length_map];exact (aI g1 ha).len
    have e1 : fU a (i+1)=if i=252∨i=250 then mulL (fU a i) (fU a i) else mulL (mulL (fU a i) (fU a i)) a:=rfl
    generalize mulL (mulL (fU a i) (fU a i)) a=Z at *
    generalize mulL (fU a i) (fU a i)=Y at *
    generalize fU a i=X at *
    repeat (first | refine JL.q (by first|(apply OQ.af (cs:=X.map I);exact cu;exact bg;rfl;exact .here;exact hl0;exact Row.all)|(apply OQ.au (vs:=[.agg (X.map I).toArray,.agg (X.map I).toArray]);exact cI;rfl;exact (fun w' _=>c1 w'))) rfl ?_ | refine JC.seq ?_ | refine JC.region ?_ | refine JC.block ?_ | refine JC.skip ?_ | refine JE.next ?_)
    refine JL.ag (cs:=Y.map I) bg rfl rfl hl1 (bE _) .here (by rw [hl0]) ?_
    by_cases k1 : i=252
    · repeat (first | refine JL.q (by first|(apply OQ.wI;rfl;rfl;exact (by omega))|(apply OQ.fl;rfl;rfl)|(apply OQ.move;rfl)) rfl ?_ | refine JC.seq ?_ | refine JC.region ?_ | refine JL.nil ?_ | refine JE.next ?_ | refine JL.lu rfl rfl rfl rfl ?_)
      refine JC.cond_false rfl rfl ?_
      rw [if_pos (Or.inl k1)] at e1
      rw [← e1]
      repeat (first | refine JL.q (by first|(apply OQ.om (b:=1);rfl;rfl;exact (by omega);exact (by omega))|(apply OQ.move;rfl)|(apply OQ.assign;rfl)) rfl ?_ | refine JC.region ?_ | refine JC.skip ?_ | refine JL.nil ?_ | refine JE.next ?_ | refine JE.aq ?_)
      refine JE.again (i:=i) (i+1) (by omega) (by omega) ?_ (an.refl _)
      rw [show (254 - ((i+1 : Nat) : Int))=254 - (i : Int) - 1 by omega]
      exact (by repeat (first | exact ai.nil | refine ai.cons _ _ _ rfl ?_))
    · by_cases k2 : i=250
      · repeat (first | refine JL.q (by first|(apply OQ.Ij;rfl;rfl;exact (by omega))|(apply OQ.wI;rfl;rfl;exact (by omega))|(apply OQ.fJ;rfl;rfl)|(apply OQ.move;rfl)) rfl ?_ | refine JC.seq ?_ | refine JC.region ?_ | refine JL.nil ?_ | refine JE.next ?_ | refine JL.aV rfl rfl ?_)
        refine JC.cond_false rfl rfl ?_
        rw [if_pos (Or.inr k2)] at e1
        rw [← e1]
        repeat (first | refine JL.q (by first|(apply OQ.om (b:=1);rfl;rfl;exact (by omega);exact (by omega))|(apply OQ.move;rfl)|(apply OQ.assign;rfl)) rfl ?_ | refine JC.region ?_ | refine JC.skip ?_ | refine JL.nil ?_ | refine JE.next ?_ | refine JE.aq ?_)
        refine JE.again (i:=i) (i+1) (by omega) (by omega) ?_ (an.refl _)
        rw [show (254 - ((i+1 : Nat) : Int))=254 - (i : Int) - 1 by omega]
        exact (by repeat (first | exact ai.nil | refine ai.cons _ _ _ rfl ?_))
      · repeat (first | refine JL.q (by first|(apply OQ.Ij;rfl;rfl;exact (by omega))|(apply OQ.fJ;rfl;rfl)|(apply OQ.move;rfl)) rfl ?_ | refine JC.seq ?_ | refine JC.region ?_ | refine JL.nil ?_ | refine JE.next ?_ | refine JL.aV rfl rfl ?_)
        refine JC.cond_true rfl rfl ?_
        rw [if_neg (by omega)] at e1
        repeat (first | refine JL.q (by first|(apply OQ.af (cs:=Y.map I);exact cu;exact bg;rfl;exact .here;exact hl1;exact Row.all)|(apply OQ.af (cs:=a.map I);exact cu;exact bg;rfl;exact (.there (.there .here));exact hla;exact Row.all)|(apply OQ.au (vs:=[.agg (Y.map I).toArray,.agg (a.map I).toArray]);exact cI;rfl;exact (fun w' _=>c2 w'))) rfl ?_ | refine JC.region ?_)
        refine JL.ag (cs:=Z.map I) bg rfl rfl hl2 (bE _) .here (by rw [hl1]) ?_
        rw [← e1]
        repeat (first | refine JL.q (by first|(apply OQ.om (b:=1);rfl;rfl;exact (by omega);exact (by omega))|(apply OQ.move;rfl)|(apply OQ.assign;rfl)) rfl ?_ | refine JC.region ?_ | refine JL.nil ?_ | refine JE.next ?_ | refine JE.aq ?_)
        refine JE.again (i:=i) (i+1) (by omega) (by omega) ?_ (an.refl _)
        rw [show (254 - ((i+1 : Nat) : Int))=254 - (i : Int) - 1 by omega]
        exact (by repeat (first | exact ai.nil | refine ai.cons _ _ _ rfl ?_))
  · have hi' : ¬ (0 : Int)≤254 - i:=of_decide_eq_false h
    obtain rfl : i=255:=by omega
    clear h hi hi'
    generalize fU a 255=X at *
    repeat (first | refine JL.q (by (apply OQ.af (cs:=X.map I);exact cu;exact bg;rfl;exact .here;exact hl0;exact Row.all)) rfl ?_ | refine JC.seq ?_ | refine JC.region ?_ | refine JC.exit ?_ | refine JE.next ?_ | refine JE.ax ?_ | refine JE.aA ?_)
    refine JL.ag (cs:=X.map I) bg rfl rfl hl0 (bE _) (.there .here) (by simp) ?_
    repeat (first | refine JL.nil ?_ | refine JE.next ?_)
    refine JC.ret (JE.aR rfl (RV.av cu bg rfl (.there .here) hl0 Row.all) ?_)
    exact fun w' hw=>⟨rfl,hw.aM⟩
end
section
namespace dW
structure Norm (l : List Int) : Prop where
  len : l.length=16
  all : ∀ j,j<16→0≤nth l j∧nth l j≤65535
theorem Norm.zP {l : List Int} (h : Norm l) : Good l:=⟨h.len,by have:=h.all 0 (by omega);omega,fun j _ hj=>h.all j hj⟩
theorem sg (l : List Int) (i : Nat) (h : i<l.length) : l.set i (nth l i)=l:=by
  unfold nth
  rw [List.getD_eq_getElem?_getD,List.getElem?_eq_getElem h]
  exact List.set_getElem_self h
theorem Norm.eJ {l : List Int} (h : Norm l) {i : Nat} (hi : i<16) : dW.eJ l i=l:=by
  have a:=h.all i hi
  have q : nth l i / 65536=0:=by omega
  have e : l.set i (nth l i - nth l i / 65536 * 65536)=l:=by
    rw [q,Int.zero_mul,Int.sub_zero,sg _ _ (by rw [h.len];omega)]
  unfold dW.eJ
  simp only
  rw [e,q,Int.mul_zero,Int.add_zero,Int.add_zero]
  split
  · exact sg _ _ (by rw [h.len];omega)
  · exact sg _ _ (by rw [h.len];omega)
theorem Norm.fk {l : List Int} (h : Norm l) : ∀ i,i≤16→dW.fk l i=l
  | 0,_=>rfl
  | i+1,hi=>by
    show dW.eJ (dW.fk l i) i=l
    rw [h.fk i (by omega),h.eJ (by omega)]
theorem Norm.qm {l : List Int} (h : Norm l) : dW.qm l=l:=h.fk 16 (by omega)
theorem EG (l : List Int) : ∀ k,(∀ j,j<k→0≤nth l j∧nth l j≤65535)→0≤ps l k∧ps l k≤65536 ^ k - 1
  | 0,_=>by show (0 : Int)≤0∧(0 : Int)≤65536 ^ 0 - 1;rw [Int.pow_zero];omega
  | k+1,h=>by
    have ih:=EG l k fun j hj=>h j (by omega)
    have a:=h k (by omega)
    have m : (0 : Int)<65536 ^ k:=Int.pow_pos (by decide)
    show 0≤ps l k+nth l k * 65536 ^ k∧ps l k+nth l k * 65536 ^ k≤65536 ^ (k+1) - 1
    rw [Int.pow_succ]
    generalize (65536 : Int) ^ k=M at *
    have p0:=Int.mul_nonneg a.1 (Int.le_of_lt m)
    have p1:=Int.mul_le_mul_of_nonneg_right a.2 (Int.le_of_lt m)
    omega
theorem si (l : List Int) : ∀ k,∃ s,ps l (k+1)=nth l 0+65536 * s∧((∀ j,0<j→j<k+1→0≤nth l j∧nth l j≤65535)→0≤s∧s≤65536 ^ k - 1)
  | 0=>⟨0,by show 0+nth l 0 * 65536 ^ 0=_;rw [Int.pow_zero];omega,fun _=>by rw [Int.pow_zero];omega⟩
  | k+1=>by
    obtain ⟨s,e,b⟩:=si l k
    refine ⟨s+nth l (k+1) * 65536 ^ k,?_,fun h=>?_⟩
    · show ps l (k+1)+nth l (k+1) * 65536 ^ (k+1)=_
      rw [e,Int.pow_succ,Int.mul_add,Int.mul_comm (65536 ^ k) 65536,Int.mul_left_comm,Int.add_assoc]
    · have b:=b fun j h0 h1=>h j h0 (by omega)
      have a:=h (k+1) (by omega) (by omega)
      have m : (0 : Int)<65536 ^ k:=Int.pow_pos (by decide)
      rw [Int.pow_succ]
      generalize (65536 : Int) ^ k=M at *
      have p0:=Int.mul_nonneg a.1 (Int.le_of_lt m)
      have p1:=Int.mul_le_mul_of_nonneg_right a.2 (Int.le_of_lt m)
      omega
theorem Cs {M N q r S S' f V S'' f0 : Int} (hM : M=65536 * N) (e1 : S+(q * 65536+r) * M=V) (e2 : S=f+65536 * S') (b0 : 0≤S') (b1 : S'≤N - 1) (hr : 0≤r) (hr2 : r≤65535) (hf : 0≤f) (hf2 : f≤65535)
    (hq : q=-1∨q=0∨q=1) (v0 : V=f0+65536 * S'') (hf0 : -128≤f0) (hf1 : f0≤65663) (c0 : 0≤S'') (c1 : S''≤M - 1) : 0≤f+38 * q∧f+38 * q≤65535:=by
  have m0 : 0≤M:=by omega
  have p0:=Int.mul_nonneg hr m0
  have p1:=Int.mul_le_mul_of_nonneg_right hr2 m0
  rw [Int.add_mul] at e1
  generalize r * M=R at *
  rcases hq with rfl | rfl | rfl
  · rw [show (-1 * 65536 * M : Int)=-(65536 * M) by omega] at e1
    omega
  · omega
  · rw [show (1 * 65536 * M : Int)=65536 * M by omega] at e1
    omega
theorem Good.norm {l : List Int} (h : Good l) : Norm (qm l):=by
  have c:=Cn.all h.len h.Kl 15 (by omega)
  have v:=vG h.len 15 (by omega)
  have len:=kr l 15
  rw [h.len] at len
  show Norm (eJ (fk l 15) 15)
  obtain ⟨_,done,here,_⟩:=c
  have k1 : iq (Co (-128) 0) 15=-1:=by decide
  have k2 : iq (Co 65663 65535) 15=1:=by decide
  rw [k1,k2,gp _ _ _ (by omega),gp _ _ _ (by omega),if_neg (by omega),if_neg (by omega)] at here
  obtain ⟨S',e2,b2⟩:=si (fk l 15) 14
  obtain ⟨S'',e3,b3⟩:=si l 15
  have b2:=b2 fun j _ hj=>done j hj
  have b3:=b3 fun j h0 hj=>h.rest j h0 hj
  have f0:=h.first
  have d0:=done 0 (by omega)
  rw [gQ _ 16 (by omega),gQ l 16 (by rw [h.len];omega),e3] at v
  have v1 : ps (fk l 15) 16=ps (fk l 15) 15+nth (fk l 15) 15 * 65536 ^ 15:=rfl
  rw [v1] at v
  have hM : (65536 : Int) ^ 15=65536 * 65536 ^ 14:=by rw [Int.pow_succ,Int.mul_comm]
  have top:=Cs (q:=nth (fk l 15) 15 / 65536) (r:=nth (fk l 15) 15 % 65536) hM (by rw [show nth (fk l 15) 15 / 65536 * 65536+nth (fk l 15) 15 % 65536=nth (fk l 15) 15 by omega];exact v) e2 b2.1 b2.2 (by omega) (by omega) d0.1 d0.2 (by omega) rfl f0.1 f0.2 b3.1 b3.2
  clear v v1 e2 e3 b2 b3 hM
  generalize fk l 15=m at *
  unfold eJ
  simp only [show ¬ (15 : Nat)<15 by decide,if_false]
  refine ⟨by simp [len],fun j hj=>?_⟩
  have n0 : nth (m.set 15 (nth m 15 - nth m 15 / 65536 * 65536)) 0=nth m 0:=by rw [bF _ _ _ _ (by omega),if_neg (by omega)]
  rw [bF _ 0 j _ (by simp [len]),n0]
  by_cases e : 0=j
  · rw [if_pos e];exact top
  · rw [if_neg e,bF _ 15 j _ (by omega)]
    split
    · omega
    · exact done j (by omega)
def kE (i : Nat) : Int:=if i=15 then 32767 else 65535
def pl (i : Nat) : Int:=if i=0 then 65517 else kE i
def sb (a : List Int) : Nat→List Int
  | 0=>(List.replicate 16 0).set 0 (nth a 0 - 65517)
  | k+1=>((sb a k).set (k+1) (nth a (k+1) - kE (k+1) - nth (sb a k) k / 65536 % 2)).set k (nth ((sb a k).set (k+1) (nth a (k+1) - kE (k+1) - nth (sb a k) k / 65536 % 2)) k % 65536)
structure Km (a : List Int) (k : Nat) (m : List Int) : Prop where
  len : m.length=16
  done : ∀ j,j<k→0≤nth m j∧nth m j≤65535
  here : -65536≤nth m k∧nth m k≤65535
  zero : ∀ j,k<j→nth m j=0
  sum : val m=ps a (k+1) - ps ((List.range 16).map pl) (k+1)
theorem EH (j : Nat) (h : j<16) : nth ((List.range 16).map pl) j=pl j:=by
  unfold nth
  rw [List.getD_eq_getElem?_getD,List.getElem?_map,List.getElem?_range h];rfl
theorem Km.all {a : List Int} (h : Norm a) : ∀ k,k≤15→Km a k (sb a k)
  | 0,_=>by
    have a0:=h.all 0 (by omega)
    refine ⟨rfl,fun j hj=>absurd hj (by omega),?_,fun j hj=>?_,?_⟩
    · show -65536≤nth a 0 - 65517∧nth a 0 - 65517≤65535
      omega
    · rw [sb,bF _ _ _ _ (by simp),if_neg (by omega),iP]
    · rw [sb,gm _ _ _ (by simp),iP,show val (List.replicate 16 0)=0 by decide]
      show 0+(nth a 0 - 65517 - 0) * 65536 ^ 0=0+nth a 0 * 65536 ^ 0 - (0+nth ((List.range 16).map pl) 0 * 65536 ^ 0)
      rw [EH 0 (by omega),Int.pow_zero,show pl 0=65517 from rfl]
      omega
  | k+1,hk=>by
    have c:=Km.all h k (by omega)
    obtain ⟨len,done,here,zero,sum⟩:=c
    have ak:=h.all (k+1) (by omega)
    have tp : 32767≤kE (k+1)∧kE (k+1)≤65535:=by unfold kE;split <;> omega
    have z1:=zero (k+1) (by omega)
    rw [sb]
    have n1 : nth ((sb a k).set (k+1) (nth a (k+1) - kE (k+1) - nth (sb a k) k / 65536 % 2)) k=nth (sb a k) k:=by rw [bF _ _ _ _ (by omega),if_neg (by omega)]
    have l1 : ((sb a k).set (k+1) (nth a (k+1) - kE (k+1) - nth (sb a k) k / 65536 % 2)).length=16:=by rw [List.length_set];exact len
    rw [n1]
    refine ⟨by rw [List.length_set];exact l1,fun j hj=>?_,?_,fun j hj=>?_,?_⟩
    · rw [bF _ _ _ _ (by omega),bF _ _ _ _ (by omega)]
      split
      · omega
      · rw [if_neg (by omega)];exact done j (by omega)
    · rw [bF _ _ _ _ (by omega),if_neg (by omega),bF _ _ _ _ (by omega),if_pos rfl]
      omega
    · rw [bF _ _ _ _ (by omega),if_neg (by omega),bF _ _ _ _ (by omega),if_neg (by omega)]
      exact zero j (by omega)
    · rw [gm _ _ _ (by omega),gm _ _ _ (by omega),sum,z1,n1]
      show _=ps a (k+1)+nth a (k+1) * 65536 ^ (k+1) - (ps ((List.range 16).map pl) (k+1)+nth ((List.range 16).map pl) (k+1) * 65536 ^ (k+1))
      rw [EH (k+1) (by omega),show pl (k+1)=kE (k+1) by unfold pl;rw [if_neg (by omega)]]
      have b : nth (sb a k) k % 65536 - nth (sb a k) k=(nth (sb a k) k / 65536 % 2) * 65536:=by omega
      rw [b]
      generalize nth (sb a k) k / 65536 % 2=q
      generalize nth a (k+1)=x
      generalize kE (k+1)=y
      rw [Int.pow_succ,Int.sub_zero,Int.mul_assoc q,Int.mul_comm 65536 (65536 ^ k),Int.sub_mul,Int.sub_mul]
      omega
theorem Jr : ps ((List.range 16).map pl) 16=(P : Int):=by decide +kernel
def off (a : List Int) : List Int:=if 0≤nth (sb a 15) 15 then sb a 15 else a
theorem oL {a : List Int} (h : Norm a) : Norm (off a):=by
  have c:=Km.all h 15 (by omega)
  unfold off
  split
  next hp=>
    refine ⟨c.len,fun j hj=>?_⟩
    by_cases e : j=15
    · subst e;exact ⟨hp,c.here.2⟩
    · exact c.done j (by omega)
  next=>exact h
theorem Norm.val {a : List Int} (h : Norm a) : 0≤dW.val a∧dW.val a≤65536 ^ 16 - 1:=by
  rw [gQ a 16 (by rw [h.len];omega)]
  exact EG a 16 fun j hj=>h.all j hj
theorem Ba {a : List Int} (h : Norm a) : dW.val (off a)=if (P : Int)≤dW.val a then dW.val a - P else dW.val a:=by
  have c:=Km.all h 15 (by omega)
  have s:=c.sum
  rw [Jr,← gQ a 16 (by rw [h.len];omega)] at s
  have e1 : dW.val (sb a 15)=ps (sb a 15) 15+nth (sb a 15) 15 * 65536 ^ 15:=by rw [gQ _ 16 (by rw [c.len];omega)];rfl
  have b:=EG (sb a 15) 15 c.done
  have m : (0 : Int)<65536 ^ 15:=Int.pow_pos (by decide)
  unfold off
  by_cases hp : 0≤nth (sb a 15) 15
  · rw [if_pos hp]
    have q:=Int.mul_nonneg hp (Int.le_of_lt m)
    rw [if_pos (by omega),s]
  · rw [if_neg hp]
    have q:=Int.mul_le_mul_of_nonneg_right (show nth (sb a 15) 15≤-1 by omega) (Int.le_of_lt m)
    rw [if_neg (by omega)]
theorem EJ {a : List Int} (h : Norm a) : dW.val (off (off a))=((fv a).val : Int):=by
  have v:=h.val
  rw [Ba (oL h),Ba h,fv,jw]
  have e : (65536 : Int) ^ 16=2 * (P : Int)+38:=by decide
  rw [e] at v
  have p : ((P : Nat) : Int)=57896044618658097711785492504343953926634992332820282019728792003956564819949:=rfl
  rw [p] at v ⊢
  generalize dW.val a=x at *
  by_cases h1 : (57896044618658097711785492504343953926634992332820282019728792003956564819949 : Int)≤x
  · rw [if_pos h1]
    by_cases h2 : (57896044618658097711785492504343953926634992332820282019728792003956564819949 : Int)≤x - 57896044618658097711785492504343953926634992332820282019728792003956564819949
    · rw [if_pos h2];omega
    · rw [if_neg h2];omega
  · rw [if_neg h1,if_neg h1];omega
def vK : Nat→Nat→List By
  | 0,_=>[]
  | k+1,n=>BitVec.ofNat 8 n::vK k (n / 256)
theorem xL : ∀ k n,(vK k n).length=k
  | 0,_=>rfl
  | k+1,n=>by rw [vK,List.length_cons,xL k]
theorem vL : ∀ b : List By,vK b.length (le b)=b
  | []=>rfl
  | x::b=>by
    have h:=x.isLt
    show BitVec.ofNat 8 (x.toNat+256 * le b)::vK b.length ((x.toNat+256 * le b) / 256)=x::b
    have e1 : (x.toNat+256 * le b) / 256=le b:=by omega
    have e2 : BitVec.ofNat 8 (x.toNat+256 * le b)=x:=by
      apply BitVec.eq_of_toNat_eq
      rw [BitVec.toNat_ofNat]
      omega
    rw [e1,e2,vL b]
theorem Bb : ∀ k n,le (vK k n)=n % 256 ^ k
  | 0,n=>by rw [Nat.pow_zero,Nat.mod_one];rfl
  | k+1,n=>by
    show (BitVec.ofNat 8 n).toNat+256 * le (vK k (n / 256))=n % 256 ^ (k+1)
    rw [Bb k,BitVec.toNat_ofNat]
    show n % 256+256 * (n / 256 % 256 ^ k)=n % 256 ^ (k+1)
    rw [Nat.pow_succ,Nat.mul_comm (256 ^ k),Nat.mod_mul]
def lb : List Int→List By
  | []=>[]
  | x::l=>BitVec.ofInt 8 x::BitVec.ofInt 8 (x / 256)::lb l
theorem Ik : ∀ l : List Int,(∀ x ∈ l,0≤x∧x≤65535)→((le (lb l) : Nat) : Int)=val l
  | [],_=>rfl
  | x::l,h=>by
    have hx:=h x (List.mem_cons_self ..)
    have ih:=Ik l fun y hy=>h y (List.mem_cons_of_mem _ hy)
    show (((BitVec.ofInt 8 x).toNat+256 * ((BitVec.ofInt 8 (x / 256)).toNat+256 * le (lb l)) : Nat) : Int)=x+65536 * val l
    rw [← ih]
    have e1 : ((BitVec.ofInt 8 x).toNat : Int)=x % 256:=by rw [BitVec.toNat_ofInt];omega
    have e2 : ((BitVec.ofInt 8 (x / 256)).toNat : Int)=x / 256 % 256:=by rw [BitVec.toNat_ofInt];omega
    omega
theorem zQ : ∀ l : List Int,(lb l).length=2 * l.length
  | []=>rfl
  | x::l=>by
    show (lb l).length+1+1=2 * (l.length+1)
    rw [zQ l];omega
def pO (a : List Int) : List By:=lb (off (off (qm a)))
def pP (x : F) : List By:=vK 32 x.val
theorem Ct {a : List Int} (h : Good a) : pO a=pP (fv a):=by
  have n:=h.norm
  have n2:=oL (oL n)
  have v:=EJ n
  rw [rY h.len] at v
  have m : ∀ x ∈ off (off (qm a)),0≤x∧x≤65535:=fun x hx=>by
    obtain ⟨j,hj,e⟩:=List.getElem_of_mem hx
    have:=n2.all j (by rw [← n2.len];exact hj)
    unfold nth at this
    rw [List.getD_eq_getElem?_getD,List.getElem?_eq_getElem hj,e] at this
    exact this
  have e:=Ik _ m
  rw [v] at e
  have e2 : le (pO a)=(fv a).val:=by
    unfold pO
    omega
  have l : (pO a).length=32:=by rw [pO,zQ,n2.len]
  rw [pP,← e2,← l,vL]
def vM (a : List Int) : Nat→List Int
  | 0=>a
  | n+1=>off (vM a n)
theorem uz {a : List Int} (h : Norm a) : ∀ n,Norm (vM a n)
  | 0=>h
  | n+1=>oL (uz h n)
def wb (a : List Int) : Nat→List By
  | 0=>List.replicate 32 0
  | i+1=>((wb a i).set (2 * i) (BitVec.ofInt 8 (nth a i))).set (2 * i+1) (BitVec.ofInt 8 (nth a i / 256))
theorem vN (a : List Int) : ∀ i,(wb a i).length=32
  | 0=>rfl
  | i+1=>by rw [wb,List.length_set,List.length_set,vN a i]
theorem EK : ∀ (a : List Int) (i : Nat),i<a.length→(lb a)[2 * i]?=some (BitVec.ofInt 8 (nth a i))∧(lb a)[2 * i+1]?=some (BitVec.ofInt 8 (nth a i / 256))
  | [],i,h=>absurd h (by simp)
  | x::l,0,_=>⟨rfl,rfl⟩
  | x::l,i+1,h=>by
    have ih:=EK l i (by simpa using h)
    show (BitVec.ofInt 8 x::BitVec.ofInt 8 (x / 256)::lb l)[2 * i+1+1]?=some (BitVec.ofInt 8 (nth l i))∧(BitVec.ofInt 8 x::BitVec.ofInt 8 (x / 256)::lb l)[2 * i+1+1+1]?=some (BitVec.ofInt 8 (nth l i / 256))
    rw [List.getElem?_cons_succ,List.getElem?_cons_succ,List.getElem?_cons_succ,List.getElem?_cons_succ]
    exact ih
theorem EL (a : List Int) (ha : a.length=16) : ∀ i,i≤16→∀ j,j<2 * i→(wb a i)[j]?=(lb a)[j]?
  | 0,_,j,h=>absurd h (by omega)
  | i+1,hi,j,h=>by
    have ih:=EL a ha i (by omega)
    have g:=EK a i (by omega)
    have l:=vN a i
    rw [wb,List.getElem?_set,List.getElem?_set,List.length_set]
    by_cases e1 : 2 * i+1=j
    · subst e1
      rw [if_pos rfl,if_pos (by omega),g.2]
    · rw [if_neg e1]
      by_cases e2 : 2 * i=j
      · subst e2
        rw [if_pos rfl,if_pos (by omega),g.1]
      · rw [if_neg e2]
        exact ih j (by omega)
theorem Jt (a : List Int) (ha : a.length=16) : wb a 16=lb a:=by
  apply List.ext_getElem?
  intro j
  by_cases h : j<32
  · exact EL a ha 16 (by omega) j (by omega)
  · rw [List.getElem?_eq_none (by rw [vN];omega),List.getElem?_eq_none (by rw [zQ];omega)]
end dW
end
section
set_option maxRecDepth 10000
open Sl dW
theorem xM : aL Tryz.prog 52:=⟨_,Tryz.func52,rfl,by kernel_rfl⟩
theorem hU : zc Tryz.prog 23=some ((List.replicate 32 (0 : By)).map U8):=by kernel_rfl
theorem aU (l : List By) : (l.map U8).all Value.oneCell'=true:=by simp [Value.oneCell']
theorem sj (l : List By) (i : Nat) (x : By) : (l.map U8).set i (U8 x)=(l.set i x).map U8:=by rw [List.map_set]
section
variable {P : Program} {n : Nat} {E : Env} {C : World→Prop} {dst : Option Tmp} {ty t t' : TypeId} {pos : String} {aft : Array Edge} {g : Option (Nat × Bool)} {x y : Operand}
theorem OQ.Bc {a : Nat} (hx : ev E x=some (N (a+1))) (hy : ev E y=some (N 1)) (h : a<1000000) : OQ P n E C ⟨dst,.binOp .sub t x y t',ty,pos,aft,g⟩ (N a):=
  OQ.jq hx hy (by omega) (by omega)
end
theorem Good.fit {l : List Int} (h : Good l) : Fit l:=Fit.vI h.wide (by decide)
set_option maxHeartbeats 16000000 in
theorem zR (a : List Int) (ha : Good a) (w : World) : Calls Tryz.prog 52 [.agg (a.map I).toArray].toArray w fun e w'=>e=.returned (.agg ((pP (fv a)).map U8).toArray)∧Ext w w':=by
  have nA:=ha.norm
  have c1:=iE a ha.len (Good.fit ha)
  have c2:=iE (qm a) nA.len (Good.fit nA.zP)
  rw [nA.qm] at c2
  have eW:=Ct ha
  rw [pO] at eW
  have hla : (a.map I).length=16:=by rw [List.length_map];exact ha.len
  have hlA : ((qm a).map I).length=16:=by rw [List.length_map];exact nA.len
  generalize hA : qm a=A at nA c1 c2 eW hlA
  clear hA
  refine enter (n:=78) Tryz.func52 rfl rfl rfl (ah.start w []) ?_
  repeat (first | refine JC.seq ?_ | refine JC.region ?_)
  refine JL.box (r:=a.map I) rfl rfl rfl fun b1 _=>?_
  refine JL.alloc hU rfl fun b2 _=>?_
  repeat (first | refine JL.q (by first|(apply OQ.af (cs:=a.map I);exact cu;exact bg;rfl;exact (.there .here);exact hla;exact Row.all)|(apply OQ.au (vs:=[.agg (a.map I).toArray]);exact gP;rfl;exact (fun w' _=>c1 w'))|(apply OQ.au (vs:=[.agg (A.map I).toArray]);exact gP;rfl;exact (fun w' _=>c2 w'))) rfl ?_ | refine JC.seq ?_ | refine JC.region ?_ | refine JL.nil ?_ | refine JE.next ?_)
  refine JL.ag (cs:=A.map I) bg rfl rfl hlA (bE _) (.there .here) (by rw [hla]) ?_
  repeat (first | refine JL.q (by (apply OQ.assign;rfl)) rfl ?_ | refine JC.seq ?_ | refine JC.region ?_ | refine JC.block ?_ | refine JL.nil ?_ | refine JE.next ?_)
  refine JC.loop (fun n : Nat=>[(1,Pt b1 0),(2,Pt b2 0),(3,N n)])
    (fun n=>[⟨b2,Row 23 ((List.replicate 32 (0 : By)).map U8),true⟩,⟨b1,Row 97 ((vM A n).map I),true⟩])
    (fun n=>2 - n) (fun n=>n≤2) 0 (by omega) (by repeat (first | exact ai.nil | refine ai.cons _ _ _ rfl ?_)) (an.refl _) ?_
  intro n hn
  have nX:=uz nA n
  have eX : vM A (n+1)=off (vM A n):=rfl
  have hlX : ((vM A n).map I).length=16:=by rw [List.length_map];exact nX.len
  repeat (first | refine JL.q (by first|(apply OQ.move;rfl)|(apply OQ.bN;rfl;rfl)) rfl ?_ | refine JC.seq ?_ | refine JC.region ?_ | refine JL.nil ?_ | refine JE.next ?_)
  refine JC.cond rfl (fun h=>?_) (fun h=>?_)
  · have hn' : n<2:=of_decide_eq_true h
    clear h hn
    generalize vM A n=X at *
    have hd0:=fY (l:=X) (i:=0) (by rw [nX.len];omega)
    have x0:=nX.all 0 (by omega)
    repeat (first | refine JC.seq ?_ | refine JC.region ?_ | refine JC.block ?_ | refine JC.skip ?_ | refine JE.next ?_)
    refine JL.q (OQ.pure (v:=.agg ((List.replicate 16 (0 : Int)).map I).toArray) rfl rfl (by kernel_rfl)) rfl ?_
    refine JL.alloc jv rfl fun b4 _=>?_
    refine JL.ag bg rfl rfl rfl (bE _) .here (by simp) ?_
    repeat (first | refine JL.q (by first|(apply OQ.aD;exact Tryz.underlying97;exact ld;rfl;rfl;exact (by decide))|(apply OQ.load;exact qJ;rfl;exact (.there (.there .here));exact (Row.cell hd0))|(apply OQ.om (b:=65517);rfl;rfl;exact (by omega);exact (by omega))) rfl ?_ | refine JC.seq ?_ | refine JC.region ?_ | refine JL.nil ?_ | refine JE.next ?_)
    refine JL.az (r':=(sb X 0).map I) ld rfl rfl rfl rfl .here (by simp) (iN _ _ _) ?_
    repeat (first | refine JL.q (by (apply OQ.assign;rfl)) rfl ?_ | refine JC.seq ?_ | refine JC.region ?_ | refine JC.block ?_ | refine JL.nil ?_ | refine JE.next ?_)
    refine JC.loop (fun k : Nat=>[(1,Pt b1 0),(2,Pt b2 0),(3,N n),(4,Pt b4 0),(5,N (k+1))])
      (fun k=>[⟨b4,Row 97 ((sb X k).map I),true⟩,⟨b2,Row 23 ((List.replicate 32 (0 : By)).map U8),true⟩,⟨b1,Row 97 (X.map I),true⟩])
      (fun k=>15 - k) (fun k=>k≤15) 0 (by omega) (by repeat (first | exact ai.nil | refine ai.cons _ _ _ rfl ?_)) (an.refl _) ?_
    intro k hk
    have c:=Km.all nX k hk
    repeat (first | refine JL.q (by first|(apply OQ.move;rfl)|(apply OQ.bN;rfl;rfl)) rfl ?_ | refine JC.seq ?_ | refine JC.region ?_ | refine JL.nil ?_ | refine JE.next ?_)
    refine JC.cond rfl (fun h=>?_) (fun h=>?_)
    · have hk' : k+1<16:=of_decide_eq_true h
      clear h hk
      have hc:=fY (l:=sb X k) (i:=k) (by rw [c.len];omega)
      have hd:=fY (l:=X) (i:=k+1) (by rw [nX.len];omega)
      have xk:=nX.all (k+1) (by omega)
      have ck:=c.here
      have e1 : sb X (k+1)=((sb X k).set (k+1) (nth X (k+1) - kE (k+1) - nth (sb X k) k / 65536 % 2)).set k (nth ((sb X k).set (k+1) (nth X (k+1) - kE (k+1) - nth (sb X k) k / 65536 % 2)) k % 65536):=rfl
      have l1 : ((sb X k).set (k+1) (nth X (k+1) - kE (k+1) - nth (sb X k) k / 65536 % 2)).length=16:=by rw [List.length_set];exact c.len
      have he:=fY (l:=(sb X k).set (k+1) (nth X (k+1) - kE (k+1) - nth (sb X k) k / 65536 % 2)) (i:=k) (by omega)
      generalize hm1 : (sb X k).set (k+1) (nth X (k+1) - kE (k+1) - nth (sb X k) k / 65536 % 2)=m1 at e1 l1 he
      repeat (first | refine JL.q (by first|(apply OQ.move;rfl)|(apply OQ.assign;rfl)) rfl ?_ | refine JC.seq ?_ | refine JC.region ?_ | refine JC.block ?_ | refine JC.skip ?_ | refine JL.nil ?_ | refine JE.next ?_)
      by_cases k15 : k+1=15
      · have kI : ((k+1 : Nat) : Int)=15:=by omega
        have t1 : kE (k+1)=32767:=by unfold kE;rw [if_pos k15]
        repeat (first | refine JL.q (by (apply OQ.Dt;rfl;rfl;exact kI)) rfl ?_ | refine JL.nil ?_ | refine JE.next ?_)
        refine JC.cond_true rfl rfl ?_
        repeat (first | refine JL.q (by first|(apply OQ.Bc;rfl;rfl;exact (by omega))|(apply OQ.aD;exact Tryz.underlying97;exact ld;rfl;rfl;exact (by (try simp only []);omega))|(apply OQ.load;exact qJ;rfl;exact .here;exact (Row.cell hc))|(apply OQ.load;exact qJ;rfl;exact (.there (.there .here));exact (Row.cell hd))|(apply OQ.FY (m:=65536) (k:=16);exact (by decide);exact (by decide);rfl;rfl)|(apply OQ.DE (k:=1) (m:=1) (r:=2);exact (by decide);exact (by decide);exact (by decide);rfl;rfl)|(apply OQ.om;rfl;rfl;exact (by omega);exact (by omega))|(apply OQ.move;rfl)|(apply OQ.assign;rfl)) rfl ?_ | refine JC.seq ?_ | refine JC.region ?_ | refine JL.nil ?_ | refine JE.next ?_)
        refine JL.az (r:=(sb X k).map I) (r':=m1.map I) ld rfl rfl rfl rfl .here (by rw [List.length_map,c.len];(try simp only []);omega) (by rw [iN,← hm1,t1]) ?_
        repeat (first | refine JL.q (by first|(apply OQ.Bc;rfl;rfl;exact (by omega))|(apply OQ.aD;exact Tryz.underlying97;exact ld;rfl;rfl;exact (by (try simp only []);omega))|(apply OQ.load;exact qJ;rfl;exact .here;exact (Row.cell he))|(apply OQ.DE (k:=16) (m:=65535) (r:=65536);exact (by decide);exact (by decide);exact (by decide);rfl;rfl)|(apply OQ.move;rfl)) rfl ?_ | refine JC.region ?_ | refine JL.nil ?_ | refine JE.next ?_)
        refine JL.az (r':=(sb X (k+1)).map I) ld rfl rfl rfl rfl .here (by rw [List.length_map,l1];(try simp only []);omega) (by rw [iN,e1]) ?_
        repeat (first | refine JL.q (by first|(apply OQ.move;rfl)|(apply OQ.assign;rfl)|(apply OQ.aY;rfl;rfl;exact (by (try simp only []);omega))) rfl ?_ | refine JC.region ?_ | refine JL.nil ?_ | refine JE.next ?_ | refine JE.aq ?_)
        exact JE.again (i:=k) (k+1) (by omega) (by omega) (by repeat (first | exact ai.nil | refine ai.cons _ _ _ rfl ?_)) (an.refl _)
      · have kI : ¬ ((k+1 : Nat) : Int)=15:=by omega
        have t2 : kE (k+1)=65535:=by unfold kE;rw [if_neg k15]
        repeat (first | refine JL.q (by (apply OQ.Kz;rfl;rfl;exact kI)) rfl ?_ | refine JL.nil ?_ | refine JE.next ?_)
        refine JC.cond_false rfl rfl ?_
        repeat (first | refine JL.q (by first|(apply OQ.Bc;rfl;rfl;exact (by omega))|(apply OQ.aD;exact Tryz.underlying97;exact ld;rfl;rfl;exact (by (try simp only []);omega))|(apply OQ.load;exact qJ;rfl;exact .here;exact (Row.cell hc))|(apply OQ.load;exact qJ;rfl;exact (.there (.there .here));exact (Row.cell hd))|(apply OQ.FY (m:=65536) (k:=16);exact (by decide);exact (by decide);rfl;rfl)|(apply OQ.DE (k:=1) (m:=1) (r:=2);exact (by decide);exact (by decide);exact (by decide);rfl;rfl)|(apply OQ.om;rfl;rfl;exact (by omega);exact (by omega))|(apply OQ.move;rfl)|(apply OQ.assign;rfl)) rfl ?_ | refine JC.seq ?_ | refine JC.region ?_ | refine JC.skip ?_ | refine JL.nil ?_ | refine JE.next ?_)
        refine JL.az (r:=(sb X k).map I) (r':=m1.map I) ld rfl rfl rfl rfl .here (by rw [List.length_map,c.len];(try simp only []);omega) (by rw [iN,← hm1,t2]) ?_
        repeat (first | refine JL.q (by first|(apply OQ.Bc;rfl;rfl;exact (by omega))|(apply OQ.aD;exact Tryz.underlying97;exact ld;rfl;rfl;exact (by (try simp only []);omega))|(apply OQ.load;exact qJ;rfl;exact .here;exact (Row.cell he))|(apply OQ.DE (k:=16) (m:=65535) (r:=65536);exact (by decide);exact (by decide);exact (by decide);rfl;rfl)|(apply OQ.move;rfl)) rfl ?_ | refine JC.region ?_ | refine JL.nil ?_ | refine JE.next ?_)
        refine JL.az (r':=(sb X (k+1)).map I) ld rfl rfl rfl rfl .here (by rw [List.length_map,l1];(try simp only []);omega) (by rw [iN,e1]) ?_
        repeat (first | refine JL.q (by first|(apply OQ.move;rfl)|(apply OQ.assign;rfl)|(apply OQ.aY;rfl;rfl;exact (by (try simp only []);omega))) rfl ?_ | refine JC.region ?_ | refine JL.nil ?_ | refine JE.next ?_ | refine JE.aq ?_)
        exact JE.again (i:=k) (k+1) (by omega) (by omega) (by repeat (first | exact ai.nil | refine ai.cons _ _ _ rfl ?_)) (an.refl _)
    · have hk' : ¬ k+1<16:=of_decide_eq_false h
      obtain rfl : k=15:=by omega
      clear h hk hk'
      have hc:=fY (l:=sb X 15) (i:=15) (by rw [c.len];omega)
      have hlS : ((sb X 15).map I).length=16:=by rw [List.length_map];exact c.len
      have eO : off X=if 0≤nth (sb X 15) 15 then sb X 15 else X:=rfl
      generalize sb X 15=S at *
      repeat (first | refine JL.q (by first|(apply OQ.aD;exact Tryz.underlying97;exact ld;rfl;rfl;exact (by decide))|(apply OQ.load;exact qJ;rfl;exact .here;exact (Row.cell hc))|(apply OQ.Ds (b:=0);rfl;rfl)) rfl ?_ | refine JC.seq ?_ | refine JC.region ?_ | refine JC.exit ?_ | refine JL.nil ?_ | refine JE.next ?_ | refine JE.ax ?_ | refine JE.aA ?_)
      refine JC.cond rfl (fun h=>?_) (fun h=>?_)
      · have hp : 0≤nth S 15:=of_decide_eq_true h
        rw [if_pos hp,← eX] at eO
        repeat (first | refine JL.q (by (apply OQ.af (cs:=S.map I);exact cu;exact bg;rfl;exact .here;exact hlS;exact Row.all)) rfl ?_ | refine JC.region ?_)
        refine JL.ag (cs:=S.map I) bg rfl rfl hlS (bE _) (.there (.there .here)) (by rw [hlX]) ?_
        rw [← eO]
        repeat (first | refine JL.q (by first|(apply OQ.move;rfl)|(apply OQ.assign;rfl)|(apply OQ.aY;rfl;rfl;exact (by (try simp only []);omega))) rfl ?_ | refine JC.region ?_ | refine JL.nil ?_ | refine JE.next ?_ | refine JE.aq ?_)
        exact JE.again (i:=n) (n+1) (by omega) (by omega) (by repeat (first | exact ai.nil | refine ai.cons _ _ _ rfl ?_)) (.drop _ _ _ (an.refl _))
      · have hp : ¬ 0≤nth S 15:=of_decide_eq_false h
        rw [if_neg hp,← eX] at eO
        rw [← eO]
        repeat (first | refine JL.q (by first|(apply OQ.move;rfl)|(apply OQ.assign;rfl)|(apply OQ.aY;rfl;rfl;exact (by (try simp only []);omega))) rfl ?_ | refine JC.region ?_ | refine JC.skip ?_ | refine JL.nil ?_ | refine JE.next ?_ | refine JE.aq ?_)
        exact JE.again (i:=n) (n+1) (by omega) (by omega) (by repeat (first | exact ai.nil | refine ai.cons _ _ _ rfl ?_)) (.drop _ _ _ (an.refl _))
  · have hn' : ¬ n<2:=of_decide_eq_false h
    obtain rfl : n=2:=by omega
    clear h hn hn'
    have eO : vM A 2=off (off A):=rfl
    rw [← eO] at eW
    generalize vM A 2=X at *
    rw [← Jt X nX.len] at eW
    repeat (first | refine JC.seq ?_ | refine JC.region ?_ | refine JC.exit ?_ | refine JE.next ?_ | refine JE.ax ?_ | refine JE.aA ?_)
    refine JL.q (OQ.pure (v:=.agg ((wb X 0).map U8).toArray) rfl rfl (by kernel_rfl)) rfl ?_
    refine JL.alloc hU rfl fun b8 _=>?_
    refine JL.ag aB rfl rfl rfl (aU _) .here (by simp) ?_
    repeat (first | refine JL.q (by (apply OQ.assign;rfl)) rfl ?_ | refine JC.seq ?_ | refine JC.region ?_ | refine JC.block ?_ | refine JL.nil ?_ | refine JE.next ?_)
    refine JC.loop (fun i : Nat=>[(1,Pt b1 0),(2,Pt b2 0),(8,Pt b8 0),(9,N i)])
      (fun i=>[⟨b8,Row 23 ((wb X i).map U8),true⟩,⟨b2,Row 23 ((List.replicate 32 (0 : By)).map U8),true⟩,⟨b1,Row 97 (X.map I),true⟩])
      (fun i=>16 - i) (fun i=>i≤16) 0 (by omega) (by repeat (first | exact ai.nil | refine ai.cons _ _ _ rfl ?_)) (an.refl _) ?_
    intro i hi
    have len:=vN X i
    repeat (first | refine JL.q (by first|(apply OQ.move;rfl)|(apply OQ.bN;rfl;rfl)) rfl ?_ | refine JC.seq ?_ | refine JC.region ?_ | refine JL.nil ?_ | refine JE.next ?_)
    refine JC.cond rfl (fun h=>?_) (fun h=>?_)
    · have hi' : i<16:=of_decide_eq_true h
      clear h hi
      have hc:=fY (l:=X) (i:=i) (by rw [nX.len];omega)
      repeat (first | refine JL.q (by first|(apply OQ.aD;exact Tryz.underlying97;exact ld;rfl;rfl;exact (by (try simp only []);omega))|(apply OQ.aD;exact Tryz.underlying23;exact wB;rfl;rfl;exact (by (try simp only []);omega))|(apply OQ.load;exact qJ;rfl;exact (.there (.there .here));exact (Row.cell hc))|(apply OQ.Az;rfl;rfl;rfl)|(apply OQ.move;rfl)|(apply OQ.iJ;rfl;rfl;exact (by (try simp only []);omega))) rfl ?_ | refine JC.seq ?_ | refine JC.region ?_ | refine JC.block ?_ | refine JC.skip ?_ | refine JE.next ?_)
      refine JL.az (r':=((wb X i).set (2 * i) (BitVec.ofInt 8 (nth X i))).map U8) wB rfl rfl rfl rfl .here (by rw [List.length_map,len];(try simp only []);omega) (sj _ _ _) ?_
      repeat (first | refine JL.q (by first|(apply OQ.aD;exact Tryz.underlying97;exact ld;rfl;rfl;exact (by (try simp only []);omega))|(apply OQ.aD;exact Tryz.underlying23;exact wB;rfl;rfl;exact (by (try simp only []);omega))|(apply OQ.load;exact qJ;rfl;exact (.there (.there .here));exact (Row.cell hc))|(apply OQ.FY (m:=256) (k:=8);exact (by decide);exact (by decide);rfl;rfl)|(apply OQ.Az;rfl;rfl;rfl)|(apply OQ.move;rfl)|(apply OQ.aY;rfl;rfl;exact (by (try simp only []);omega))|(apply OQ.iJ;rfl;rfl;exact (by (try simp only []);omega))) rfl ?_ | refine JC.region ?_ | refine JL.nil ?_ | refine JE.next ?_)
      refine JL.az (r':=(wb X (i+1)).map U8) wB rfl rfl rfl rfl .here (by rw [List.length_map,List.length_set,len];(try simp only []);omega) (sj _ _ _) ?_
      repeat (first | refine JL.q (by first|(apply OQ.move;rfl)|(apply OQ.assign;rfl)|(apply OQ.aY;rfl;rfl;exact (by (try simp only []);omega))) rfl ?_ | refine JC.region ?_ | refine JL.nil ?_ | refine JE.next ?_ | refine JE.aq ?_)
      exact JE.again (i:=i) (i+1) (by omega) (by omega) (by repeat (first | exact ai.nil | refine ai.cons _ _ _ rfl ?_)) (an.refl _)
    · have hi' : ¬ i<16:=of_decide_eq_false h
      obtain rfl : i=16:=by omega
      clear h hi hi'
      rw [eW] at len ⊢
      have hlk : ((pP (fv a)).map U8).length=32:=by rw [List.length_map];exact len
      repeat (first | refine JL.q (by (apply OQ.af (cs:=(pP (fv a)).map U8);exact aQ;exact aB;rfl;exact .here;exact hlk;exact Row.all)) rfl ?_ | refine JC.seq ?_ | refine JC.region ?_ | refine JC.exit ?_ | refine JE.next ?_ | refine JE.ax ?_ | refine JE.aA ?_)
      refine JL.ag (cs:=(pP (fv a)).map U8) aB rfl rfl hlk (aU _) (.there .here) (by simp) ?_
      repeat (first | refine JL.nil ?_ | refine JE.next ?_)
      refine JC.ret (JE.aR rfl (RV.av aQ aB rfl (.there .here) hlk Row.all) ?_)
      exact fun w' hw=>⟨rfl,hw.aM⟩
end
section
namespace dW
theorem Bd (x : F) : pt (pP x)=x:=by
  have h:=x.isLt
  have e : le (pP x) % top=x.val:=by
    rw [pP,Bb]
    have e1 : x.val % 256 ^ 32=x.val:=Nat.mod_eq_of_lt (Nat.lt_trans h (by decide))
    rw [e1]
    exact Nat.mod_eq_of_lt (Nat.lt_trans h (by decide))
  unfold pt
  rw [e,Jq]
theorem iS (x : F) : (pP x).length=32:=xL 32 _
def bJ (k : List By) : List By:=(k.set 0 (k.getD 0 0 / 8 * 8)).set 31 ((k.set 0 (k.getD 0 0 / 8 * 8)).getD 31 0 % 64+64)
theorem kF (k : List By) : (bJ k).length=k.length:=by rw [bJ,List.length_set,List.length_set]
theorem GM : ∀ b : List By,le b % 2=(b.getD 0 0).toNat % 2
  | []=>rfl
  | x::b=>by
    show (x.toNat+256 * le b) % 2=x.toNat % 2
    omega
theorem EM : ∀ b : List By,le b<256 ^ b.length
  | []=>by show 0<256 ^ 0;decide
  | x::b=>by
    have ih:=EM b
    have h:=x.isLt
    show x.toNat+256 * le b<256 ^ (b.length+1)
    rw [Nat.pow_succ]
    omega
theorem gR : ∀ a b : List By,le (a++b)=le a+256 ^ a.length * le b
  | [],b=>by show le b=0+256 ^ 0 * le b;rw [Nat.pow_zero];omega
  | x::a,b=>by
    show x.toNat+256 * le (a++b)=x.toNat+256 * le a+256 ^ (a.length+1) * le b
    rw [gR a b,Nat.pow_succ,Nat.mul_add,Nat.mul_comm (256 ^ a.length) 256,Nat.mul_assoc,Nat.add_assoc]
theorem MU : ∀ x : By,(x / 8 * 8).toNat % 2=0:=by decide +kernel
theorem Lc : ∀ x : By,(x % 64+64).toNat<128:=by decide +kernel
theorem qn (k : List By) (h : k.length=32) : le (bJ k) % 2=0:=by
  rw [GM,bJ]
  simp only [List.getD_eq_getElem?_getD,List.getElem?_set,List.length_set,h]
  simp only [show ¬ (31 : Nat)=0 by decide,if_false,if_true,show (0 : Nat)<32 by decide,Option.getD_some]
  exact MU _
theorem uA (k : List By) (h : k.length=32) : le (bJ k)<2 ^ 255:=by
  have l:=kF k
  have e : bJ k=(bJ k).take 31++[(bJ k).getD 31 0]:=by
    have d : (bJ k).drop 31=[(bJ k).getD 31 0]:=by
      rw [List.drop_eq_getElem_cons (by omega),List.drop_eq_nil_of_le (by omega),List.getD_eq_getElem?_getD,List.getElem?_eq_getElem (by omega)]
      rfl
    rw [← d,List.take_append_drop]
  have top : ((bJ k).getD 31 0).toNat<128:=by
    rw [bJ]
    generalize k.set 0 (k.getD 0 0 / 8 * 8)=m at *
    by_cases hm : 31<m.length
    · rw [List.getD_eq_getElem?_getD,List.getElem?_set,if_pos rfl,if_pos hm]
      exact Lc _
    · rw [List.getD_eq_getElem?_getD,List.getElem?_eq_none (by rw [List.length_set];omega)]
      decide
  have lt:=EM ((bJ k).take 31)
  have l31 : ((bJ k).take 31).length=31:=by rw [List.length_take];omega
  rw [e,gR,l31]
  rw [l31] at lt
  generalize (bJ k).getD 31 0=x at *
  generalize le ((bJ k).take 31)=y at *
  have p : (2 : Nat) ^ 255=256 ^ 31 * 128:=by decide
  have s : le [x]=x.toNat:=by show x.toNat+256 * 0=x.toNat;omega
  rw [p,s]
  have m:=Nat.mul_le_mul_left (256 ^ 31) (show x.toNat≤127 by omega)
  generalize (256 : Nat) ^ 31=M at *
  generalize M * x.toNat=z at *
  omega
def aH (k u : List By) : List By:=pP (qy (le (bJ k)) (pt u))
theorem zS (a b u : List By) (ha : a.length=32) (hb : b.length=32) : aH a (aH b u)=aH b (aH a u):=by
  unfold aH
  rw [Bd,Bd,Ck _ (uA a ha) (uA b hb) (qn a ha) (qn b hb)]
theorem zT : ∀ (b : List By) (i : Nat),(le b).testBit i=(b.getD (i / 8) 0).toNat.testBit (i % 8)
  | [],i=>by
    rw [show le []=0 from rfl,Nat.zero_testBit]
    show false=(0 : By).toNat.testBit (i % 8)
    rw [show (0 : By).toNat=0 from rfl,Nat.zero_testBit]
  | x::b,i=>by
    have ih:=zT b
    have h:=x.isLt
    have e : le (x::b)=2 ^ 8 * le b+x.toNat:=by show x.toNat+256 * le b=256 * le b+x.toNat;omega
    rw [e,Nat.testBit_two_pow_mul_add _ h]
    by_cases hi : i<8
    · rw [if_pos hi,Nat.div_eq_of_lt hi,Nat.mod_eq_of_lt hi]
      rfl
    · rw [if_neg hi,ih,show i / 8=(i - 8) / 8+1 by omega,show i % 8=(i - 8) % 8 by omega]
      rfl
structure N4 where
  x2 : List Int
  z2 : List Int
  x3 : List Int
  z3 : List Int
def N4.f (s : N4) : L4:=⟨fv s.x2,fv s.z2,fv s.x3,fv s.z3⟩
structure N4.ok (s : N4) : Prop where
  x2 : Good s.x2
  z2 : Good s.z2
  x3 : Good s.x3
  z3 : Good s.z3
def cL : List Int:=56129::1::List.replicate 14 0
theorem mO : Good cL:=⟨rfl,by decide,fun j h0 h1=>by
  unfold cL
  cases j with
  | zero=>omega
  | succ j=>
    cases j with
    | zero=>decide
    | succ j=>
      have : nth (56129::1::List.replicate 14 0) (j+1+1)=0:=iP 14 j
      omega⟩
theorem Ld : fv cL=121665:=by decide +kernel
def qo (x1 : List Int) (s : N4) : N4:=
  let a:=nR s.x2 s.z2
  let b:=nU s.x2 s.z2
  let c:=nR s.x3 s.z3
  let d:=nU s.x3 s.z3
  let da:=mulL d a
  let cb:=mulL c b
  let aa:=mulL a a
  let bb:=mulL b b
  let e:=nU aa bb
  ⟨mulL aa bb,mulL e (nR aa (mulL cL e)),mulL (nR da cb) (nR da cb),mulL x1 (mulL (nU da cb) (nU da cb))⟩
def jR (b : Bool) (s : N4) : N4:=if b then ⟨s.x3,s.z3,s.x2,s.z2⟩ else s
theorem oM {s : N4} (h : s.ok) (b : Bool) : (jR b s).ok:=by
  cases b
  · exact h
  · exact ⟨h.x3,h.z3,h.x2,h.z2⟩
theorem Be (s : N4) (b : Bool) : (jR b s).f=swap b s.f:=by cases b <;> rfl
theorem EN {x1 : List Int} {s : N4} (h1 : Good x1) (h : s.ok) : (qo x1 s).ok:=by
  have a:=cw h.x2 h.z2
  have b:=bU h.x2 h.z2
  have c:=cw h.x3 h.z3
  have d:=bU h.x3 h.z3
  have da:=aI d a
  have cb:=aI c b
  have aa:=aI a a
  have bb:=aI b b
  have e:=bU aa bb
  have r1:=aI aa bb
  have r2:=aI e (cw aa (aI mO e))
  have r3:=aI (cw da cb) (cw da cb)
  have r4:=aI h1 (aI (bU da cb) (bU da cb))
  unfold qo
  refine ⟨?_,?_,?_,?_⟩
  · simp only;exact r1
  · simp only;exact r2
  · simp only;exact r3
  · simp only;exact r4
theorem GN {a b : List Int} (ha : Good a) (hb : Good b) : fv (nR a b)=fv a+fv b:=GH ha.len hb.len
theorem GO {a b : List Int} (ha : Good a) (hb : Good b) : fv (nU a b)=fv a - fv b:=GI ha.len hb.len
theorem sn {a b : List Int} (ha : Good a) (hb : Good b) : fv (mulL a b)=fv a * fv b:=qK ha.len hb.len
theorem GP {x1 : List Int} {s : N4} (h1 : Good x1) (h : s.ok) : (qo x1 s).f=core (fv x1) s.f:=by
  have a:=cw h.x2 h.z2
  have b:=bU h.x2 h.z2
  have c:=cw h.x3 h.z3
  have d:=bU h.x3 h.z3
  have da:=aI d a
  have cb:=aI c b
  have aa:=aI a a
  have bb:=aI b b
  have e:=bU aa bb
  unfold N4.f qo core
  simp only
  rw [sn aa bb,sn e (cw aa (aI mO e)),GN aa (aI mO e),sn mO e,GO aa bb,sn (cw da cb) (cw da cb),GN da cb,
    sn h1 (aI (bU da cb) (bU da cb)),sn (bU da cb) (bU da cb),GO da cb,sn d a,sn c b,sn a a,sn b b,GN h.x2 h.z2,GO h.x2 h.z2,GN h.x3 h.z3,GO h.x3 h.z3,Ld]
def jx (x1 : List Int) (k : Nat) : Nat→N4
  | 0=>⟨kW,List.replicate 16 0,x1,kW⟩
  | n+1=>jR (k.testBit (254 - n)) (qo x1 (jR (k.testBit (254 - n)) (jx x1 k n)))
theorem zU : Good (List.replicate 16 0):=⟨rfl,by decide,fun j _ _=>by rw [iP];omega⟩
theorem qL {x1 : List Int} (h : Good x1) (k : Nat) : ∀ n,(jx x1 k n).ok
  | 0=>⟨pN,zU,h,pN⟩
  | n+1=>oM (EN h (oM (qL h k n) _)) _
theorem EO {x1 : List Int} (h : Good x1) (k : Nat) : ∀ n,n≤255→ux (fv x1) k (255 - n) (jx x1 k n).f=ux (fv x1) k 255 (jx x1 k 0).f
  | 0,_=>rfl
  | n+1,hn=>by
    rw [← EO h k n (by omega)]
    have e : 255 - n=(255 - (n+1))+1:=by omega
    have e2 : 254 - n=255 - (n+1):=by omega
    rw [e]
    show ux (fv x1) k (255 - (n+1)) (jR (k.testBit (254 - n)) (qo x1 (jR (k.testBit (254 - n)) (jx x1 k n)))).f=ux (fv x1) k (255 - (n+1)) (swap (k.testBit (255 - (n+1))) (core (fv x1) (swap (k.testBit (255 - (n+1))) (jx x1 k n).f)))
    rw [Be,GP h (oM (qL h k n) _),Be,e2]
theorem EP : fv (List.replicate 16 0)=0:=by decide +kernel
theorem ER {x1 : List Int} (h : Good x1) (k : Nat) : fv (mulL (jx x1 k 255).x2 (fU (jx x1 k 255).z2 255))=qy k (fv x1):=by
  have g:=qL h k 255
  have e : (jx x1 k 255).f=ux (fv x1) k 255 (jx x1 k 0).f:=EO h k 255 (by omega)
  have e0 : (jx x1 k 0).f=⟨1,0,fv x1,1⟩:=by
    show (⟨fv kW,fv (List.replicate 16 0),fv x1,fv kW⟩ : L4)=_
    rw [A8,EP]
  rw [e0] at e
  rw [sn g.x2 (jQ g.z2 255),GK g.z2]
  unfold qy
  rw [← e]
  rfl
theorem Cu (k u : List By) (hu : u.length=32) : pP (fv (mulL (jx (iR u) (le (bJ k)) 255).x2 (fU (jx (iR u) (le (bJ k)) 255).z2 255)))=aH k u:=by
  rw [ER (nV u),EC u hu]
  rfl
end dW
end
section
set_option maxRecDepth 10000
open Sl dW
theorem so : aL Tryz.prog 31:=⟨_,Tryz.func31,rfl,by kernel_rfl⟩
def Ju : Nat→List (Nat × Nat)
  | 2=>[(0,55),(1,56)]
  | 5=>[(3,58),(4,59)]
  | 8=>[(6,61),(7,62)]
  | 11=>[(9,64),(10,65)]
  | 16=>[(12,12),(2,57)]
  | 17=>[(13,13),(5,60)]
  | 18=>[(14,14),(8,63)]
  | 19=>[(15,15),(11,66)]
  | _=>[]
def Jv : Nat→List (Nat × Nat)
  | 2=>[(0,67),(1,68)]
  | 5=>[(3,70),(4,71)]
  | 8=>[(6,73),(7,74)]
  | 11=>[(9,76),(10,77)]
  | 16=>[(12,16),(2,69)]
  | 17=>[(13,17),(5,72)]
  | 18=>[(14,18),(8,75)]
  | 19=>[(15,19),(11,78)]
  | _=>[]
def Le : Nat→List Nat
  | 0=>[20]
  | 1=>[21]
  | 3=>[20]
  | 4=>[21]
  | 6=>[22]
  | 7=>[23]
  | 9=>[22]
  | 10=>[23]
  | 16=>[12]
  | 17=>[13]
  | 18=>[14]
  | 19=>[15]
  | _=>[]
def Lf : Nat→List Nat
  | 0=>[23]
  | 1=>[20]
  | 3=>[22]
  | 4=>[21]
  | 6=>[20]
  | 7=>[20]
  | 9=>[21]
  | 10=>[21]
  | 16=>[12]
  | 17=>[13]
  | 18=>[14]
  | 19=>[15]
  | _=>[]
def Il : Nat→List Nat
  | 16=>[12]
  | 17=>[13]
  | 18=>[14]
  | 19=>[15]
  | _=>[]
def Im : Nat→Option Nat
  | 16=>some 12
  | 17=>some 13
  | 18=>some 14
  | 19=>some 15
  | _=>none
def Lg : Nat→List (Nat × Nat)
  | 8=>[(4,6),(0,33)]
  | 9=>[(5,7),(1,34)]
  | 10=>[(6,8),(2,35)]
  | 11=>[(7,9),(3,36)]
  | _=>[]
def MV : Nat→List Nat
  | 2=>[12]
  | 8=>[4]
  | 9=>[5]
  | 10=>[6]
  | 11=>[7]
  | _=>[]
def MW : Nat→List Nat
  | 8=>[4]
  | 9=>[5]
  | 10=>[6]
  | 11=>[7]
  | _=>[]
def MX : Nat→Option Nat
  | 8=>some 4
  | 9=>some 5
  | 10=>some 6
  | 11=>some 7
  | _=>none
theorem Jw (x : By) (k : Nat) (h : k<8) : decide ((x >>> k) &&& 1#8=1#8)=x.toNat.testBit k:=by
  have h8 : ∀ k : Fin 8,∀ x : By,decide ((x >>> k.val) &&& 1#8=1#8)=x.toNat.testBit k.val:=by decide +kernel
  exact h8 ⟨k,h⟩ x
set_option maxHeartbeats 32000000 in
set_option maxRecDepth 4000 in
theorem uB (k u : List By) (hk : k.length=32) (hu : u.length=32) (w : World) : Calls Tryz.prog 31 [.agg (k.map U8).toArray,.agg (u.map U8).toArray].toArray w fun e w'=>e=.returned (.agg ((aH k u).map U8).toArray)∧Ext w w':=by
  have eM:=Cu k u hu
  have hK : (bJ k).length=32:=by rw [kF,hk]
  have eK : bJ k=(k.set 0 (k.getD 0 0 / 8 * 8)).set 31 ((k.set 0 (k.getD 0 0 / 8 * 8)).getD 31 0 % 64+64):=rfl
  have hc0:=kD (l:=k) (i:=0) (by omega)
  have hc31:=kD (l:=k.set 0 (k.getD 0 0 / 8 * 8)) (i:=31) (by rw [List.length_set];omega)
  have gx:=nV u
  have cR:=Cr u hu
  have hlu : (u.map U8).length=32:=by rw [List.length_map];exact hu
  generalize hx1 : iR u=x1 at eM gx cR
  refine enter (n:=119) Tryz.func31 rfl rfl rfl (ah.start w []) ?_
  repeat (first | refine JC.seq ?_ | refine JC.region ?_)
  refine JL.box (r:=k.map U8) rfl rfl rfl fun b2 _=>?_
  refine JL.box (r:=u.map U8) rfl rfl rfl fun b3 _=>?_
  refine JL.alloc hU rfl fun b4 _=>?_
  repeat (first | refine JL.q (by first|(apply OQ.aD;exact Tryz.underlying23;exact wB;rfl;rfl;exact (by decide))|(apply OQ.load;exact GL;rfl;exact (.there (.there .here));exact (Row.cell hc0))|(apply OQ.Me (b:=8#8);rfl;rfl;exact (by decide))|(apply OQ.Md (b:=8#8);rfl;rfl)) rfl ?_ | refine JC.seq ?_ | refine JC.region ?_ | refine JL.nil ?_ | refine JE.next ?_)
  refine JL.az (r':=(k.set 0 (k.getD 0 0 / 8 * 8)).map U8) wB rfl rfl rfl rfl (.there (.there .here)) (by rw [List.length_map,hk];decide) (sj _ _ _) ?_
  repeat (first | refine JL.q (by first|(apply OQ.aD;exact Tryz.underlying23;exact wB;rfl;rfl;exact (by decide))|(apply OQ.load;exact GL;rfl;exact (.there (.there .here));exact (Row.cell hc31))|(apply OQ.Mg (b:=64#8);rfl;rfl;exact (by decide))|(apply OQ.Mc (b:=64#8);rfl;rfl)) rfl ?_ | refine JC.seq ?_ | refine JC.region ?_ | refine JL.nil ?_ | refine JE.next ?_)
  refine JL.az (r':=(bJ k).map U8) wB rfl rfl rfl rfl (.there (.there .here)) (by rw [List.length_map,List.length_set,hk];decide) (sj _ _ _) ?_
  generalize bJ k=K at eM hK
  clear hc0 hc31 eK
  have hx1l : (x1.map I).length=16:=by rw [List.length_map];exact gx.len
  repeat (first | refine JL.q (by first|(apply OQ.af (cs:=u.map U8);exact aQ;exact aB;rfl;exact (.there .here);exact hlu;exact Row.all)|(apply OQ.au;exact zO;rfl;exact (fun w' _=>cR w'))) rfl ?_ | refine JC.seq ?_ | refine JC.region ?_ | refine JL.nil ?_ | refine JE.next ?_)
  refine JL.alloc jv rfl fun b5 _=>?_
  refine JL.ag (cs:=x1.map I) bg rfl rfl hx1l (bE _) .here (by simp) ?_
  repeat (first | refine JC.seq ?_ | refine JL.nil ?_ | refine JE.next ?_)
  · let vs : Nat→Nat→Value:=fun j x=>match j with
      | 0=>.agg (kW.map I).toArray
      | 1=>.agg ((List.replicate 16 (0 : Int)).map I).toArray
      | 2=>.agg (x1.map I).toArray
      | 3=>.agg (kW.map I).toArray
      | _=>Pt x 0
    let Ms : Nat→Nat→List aG:=fun j x=>match j with
      | 4=>[⟨x,Row 97 ((List.replicate 16 (0 : Int)).map I),true⟩]
      | 5=>[⟨x,Row 97 ((List.replicate 16 (0 : Int)).map I),true⟩]
      | 6=>[⟨x,Row 97 ((List.replicate 16 (0 : Int)).map I),true⟩]
      | 7=>[⟨x,Row 97 ((List.replicate 16 (0 : Int)).map I),true⟩]
      | 8=>[⟨x,Row 97 (kW.map I),true⟩]
      | 9=>[⟨x,Row 97 ((List.replicate 16 (0 : Int)).map I),true⟩]
      | 10=>[⟨x,Row 97 (x1.map I),true⟩]
      | 11=>[⟨x,Row 97 (kW.map I),true⟩]
      | 12=>[⟨b5,Row 97 (x1.map I),true⟩]
      | 13=>[⟨b4,Row 23 ((List.replicate 32 (0 : By)).map U8),true⟩]
      | 14=>[⟨b2,Row 23 (K.map U8),true⟩]
      | _=>[]
    refine JC.grow (g:=⟨[(2,Pt b2 0),(4,Pt b4 0),(5,Pt b5 0)],15,vs,Ms,Lg,MV,MW,MX⟩) [(4,6),(5,7),(6,8),(7,9)] [8,9,10,11,12,13,14] eP (by repeat (first | exact ai.nil | refine ai.cons _ _ _ rfl ?_)) (.keep _ _ _ _ _ _ (fun _ h=>h) (.keep _ _ _ _ _ _ (fun _ h=>h) (.drop _ _ _ (an.refl _)))) (by kernel_rfl) (by kernel_rfl) (by kernel_rfl) ?_ ?_
    · refine ⟨?_,?_,?_,?_,?_,?_,?_,?_,?_,?_,?_,?_,trivial⟩
      · intro x EF MF Q kk
        exact JL.q (OQ.pure (v:=.agg (kW.map I).toArray) rfl rfl (by kernel_rfl)) rfl (JL.nil (kk 0 nofun))
      · intro x EF MF Q kk
        exact JL.q (OQ.pure (v:=.agg ((List.replicate 16 (0 : Int)).map I).toArray) rfl rfl (by kernel_rfl)) rfl (JL.nil (kk 0 nofun))
      · intro x EF MF Q kk
        exact JL.q (OQ.af (cs:=x1.map I) cu bg rfl .here hx1l Row.all) rfl (JL.nil (kk 0 nofun))
      · intro x EF MF Q kk
        exact JL.q (OQ.pure (v:=.agg (kW.map I).toArray) rfl rfl (by kernel_rfl)) rfl (JL.nil (kk 0 nofun))
      iterate 4 (focus (intro x EF MF Q kk;exact JL.alloc jv rfl fun b _=>JL.nil (kk b nofun)))
      · intro x EF MF Q kk
        exact JL.ag (cs:=kW.map I) bg rfl rfl rfl (bE _) .here (by simp) (JL.nil (kk (x 4) (fun k h=>by cases h;rfl)))
      · intro x EF MF Q kk
        exact JL.ag (cs:=(List.replicate 16 (0 : Int)).map I) bg rfl rfl rfl (bE _) .here (by simp) (JL.nil (kk (x 5) (fun k h=>by cases h;rfl)))
      · intro x EF MF Q kk
        exact JL.ag (cs:=x1.map I) bg rfl rfl hx1l (bE _) .here (by simp) (JL.nil (kk (x 6) (fun k h=>by cases h;rfl)))
      · intro x EF MF Q kk
        exact JL.ag (cs:=kW.map I) bg rfl rfl rfl (bE _) .here (by simp) (JL.nil (kk (x 7) (fun k h=>by cases h;rfl)))
    · intro x hx
      have h8:=hx 8 4 (by decide) rfl
      have h9:=hx 9 5 (by decide) rfl
      have h10:=hx 10 6 (by decide) rfl
      have h11:=hx 11 7 (by decide) rfl
      show JE _ _ _ _ _ [(6,Pt (x 4) 0),(7,Pt (x 5) 0),(8,Pt (x 6) 0),(9,Pt (x 7) 0),(2,Pt b2 0),(4,Pt b4 0),(5,Pt b5 0)] [⟨(x 8),Row 97 (kW.map I),true⟩,⟨(x 9),Row 97 ((List.replicate 16 (0 : Int)).map I),true⟩,⟨(x 10),Row 97 (x1.map I),true⟩,⟨(x 11),Row 97 (kW.map I),true⟩,⟨b5,Row 97 (x1.map I),true⟩,⟨b4,Row 23 ((List.replicate 32 (0 : By)).map U8),true⟩,⟨b2,Row 23 (K.map U8),true⟩]
      rw [h8,h9,h10,h11]
      generalize x 4=b6
      generalize x 5=b7
      generalize x 6=b8
      generalize x 7=b9
      clear hx h8 h9 h10 h11 x vs Ms
      repeat (first | refine JL.q (by (apply OQ.assign;rfl)) rfl ?_ | refine JC.seq ?_ | refine JC.region ?_ | refine JC.block ?_ | refine JL.nil ?_ | refine JE.next ?_)
      refine JC.loop (fun n : Nat=>[(2,Pt b2 0),(4,Pt b4 0),(5,Pt b5 0),(6,Pt b6 0),(7,Pt b7 0),(8,Pt b8 0),(9,Pt b9 0),(10,I (254 - n))])
        (fun n=>[⟨b6,Row 97 ((jx x1 (le K) n).x2.map I),true⟩,⟨b7,Row 97 ((jx x1 (le K) n).z2.map I),true⟩,⟨b8,Row 97 ((jx x1 (le K) n).x3.map I),true⟩,⟨b9,Row 97 ((jx x1 (le K) n).z3.map I),true⟩,⟨b5,Row 97 (x1.map I),true⟩,⟨b4,Row 23 ((List.replicate 32 (0 : By)).map U8),true⟩,⟨b2,Row 23 (K.map U8),true⟩])
        (fun n=>255 - n) (fun n=>n≤255) 0 (by omega) (by repeat (first | exact ai.nil | refine ai.cons _ _ _ rfl ?_)) (an.refl _) ?_
      intro n hn
      have ok:=qL gx (le K) n
      repeat (first | refine JL.q (by first|(apply OQ.Ds (b:=0);rfl;rfl)|(apply OQ.move;rfl)) rfl ?_ | refine JC.seq ?_ | refine JC.region ?_ | refine JL.nil ?_ | refine JE.next ?_)
      refine JC.cond rfl (fun h=>?_) (fun h=>?_)
      · have hn' : (0 : Int)≤254 - n:=of_decide_eq_true h
        clear h hn
        have hb : n<255:=by omega
        have hb2 : n≤254:=by omega
        have eN : jx x1 (le K) (n+1)=jR ((le K).testBit (254 - n)) (qo x1 (jR ((le K).testBit (254 - n)) (jx x1 (le K) n))):=rfl
        obtain ⟨i,hi⟩ : ∃ i,i=254 - n:=⟨_,rfl⟩
        have eI : (254 - (n : Int))=((i : Nat) : Int):=by omega
        rw [← hi] at eN
        rw [eI]
        have hcb:=kD (l:=K) (i:=i / 8) (by omega)
        have hbit : decide ((K.getD (i / 8) 0 >>> (i % 8)) &&& 1#8=1#8)=(le K).testBit i:=by rw [Jw _ _ (by omega),zT]
        generalize jx x1 (le K) n=s at ok eN ⊢
        obtain ⟨x2,z2,x3,z3⟩:=s
        have gx2 : Good x2:=ok.x2
        have gz2 : Good z2:=ok.z2
        have gx3 : Good x3:=ok.x3
        have gz3 : Good z3:=ok.z3
        dsimp only
        repeat (first | refine JL.q (by first|(apply OQ.aD;exact Tryz.underlying23;exact wB;rfl;rfl;exact (by (try simp only []);omega))|(apply OQ.load;exact GL;rfl;exact (by repeat (first | exact Has.here | apply Has.there));exact (Row.cell hcb))|(apply OQ.KG;rfl;rfl)|(apply OQ.FZ (b:=1#8);rfl;rfl)|(apply OQ.move;rfl)|(apply OQ.assign;rfl)|(apply OQ.yI;rfl;rfl;exact (by (try simp only []);omega))|(apply OQ.Dl;rfl;rfl;exact (by (try simp only []);omega);exact (by (try simp only []);omega))) rfl ?_ | refine JC.seq ?_ | refine JC.region ?_ | refine JC.block ?_ | refine JC.skip ?_ | refine JL.nil ?_ | refine JE.next ?_)
        generalize hbt : (K.getD (i / 8) 0 >>> (i % 8)) &&& 1#8=bt at hbit ⊢
        repeat (first | refine JL.q (by (apply OQ.Ma (b:=1#8);rfl;rfl)) rfl ?_ | refine JL.nil ?_ | refine JE.next ?_)
        refine JC.join (ι:=Unit) (fun _=>[(2,Pt b2 0),(4,Pt b4 0),(5,Pt b5 0),(6,Pt b6 0),(7,Pt b7 0),(8,Pt b8 0),(9,Pt b9 0),(10,N i),(11,U8 bt)]) (fun _=>[⟨b6,Row 97 ((jR ((le K).testBit i) ⟨x2,z2,x3,z3⟩).x2.map I),true⟩,⟨b7,Row 97 ((jR ((le K).testBit i) ⟨x2,z2,x3,z3⟩).z2.map I),true⟩,⟨b8,Row 97 ((jR ((le K).testBit i) ⟨x2,z2,x3,z3⟩).x3.map I),true⟩,⟨b9,Row 97 ((jR ((le K).testBit i) ⟨x2,z2,x3,z3⟩).z3.map I),true⟩,⟨b5,Row 97 (x1.map I),true⟩,⟨b4,Row 23 ((List.replicate 32 (0 : By)).map U8),true⟩,⟨b2,Row 23 (K.map U8),true⟩]) (fun _=>True) ?_ (fun _ _=>?_)
        · refine JC.cond rfl (fun h=>?_) (fun h=>?_)
          · rw [← hbit,h]
            repeat (first | refine JL.q (by first|(apply OQ.af (cs:=x2.map I);exact cu;exact bg;rfl;exact (by repeat (first | exact Has.here | apply Has.there));exact (by rw [List.length_map];exact gx2.len);exact Row.all)|(apply OQ.af (cs:=x3.map I);exact cu;exact bg;rfl;exact (by repeat (first | exact Has.here | apply Has.there));exact (by rw [List.length_map];exact gx3.len);exact Row.all)) rfl ?_ | refine JC.seq ?_ | refine JC.region ?_)
            refine JL.ag (cs:=x3.map I) bg rfl rfl (by rw [List.length_map];exact gx3.len) (bE _) (by repeat (first | exact e9.here | apply e9.there)) (by rw [List.length_map];exact gx2.len) ?_
            skip
            refine JL.ag (cs:=x2.map I) bg rfl rfl (by rw [List.length_map];exact gx2.len) (bE _) (by repeat (first | exact e9.here | apply e9.there)) (by rw [List.length_map];exact gx3.len) ?_
            repeat (first | refine JL.q (by first|(apply OQ.af (cs:=z2.map I);exact cu;exact bg;rfl;exact (by repeat (first | exact Has.here | apply Has.there));exact (by rw [List.length_map];exact gz2.len);exact Row.all)|(apply OQ.af (cs:=z3.map I);exact cu;exact bg;rfl;exact (by repeat (first | exact Has.here | apply Has.there));exact (by rw [List.length_map];exact gz3.len);exact Row.all)) rfl ?_ | refine JC.region ?_ | refine JL.nil ?_ | refine JE.next ?_)
            refine JL.ag (cs:=z3.map I) bg rfl rfl (by rw [List.length_map];exact gz3.len) (bE _) (by repeat (first | exact e9.here | apply e9.there)) (by rw [List.length_map];exact gz2.len) ?_
            skip
            refine JL.ag (cs:=z2.map I) bg rfl rfl (by rw [List.length_map];exact gz2.len) (bE _) (by repeat (first | exact e9.here | apply e9.there)) (by rw [List.length_map];exact gz3.len) ?_
            repeat (refine JL.nil ?_)
            exact JE.mid () trivial (by repeat (first | exact ai.nil | refine ai.cons _ _ _ rfl ?_)) (an.refl _)
          · rw [← hbit,h]
            repeat (refine JC.skip ?_)
            exact JE.mid () trivial (by repeat (first | exact ai.nil | refine ai.cons _ _ _ rfl ?_)) (an.refl _)
        have ok':=oM ok ((le K).testBit i)
        generalize jR ((le K).testBit i) ⟨x2,z2,x3,z3⟩=s' at ok' eN ⊢
        obtain ⟨X2,Z2,X3,Z3⟩:=s'
        have gX2 : Good X2:=ok'.x2
        have gZ2 : Good Z2:=ok'.z2
        have gX3 : Good X3:=ok'.x3
        have gZ3 : Good Z3:=ok'.z3
        dsimp only
        clear ok ok' gx2 gz2 gx3 gz3
        have cA:=oJ X2 Z2 gX2 gZ2
        have gA:=cw gX2 gZ2
        generalize hA : nR X2 Z2=A at cA gA
        have cB:=mN X2 Z2 gX2 gZ2
        have gB:=bU gX2 gZ2
        generalize hB : nU X2 Z2=B at cB gB
        have cC:=oJ X3 Z3 gX3 gZ3
        have gC:=cw gX3 gZ3
        generalize hC : nR X3 Z3=C at cC gC
        have cD:=mN X3 Z3 gX3 gZ3
        have gD:=bU gX3 gZ3
        generalize hD : nU X3 Z3=D at cD gD
        have cDA:=dD D A gD gA
        have gDA:=aI gD gA
        generalize hDA : mulL D A=DA at cDA gDA
        have cCB:=dD C B gC gB
        have gCB:=aI gC gB
        generalize hCB : mulL C B=CB at cCB gCB
        have cAA:=dD A A gA gA
        have gAA:=aI gA gA
        generalize hAA : mulL A A=AA at cAA gAA
        have cBB:=dD B B gB gB
        have gBB:=aI gB gB
        generalize hBB : mulL B B=BB at cBB gBB
        have cE:=mN AA BB gAA gBB
        have gE:=bU gAA gBB
        generalize hE : nU AA BB=E at cE gE
        have cF:=dD cL E mO gE
        have gF:=aI mO gE
        generalize hF : mulL cL E=F at cF gF
        have cG:=oJ AA F gAA gF
        have gG:=cw gAA gF
        generalize hG : nR AA F=G at cG gG
        have cR1:=dD AA BB gAA gBB
        have gR1:=aI gAA gBB
        generalize hR1 : mulL AA BB=R1 at cR1 gR1
        have cR2:=dD E G gE gG
        have gR2:=aI gE gG
        generalize hR2 : mulL E G=R2 at cR2 gR2
        have cH:=oJ DA CB gDA gCB
        have gH:=cw gDA gCB
        generalize hH : nR DA CB=H at cH gH
        have cR3:=dD H H gH gH
        have gR3:=aI gH gH
        generalize hR3 : mulL H H=R3 at cR3 gR3
        have cJ:=mN DA CB gDA gCB
        have gJ:=bU gDA gCB
        generalize hJ : nU DA CB=J at cJ gJ
        have cJJ:=dD J J gJ gJ
        have gJJ:=aI gJ gJ
        generalize hJJ : mulL J J=JJ at cJJ gJJ
        have cR4:=dD x1 JJ gx gJJ
        have gR4:=aI gx gJJ
        generalize hR4 : mulL x1 JJ=R4 at cR4 gR4
        have eC : qo x1 ⟨X2,Z2,X3,Z3⟩=⟨R1,R2,R3,R4⟩:=by
          subst hR4 hJJ hJ hR3 hH hR2 hR1 hG hF hE hBB hAA hCB hDA hD hC hB hA
          rfl
        rw [eC] at eN
        clear eC hA hB hC hD hDA hCB hAA hBB hE hF hG hR1 hR2 hH hR3 hJ hJJ hR4
        repeat (refine JC.seq ?_)
        let vs : Nat→Nat→Value:=fun j x=>match j with
          | 0=>.agg (X2.map I).toArray
          | 1=>.agg (Z2.map I).toArray
          | 3=>.agg (X2.map I).toArray
          | 4=>.agg (Z2.map I).toArray
          | 6=>.agg (X3.map I).toArray
          | 7=>.agg (Z3.map I).toArray
          | 9=>.agg (X3.map I).toArray
          | 10=>.agg (Z3.map I).toArray
          | 2=>.agg (A.map I).toArray
          | 5=>.agg (B.map I).toArray
          | 8=>.agg (C.map I).toArray
          | 11=>.agg (D.map I).toArray
          | _=>Pt x 0
        let Ms : Nat→Nat→List aG:=fun j x=>match j with
          | 12=>[⟨x,Row 97 ((List.replicate 16 (0 : Int)).map I),true⟩]
          | 13=>[⟨x,Row 97 ((List.replicate 16 (0 : Int)).map I),true⟩]
          | 14=>[⟨x,Row 97 ((List.replicate 16 (0 : Int)).map I),true⟩]
          | 15=>[⟨x,Row 97 ((List.replicate 16 (0 : Int)).map I),true⟩]
          | 16=>[⟨x,Row 97 (A.map I),true⟩]
          | 17=>[⟨x,Row 97 (B.map I),true⟩]
          | 18=>[⟨x,Row 97 (C.map I),true⟩]
          | 19=>[⟨x,Row 97 (D.map I),true⟩]
          | 20=>[⟨b6,Row 97 (X2.map I),true⟩]
          | 21=>[⟨b7,Row 97 (Z2.map I),true⟩]
          | 22=>[⟨b8,Row 97 (X3.map I),true⟩]
          | 23=>[⟨b9,Row 97 (Z3.map I),true⟩]
          | 24=>[⟨b5,Row 97 (x1.map I),true⟩]
          | 25=>[⟨b4,Row 23 ((List.replicate 32 (0 : By)).map U8),true⟩]
          | 26=>[⟨b2,Row 23 (K.map U8),true⟩]
          | _=>[]
        refine JC.grow (g:=⟨[(2,Pt b2 0),(4,Pt b4 0),(5,Pt b5 0),(6,Pt b6 0),(7,Pt b7 0),(8,Pt b8 0),(9,Pt b9 0),(10,N i),(11,U8 bt)],27,vs,Ms,Ju,Le,Il,Im⟩) [(12,12),(13,13),(14,14),(15,15)] [16,17,18,19,20,21,22,23,24,25,26] eP (by repeat (first | exact ai.nil | refine ai.cons _ _ _ rfl ?_)) (an.refl _) (by kernel_rfl) (by kernel_rfl) (by kernel_rfl) ?_ ?_
        · refine ⟨?_,?_,?_,?_,?_,?_,?_,?_,?_,?_,?_,?_,?_,?_,?_,?_,?_,?_,?_,?_,trivial⟩
          · intro x EF MF Q kk
            exact JL.q (OQ.af (cs:=X2.map I) cu bg rfl .here (by rw [List.length_map];exact gX2.len) Row.all) rfl (JL.nil (kk 0 nofun))
          · intro x EF MF Q kk
            exact JL.q (OQ.af (cs:=Z2.map I) cu bg rfl .here (by rw [List.length_map];exact gZ2.len) Row.all) rfl (JL.nil (kk 0 nofun))
          · intro x EF MF Q kk
            exact JL.q (OQ.au mM rfl fun w' _=>cA w') rfl (JL.nil (kk 0 nofun))
          · intro x EF MF Q kk
            exact JL.q (OQ.af (cs:=X2.map I) cu bg rfl .here (by rw [List.length_map];exact gX2.len) Row.all) rfl (JL.nil (kk 0 nofun))
          · intro x EF MF Q kk
            exact JL.q (OQ.af (cs:=Z2.map I) cu bg rfl .here (by rw [List.length_map];exact gZ2.len) Row.all) rfl (JL.nil (kk 0 nofun))
          · intro x EF MF Q kk
            exact JL.q (OQ.au ku rfl fun w' _=>cB w') rfl (JL.nil (kk 0 nofun))
          · intro x EF MF Q kk
            exact JL.q (OQ.af (cs:=X3.map I) cu bg rfl .here (by rw [List.length_map];exact gX3.len) Row.all) rfl (JL.nil (kk 0 nofun))
          · intro x EF MF Q kk
            exact JL.q (OQ.af (cs:=Z3.map I) cu bg rfl .here (by rw [List.length_map];exact gZ3.len) Row.all) rfl (JL.nil (kk 0 nofun))
          · intro x EF MF Q kk
            exact JL.q (OQ.au mM rfl fun w' _=>cC w') rfl (JL.nil (kk 0 nofun))
          · intro x EF MF Q kk
            exact JL.q (OQ.af (cs:=X3.map I) cu bg rfl .here (by rw [List.length_map];exact gX3.len) Row.all) rfl (JL.nil (kk 0 nofun))
          · intro x EF MF Q kk
            exact JL.q (OQ.af (cs:=Z3.map I) cu bg rfl .here (by rw [List.length_map];exact gZ3.len) Row.all) rfl (JL.nil (kk 0 nofun))
          · intro x EF MF Q kk
            exact JL.q (OQ.au ku rfl fun w' _=>cD w') rfl (JL.nil (kk 0 nofun))
          · intro x EF MF Q kk
            exact JL.alloc jv rfl fun b _=>JL.nil (kk b nofun)
          · intro x EF MF Q kk
            exact JL.alloc jv rfl fun b _=>JL.nil (kk b nofun)
          · intro x EF MF Q kk
            exact JL.alloc jv rfl fun b _=>JL.nil (kk b nofun)
          · intro x EF MF Q kk
            exact JL.alloc jv rfl fun b _=>JL.nil (kk b nofun)
          · intro x EF MF Q kk
            exact JL.ag (cs:=A.map I) bg rfl rfl (by rw [List.length_map];exact gA.len) (bE _) .here (by simp) (JL.nil (kk (x 12) (fun k h=>by cases h;rfl)))
          · intro x EF MF Q kk
            exact JL.ag (cs:=B.map I) bg rfl rfl (by rw [List.length_map];exact gB.len) (bE _) .here (by simp) (JL.nil (kk (x 13) (fun k h=>by cases h;rfl)))
          · intro x EF MF Q kk
            exact JL.ag (cs:=C.map I) bg rfl rfl (by rw [List.length_map];exact gC.len) (bE _) .here (by simp) (JL.nil (kk (x 14) (fun k h=>by cases h;rfl)))
          · intro x EF MF Q kk
            exact JL.ag (cs:=D.map I) bg rfl rfl (by rw [List.length_map];exact gD.len) (bE _) .here (by simp) (JL.nil (kk (x 15) (fun k h=>by cases h;rfl)))
        · intro x hx
          have h16:=hx 16 12 (by decide) rfl
          have h17:=hx 17 13 (by decide) rfl
          have h18:=hx 18 14 (by decide) rfl
          have h19:=hx 19 15 (by decide) rfl
          show JE _ _ _ _ _ [(12,Pt (x 12) 0),(13,Pt (x 13) 0),(14,Pt (x 14) 0),(15,Pt (x 15) 0),(2,Pt b2 0),(4,Pt b4 0),(5,Pt b5 0),(6,Pt b6 0),(7,Pt b7 0),(8,Pt b8 0),(9,Pt b9 0),(10,N i),(11,U8 bt)] [⟨(x 16),Row 97 (A.map I),true⟩,⟨(x 17),Row 97 (B.map I),true⟩,⟨(x 18),Row 97 (C.map I),true⟩,⟨(x 19),Row 97 (D.map I),true⟩,⟨b6,Row 97 (X2.map I),true⟩,⟨b7,Row 97 (Z2.map I),true⟩,⟨b8,Row 97 (X3.map I),true⟩,⟨b9,Row 97 (Z3.map I),true⟩,⟨b5,Row 97 (x1.map I),true⟩,⟨b4,Row 23 ((List.replicate 32 (0 : By)).map U8),true⟩,⟨b2,Row 23 (K.map U8),true⟩]
          rw [h16,h17,h18,h19]
          generalize x 12=b12
          generalize x 13=b13
          generalize x 14=b14
          generalize x 15=b15
          clear hx h16 h17 h18 h19 x vs Ms
          repeat (first | refine JC.seq ?_ | refine JE.next ?_)
          let vs : Nat→Nat→Value:=fun j x=>match j with
            | 0=>.agg (D.map I).toArray
            | 1=>.agg (A.map I).toArray
            | 3=>.agg (C.map I).toArray
            | 4=>.agg (B.map I).toArray
            | 6=>.agg (A.map I).toArray
            | 7=>.agg (A.map I).toArray
            | 9=>.agg (B.map I).toArray
            | 10=>.agg (B.map I).toArray
            | 2=>.agg (DA.map I).toArray
            | 5=>.agg (CB.map I).toArray
            | 8=>.agg (AA.map I).toArray
            | 11=>.agg (BB.map I).toArray
            | _=>Pt x 0
          let Ms : Nat→Nat→List aG:=fun j x=>match j with
            | 12=>[⟨x,Row 97 ((List.replicate 16 (0 : Int)).map I),true⟩]
            | 13=>[⟨x,Row 97 ((List.replicate 16 (0 : Int)).map I),true⟩]
            | 14=>[⟨x,Row 97 ((List.replicate 16 (0 : Int)).map I),true⟩]
            | 15=>[⟨x,Row 97 ((List.replicate 16 (0 : Int)).map I),true⟩]
            | 16=>[⟨x,Row 97 (DA.map I),true⟩]
            | 17=>[⟨x,Row 97 (CB.map I),true⟩]
            | 18=>[⟨x,Row 97 (AA.map I),true⟩]
            | 19=>[⟨x,Row 97 (BB.map I),true⟩]
            | 20=>[⟨b12,Row 97 (A.map I),true⟩]
            | 21=>[⟨b13,Row 97 (B.map I),true⟩]
            | 22=>[⟨b14,Row 97 (C.map I),true⟩]
            | 23=>[⟨b15,Row 97 (D.map I),true⟩]
            | 24=>[⟨b6,Row 97 (X2.map I),true⟩]
            | 25=>[⟨b7,Row 97 (Z2.map I),true⟩]
            | 26=>[⟨b8,Row 97 (X3.map I),true⟩]
            | 27=>[⟨b9,Row 97 (Z3.map I),true⟩]
            | 28=>[⟨b5,Row 97 (x1.map I),true⟩]
            | 29=>[⟨b4,Row 23 ((List.replicate 32 (0 : By)).map U8),true⟩]
            | 30=>[⟨b2,Row 23 (K.map U8),true⟩]
            | _=>[]
          refine JC.grow (g:=⟨[(2,Pt b2 0),(4,Pt b4 0),(5,Pt b5 0),(6,Pt b6 0),(7,Pt b7 0),(8,Pt b8 0),(9,Pt b9 0),(10,N i),(11,U8 bt),(12,Pt b12 0),(13,Pt b13 0),(14,Pt b14 0),(15,Pt b15 0)],31,vs,Ms,Jv,Lf,Il,Im⟩) [(12,16),(13,17),(14,18),(15,19)] [16,17,18,19,20,21,22,23,24,25,26,27,28,29,30] eP (by repeat (first | exact ai.nil | refine ai.cons _ _ _ rfl ?_)) (an.refl _) (by kernel_rfl) (by kernel_rfl) (by kernel_rfl) ?_ ?_
          · refine ⟨?_,?_,?_,?_,?_,?_,?_,?_,?_,?_,?_,?_,?_,?_,?_,?_,?_,?_,?_,?_,trivial⟩
            · intro x EF MF Q kk
              exact JL.q (OQ.af (cs:=D.map I) cu bg rfl .here (by rw [List.length_map];exact gD.len) Row.all) rfl (JL.nil (kk 0 nofun))
            · intro x EF MF Q kk
              exact JL.q (OQ.af (cs:=A.map I) cu bg rfl .here (by rw [List.length_map];exact gA.len) Row.all) rfl (JL.nil (kk 0 nofun))
            · intro x EF MF Q kk
              exact JL.q (OQ.au cI rfl fun w' _=>cDA w') rfl (JL.nil (kk 0 nofun))
            · intro x EF MF Q kk
              exact JL.q (OQ.af (cs:=C.map I) cu bg rfl .here (by rw [List.length_map];exact gC.len) Row.all) rfl (JL.nil (kk 0 nofun))
            · intro x EF MF Q kk
              exact JL.q (OQ.af (cs:=B.map I) cu bg rfl .here (by rw [List.length_map];exact gB.len) Row.all) rfl (JL.nil (kk 0 nofun))
            · intro x EF MF Q kk
              exact JL.q (OQ.au cI rfl fun w' _=>cCB w') rfl (JL.nil (kk 0 nofun))
            · intro x EF MF Q kk
              exact JL.q (OQ.af (cs:=A.map I) cu bg rfl .here (by rw [List.length_map];exact gA.len) Row.all) rfl (JL.nil (kk 0 nofun))
            · intro x EF MF Q kk
              exact JL.q (OQ.af (cs:=A.map I) cu bg rfl .here (by rw [List.length_map];exact gA.len) Row.all) rfl (JL.nil (kk 0 nofun))
            · intro x EF MF Q kk
              exact JL.q (OQ.au cI rfl fun w' _=>cAA w') rfl (JL.nil (kk 0 nofun))
            · intro x EF MF Q kk
              exact JL.q (OQ.af (cs:=B.map I) cu bg rfl .here (by rw [List.length_map];exact gB.len) Row.all) rfl (JL.nil (kk 0 nofun))
            · intro x EF MF Q kk
              exact JL.q (OQ.af (cs:=B.map I) cu bg rfl .here (by rw [List.length_map];exact gB.len) Row.all) rfl (JL.nil (kk 0 nofun))
            · intro x EF MF Q kk
              exact JL.q (OQ.au cI rfl fun w' _=>cBB w') rfl (JL.nil (kk 0 nofun))
            · intro x EF MF Q kk
              exact JL.alloc jv rfl fun b _=>JL.nil (kk b nofun)
            · intro x EF MF Q kk
              exact JL.alloc jv rfl fun b _=>JL.nil (kk b nofun)
            · intro x EF MF Q kk
              exact JL.alloc jv rfl fun b _=>JL.nil (kk b nofun)
            · intro x EF MF Q kk
              exact JL.alloc jv rfl fun b _=>JL.nil (kk b nofun)
            · intro x EF MF Q kk
              exact JL.ag (cs:=DA.map I) bg rfl rfl (by rw [List.length_map];exact gDA.len) (bE _) .here (by simp) (JL.nil (kk (x 12) (fun k h=>by cases h;rfl)))
            · intro x EF MF Q kk
              exact JL.ag (cs:=CB.map I) bg rfl rfl (by rw [List.length_map];exact gCB.len) (bE _) .here (by simp) (JL.nil (kk (x 13) (fun k h=>by cases h;rfl)))
            · intro x EF MF Q kk
              exact JL.ag (cs:=AA.map I) bg rfl rfl (by rw [List.length_map];exact gAA.len) (bE _) .here (by simp) (JL.nil (kk (x 14) (fun k h=>by cases h;rfl)))
            · intro x EF MF Q kk
              exact JL.ag (cs:=BB.map I) bg rfl rfl (by rw [List.length_map];exact gBB.len) (bE _) .here (by simp) (JL.nil (kk (x 15) (fun k h=>by cases h;rfl)))
          · intro x hx
            have h16:=hx 16 12 (by decide) rfl
            have h17:=hx 17 13 (by decide) rfl
            have h18:=hx 18 14 (by decide) rfl
            have h19:=hx 19 15 (by decide) rfl
            show JE _ _ _ _ _ [(16,Pt (x 12) 0),(17,Pt (x 13) 0),(18,Pt (x 14) 0),(19,Pt (x 15) 0),(2,Pt b2 0),(4,Pt b4 0),(5,Pt b5 0),(6,Pt b6 0),(7,Pt b7 0),(8,Pt b8 0),(9,Pt b9 0),(10,N i),(11,U8 bt),(12,Pt b12 0),(13,Pt b13 0),(14,Pt b14 0),(15,Pt b15 0)] [⟨(x 16),Row 97 (DA.map I),true⟩,⟨(x 17),Row 97 (CB.map I),true⟩,⟨(x 18),Row 97 (AA.map I),true⟩,⟨(x 19),Row 97 (BB.map I),true⟩,⟨b12,Row 97 (A.map I),true⟩,⟨b13,Row 97 (B.map I),true⟩,⟨b14,Row 97 (C.map I),true⟩,⟨b15,Row 97 (D.map I),true⟩,⟨b6,Row 97 (X2.map I),true⟩,⟨b7,Row 97 (Z2.map I),true⟩,⟨b8,Row 97 (X3.map I),true⟩,⟨b9,Row 97 (Z3.map I),true⟩,⟨b5,Row 97 (x1.map I),true⟩,⟨b4,Row 23 ((List.replicate 32 (0 : By)).map U8),true⟩,⟨b2,Row 23 (K.map U8),true⟩]
            rw [h16,h17,h18,h19]
            generalize x 12=b16
            generalize x 13=b17
            generalize x 14=b18
            generalize x 15=b19
            clear hx h16 h17 h18 h19 x vs Ms
            repeat (first | refine JC.seq ?_ | refine JC.region ?_ | refine JE.next ?_)
            repeat (refine JL.q (by first|(apply OQ.af (cs:=AA.map I);exact cu;exact bg;rfl;exact (by repeat (first | exact Has.here | apply Has.there));exact (by rw [List.length_map];exact gAA.len);exact Row.all)|(apply OQ.af (cs:=BB.map I);exact cu;exact bg;rfl;exact (by repeat (first | exact Has.here | apply Has.there));exact (by rw [List.length_map];exact gBB.len);exact Row.all)|(apply OQ.au (vs:=[.agg (AA.map I).toArray,.agg (BB.map I).toArray]);exact ku;rfl;exact (fun w' _=>cE w'))) rfl ?_)
            refine JL.alloc jv rfl fun b20 _=>?_
            refine JL.ag (cs:=E.map I) bg rfl rfl (by rw [List.length_map];exact gE.len) (bE _) .here (by simp) ?_
            repeat (first | refine JC.seq ?_ | refine JL.nil ?_ | refine JE.next ?_)
            refine JC.tail 7 eP (by kernel_rfl) ?_
            simp only [List.take_succ_cons,List.take_zero,List.drop_succ_cons,List.drop_zero]
            repeat (first | refine JQ.q (by first|(apply OQ.af (cs:=DA.map I);exact cu;exact bg;rfl;exact (by repeat (first | exact Has.here | apply Has.there));exact (by rw [List.length_map];exact gDA.len);exact Row.all)|(apply OQ.af (cs:=CB.map I);exact cu;exact bg;rfl;exact (by repeat (first | exact Has.here | apply Has.there));exact (by rw [List.length_map];exact gCB.len);exact Row.all)|(apply OQ.au (vs:=[.agg (DA.map I).toArray,.agg (CB.map I).toArray]);exact mM;rfl;exact (fun w' _=>cH w'))|(apply OQ.au (vs:=[.agg (H.map I).toArray,.agg (H.map I).toArray]);exact cI;rfl;exact (fun w' _=>cR3 w'))) rfl ?_ | refine JQ.bC ?_)
            refine JL.ag (cs:=R3.map I) bg rfl rfl (by rw [List.length_map];exact gR3.len) (bE _) (by repeat (first | exact e9.here | apply e9.there)) (by rw [List.length_map];exact gX3.len) ?_
            repeat (first | refine JC.seq ?_ | refine JL.nil ?_ | refine JE.next ?_)
            refine JC.tail 9 eP (by kernel_rfl) ?_
            simp only [List.take_succ_cons,List.take_zero,List.drop_succ_cons,List.drop_zero]
            repeat (first | refine JQ.q (by first|(apply OQ.af (cs:=DA.map I);exact cu;exact bg;rfl;exact (by repeat (first | exact Has.here | apply Has.there));exact (by rw [List.length_map];exact gDA.len);exact Row.all)|(apply OQ.af (cs:=CB.map I);exact cu;exact bg;rfl;exact (by repeat (first | exact Has.here | apply Has.there));exact (by rw [List.length_map];exact gCB.len);exact Row.all)|(apply OQ.af (cs:=x1.map I);exact cu;exact bg;rfl;exact (by repeat (first | exact Has.here | apply Has.there));exact (by rw [List.length_map];exact gx.len);exact Row.all)|(apply OQ.au (vs:=[.agg (DA.map I).toArray,.agg (CB.map I).toArray]);exact ku;rfl;exact (fun w' _=>cJ w'))|(apply OQ.au (vs:=[.agg (J.map I).toArray,.agg (J.map I).toArray]);exact cI;rfl;exact (fun w' _=>cJJ w'))|(apply OQ.au (vs:=[.agg (x1.map I).toArray,.agg (JJ.map I).toArray]);exact cI;rfl;exact (fun w' _=>cR4 w'))) rfl ?_ | refine JQ.bC ?_)
            refine JL.ag (cs:=R4.map I) bg rfl rfl (by rw [List.length_map];exact gR4.len) (bE _) (by repeat (first | exact e9.here | apply e9.there)) (by rw [List.length_map];exact gZ3.len) ?_
            repeat (first | refine JL.q (by first|(apply OQ.af (cs:=AA.map I);exact cu;exact bg;rfl;exact (by repeat (first | exact Has.here | apply Has.there));exact (by rw [List.length_map];exact gAA.len);exact Row.all)|(apply OQ.af (cs:=BB.map I);exact cu;exact bg;rfl;exact (by repeat (first | exact Has.here | apply Has.there));exact (by rw [List.length_map];exact gBB.len);exact Row.all)|(apply OQ.au (vs:=[.agg (AA.map I).toArray,.agg (BB.map I).toArray]);exact cI;rfl;exact (fun w' _=>cR1 w'))) rfl ?_ | refine JC.seq ?_ | refine JC.region ?_ | refine JL.nil ?_ | refine JE.next ?_)
            refine JL.ag (cs:=R1.map I) bg rfl rfl (by rw [List.length_map];exact gR1.len) (bE _) (by repeat (first | exact e9.here | apply e9.there)) (by rw [List.length_map];exact gX2.len) ?_
            repeat (first | refine JC.seq ?_ | refine JL.nil ?_ | refine JE.next ?_)
            refine JC.tail 7 eP (by kernel_rfl) ?_
            simp only [List.take_succ_cons,List.take_zero,List.drop_succ_cons,List.drop_zero]
            repeat (refine JQ.q (by first|(apply OQ.af (cs:=E.map I);exact cu;exact bg;rfl;exact (by repeat (first | exact Has.here | apply Has.there));exact (by rw [List.length_map];exact gE.len);exact Row.all)|(apply OQ.af (cs:=AA.map I);exact cu;exact bg;rfl;exact (by repeat (first | exact Has.here | apply Has.there));exact (by rw [List.length_map];exact gAA.len);exact Row.all)) rfl ?_)
            refine JQ.q (OQ.pure (v:=.agg (cL.map I).toArray) rfl rfl (by kernel_rfl)) rfl ?_
            repeat (first | refine JQ.q (by first|(apply OQ.af (cs:=E.map I);exact cu;exact bg;rfl;exact (by repeat (first | exact Has.here | apply Has.there));exact (by rw [List.length_map];exact gE.len);exact Row.all)|(apply OQ.au (vs:=[.agg (cL.map I).toArray,.agg (E.map I).toArray]);exact cI;rfl;exact (fun w' _=>cF w'))|(apply OQ.au (vs:=[.agg (AA.map I).toArray,.agg (F.map I).toArray]);exact mM;rfl;exact (fun w' _=>cG w'))|(apply OQ.au (vs:=[.agg (E.map I).toArray,.agg (G.map I).toArray]);exact cI;rfl;exact (fun w' _=>cR2 w'))) rfl ?_ | refine JQ.bC ?_)
            refine JL.ag (cs:=R2.map I) bg rfl rfl (by rw [List.length_map];exact gR2.len) (bE _) (by repeat (first | exact e9.here | apply e9.there)) (by rw [List.length_map];exact gZ2.len) ?_
            repeat (first | refine JL.q (by first|(apply OQ.Ma (b:=1#8);rfl;rfl)|(apply OQ.move;rfl)) rfl ?_ | refine JC.seq ?_ | refine JC.region ?_ | refine JL.nil ?_ | refine JE.next ?_)
            refine JC.cond rfl (fun h=>?_) (fun h=>?_)
            · repeat (first | refine JL.q (by first|(apply OQ.af (cs:=R1.map I);exact cu;exact bg;rfl;exact (by repeat (first | exact Has.here | apply Has.there));exact (by rw [List.length_map];exact gR1.len);exact Row.all)|(apply OQ.af (cs:=R3.map I);exact cu;exact bg;rfl;exact (by repeat (first | exact Has.here | apply Has.there));exact (by rw [List.length_map];exact gR3.len);exact Row.all)) rfl ?_ | refine JC.seq ?_ | refine JC.region ?_)
              refine JL.ag (cs:=R3.map I) bg rfl rfl (by rw [List.length_map];exact gR3.len) (bE _) (by repeat (first | exact e9.here | apply e9.there)) (by rw [List.length_map];exact gR1.len) ?_
              skip
              refine JL.ag (cs:=R1.map I) bg rfl rfl (by rw [List.length_map];exact gR1.len) (bE _) (by repeat (first | exact e9.here | apply e9.there)) (by rw [List.length_map];exact gR3.len) ?_
              repeat (first | refine JL.q (by first|(apply OQ.af (cs:=R2.map I);exact cu;exact bg;rfl;exact (by repeat (first | exact Has.here | apply Has.there));exact (by rw [List.length_map];exact gR2.len);exact Row.all)|(apply OQ.af (cs:=R4.map I);exact cu;exact bg;rfl;exact (by repeat (first | exact Has.here | apply Has.there));exact (by rw [List.length_map];exact gR4.len);exact Row.all)) rfl ?_ | refine JC.region ?_ | refine JL.nil ?_ | refine JE.next ?_)
              refine JL.ag (cs:=R4.map I) bg rfl rfl (by rw [List.length_map];exact gR4.len) (bE _) (by repeat (first | exact e9.here | apply e9.there)) (by rw [List.length_map];exact gR2.len) ?_
              skip
              refine JL.ag (cs:=R2.map I) bg rfl rfl (by rw [List.length_map];exact gR2.len) (bE _) (by repeat (first | exact e9.here | apply e9.there)) (by rw [List.length_map];exact gR4.len) ?_
              repeat (first | refine JL.q (by (apply OQ.move;rfl)) rfl ?_ | refine JC.region ?_ | refine JL.nil ?_ | refine JE.next ?_ | refine JE.aq ?_)
              repeat (first | refine JL.q (by first|(apply OQ.om (b:=1);rfl;rfl;exact (by omega);exact (by omega))|(apply OQ.assign;rfl)) rfl ?_ | refine JL.nil ?_)
              refine JE.again (i:=n) (n+1) (by omega) (by omega) ?_ ?_
              · rw [show (254 - ((n+1 : Nat) : Int))=(i : Int) - 1 by omega]
                exact (by repeat (first | exact ai.nil | refine ai.cons _ _ _ rfl ?_))
              · rw [eN,← hbit,h]
                repeat (first | exact an.refl _ | refine an.drop _ _ _ ?_)
            · repeat (first | refine JL.q (by (apply OQ.move;rfl)) rfl ?_ | refine JC.region ?_ | refine JC.skip ?_ | refine JE.next ?_ | refine JE.aq ?_)
              repeat (first | refine JL.q (by first|(apply OQ.om (b:=1);rfl;rfl;exact (by omega);exact (by omega))|(apply OQ.assign;rfl)) rfl ?_ | refine JL.nil ?_)
              refine JE.again (i:=n) (n+1) (by omega) (by omega) ?_ ?_
              · rw [show (254 - ((n+1 : Nat) : Int))=(i : Int) - 1 by omega]
                exact (by repeat (first | exact ai.nil | refine ai.cons _ _ _ rfl ?_))
              · rw [eN,← hbit,h]
                repeat (first | exact an.refl _ | refine an.drop _ _ _ ?_)
      · have hn' : ¬ (0 : Int)≤254 - n:=of_decide_eq_false h
        obtain rfl : n=255:=by omega
        clear h hn hn'
        generalize jx x1 (le K) 255=s at ok eM ⊢
        obtain ⟨X2,Z2,X3,Z3⟩:=s
        have gX2 : Good X2:=ok.x2
        have gZ2 : Good Z2:=ok.z2
        dsimp only at eM ⊢
        have cV:=EE Z2 gZ2
        have gV:=jQ gZ2 255
        generalize fU Z2 255=V at cV gV eM
        have cW:=dD X2 V gX2 gV
        have gW:=aI gX2 gV
        generalize mulL X2 V=W at cW gW eM
        have cY:=zR W gW
        rw [eM] at cY
        have hly : ((aH k u).map U8).length=32:=by rw [List.length_map];exact iS _
        generalize aH k u=Y at cY hly ⊢
        repeat (first | refine JC.seq ?_ | refine JC.exit ?_ | refine JE.next ?_ | refine JE.ax ?_ | refine JE.aA ?_)
        refine JC.tail 5 eP (by kernel_rfl) ?_
        simp only [List.take_succ_cons,List.take_zero,List.drop_succ_cons,List.drop_zero]
        repeat (first | refine JQ.q (by first|(apply OQ.af (cs:=X2.map I);exact cu;exact bg;rfl;exact (by repeat (first | exact Has.here | apply Has.there));exact (by rw [List.length_map];exact gX2.len);exact Row.all)|(apply OQ.af (cs:=Z2.map I);exact cu;exact bg;rfl;exact (by repeat (first | exact Has.here | apply Has.there));exact (by rw [List.length_map];exact gZ2.len);exact Row.all)|(apply OQ.au (vs:=[.agg (Z2.map I).toArray]);exact Cq;rfl;exact (fun w' _=>cV w'))|(apply OQ.au (vs:=[.agg (X2.map I).toArray,.agg (V.map I).toArray]);exact cI;rfl;exact (fun w' _=>cW w'))|(apply OQ.au (vs:=[.agg (W.map I).toArray]);exact xM;rfl;exact (fun w' _=>cY w'))) rfl ?_ | refine JQ.bC ?_)
        refine JL.ag (cs:=Y.map U8) aB rfl rfl hly (aU _) (by repeat (first | exact e9.here | apply e9.there)) (by simp) ?_
        repeat (first | refine JL.nil ?_ | refine JE.next ?_)
        refine JC.ret (JE.aR rfl (RV.av aQ aB rfl (by repeat (first | exact Has.here | apply Has.there)) hly Row.all) ?_)
        exact fun w' hw=>⟨rfl,hw.aM⟩
end
section
namespace dW
abbrev dS:=BitVec 64
structure N5 where
  a0 : dS
  a1 : dS
  a2 : dS
  a3 : dS
  a4 : dS
@[reducible] def N5.l (n : N5) : List dS:=[n.a0,n.a1,n.a2,n.a3,n.a4]
def iY (n : N5) : Nat:=n.a0.toNat+2251799813685248 * (n.a1.toNat+2251799813685248 * (n.a2.toNat+2251799813685248 * (n.a3.toNat+2251799813685248 * n.a4.toNat)))
structure dB (n : N5) : Prop where
  a0 : n.a0.toNat<2251799813947392
  a1 : n.a1.toNat<2251799813947392
  a2 : n.a2.toNat<2251799813947392
  a3 : n.a3.toNat<2251799813947392
  a4 : n.a4.toNat<2251799813947392
theorem Jx : P=57896044618658097711785492504343953926634992332820282019728792003956564819949:=rfl
def fn (x : Nat) : F:=fi (x : Int)
theorem iT (x y : Nat) : fn (x+y)=fn x+fn y:=by
  unfold fn
  rw [Int.natCast_add,vH]
theorem kG (x y : Nat) : fn (x * y)=fn x * fn y:=by
  unfold fn
  rw [Int.natCast_mul,Ey]
theorem vO {x y q : Nat} (h : x+q * P=y) : fn x=fn y:=by
  unfold fn
  refine (zM (q:=(q : Int)) ?_).symm
  rw [← h,Int.natCast_add,Int.natCast_mul]
theorem Lh {x : Nat} (h : x<P) : (fn x).val=x:=by
  have:=jw (x : Int)
  rw [Int.emod_eq_of_lt (by omega) (by omega)] at this
  unfold fn
  omega
def iF (n : N5) : F:=fn (iY n)
def rr : F:=2251799813685248
theorem NU : rr * rr * rr * rr * rr=19:=by decide +kernel
theorem Io : fn 2251799813685248=rr:=by decide +kernel
theorem Li : fn 19=19:=by decide +kernel
theorem ES (n : N5) : iF n=fn n.a0.toNat+rr * (fn n.a1.toNat+rr * (fn n.a2.toNat+rr * (fn n.a3.toNat+rr * fn n.a4.toNat))):=by
  unfold iF iY
  rw [iT,kG,iT,kG,iT,kG,iT,kG,Io]
theorem bP (x : dS) : (x &&& 2251799813685247#64).toNat=x.toNat % 2251799813685248:=by
  rw [BitVec.toNat_and,show (2251799813685247#64).toNat=2 ^ 51 - 1 from rfl,Nat.and_two_pow_sub_one_eq_mod]
theorem di (x : dS) (k : Nat) : (x >>> k).toNat=x.toNat / 2 ^ k:=by rw [BitVec.toNat_ushiftRight,Nat.shiftRight_eq_div_pow]
theorem fy (x : dS) : (x >>> 51).toNat=x.toNat / 2251799813685248:=di x 51
theorem toNat_add {x y : dS} (h : x.toNat+y.toNat<18446744073709551616) : (x+y).toNat=x.toNat+y.toNat:=by
  rw [BitVec.toNat_add]
  exact Nat.mod_eq_of_lt h
theorem fA {y : dS} (h : 19 * y.toNat<18446744073709551616) : (19#64 * y).toNat=19 * y.toNat:=by
  rw [BitVec.toNat_mul]
  exact Nat.mod_eq_of_lt h
def tv (n : N5) : N5:=
  ⟨(n.a0 &&& 2251799813685247#64)+19#64 * (n.a4 >>> 51),(n.a1 &&& 2251799813685247#64)+n.a0 >>> 51,(n.a2 &&& 2251799813685247#64)+n.a1 >>> 51,
   (n.a3 &&& 2251799813685247#64)+n.a2 >>> 51,(n.a4 &&& 2251799813685247#64)+n.a3 >>> 51⟩
structure MY (n m : N5) : Prop where
  a0 : m.a0.toNat=n.a0.toNat % 2251799813685248+19 * (n.a4.toNat / 2251799813685248)
  a1 : m.a1.toNat=n.a1.toNat % 2251799813685248+n.a0.toNat / 2251799813685248
  a2 : m.a2.toNat=n.a2.toNat % 2251799813685248+n.a1.toNat / 2251799813685248
  a3 : m.a3.toNat=n.a3.toNat % 2251799813685248+n.a2.toNat / 2251799813685248
  a4 : m.a4.toNat=n.a4.toNat % 2251799813685248+n.a3.toNat / 2251799813685248
theorem Bf (n : N5) : MY n (tv n):=by
  have h0:=n.a0.isLt
  have h1:=n.a1.isLt
  have h2:=n.a2.isLt
  have h3:=n.a3.isLt
  have h4:=n.a4.isLt
  have m0:=bP n.a0
  have m1:=bP n.a1
  have m2:=bP n.a2
  have m3:=bP n.a3
  have m4:=bP n.a4
  have s0:=fy n.a0
  have s1:=fy n.a1
  have s2:=fy n.a2
  have s3:=fy n.a3
  have s4:=fy n.a4
  have f:=fA (y:=n.a4 >>> 51) (by omega)
  exact ⟨(toNat_add (by omega)).trans (by omega),(toNat_add (by omega)).trans (by omega),(toNat_add (by omega)).trans (by omega),(toNat_add (by omega)).trans (by omega),(toNat_add (by omega)).trans (by omega)⟩
theorem pQ (n : N5) : dB (tv n):=by
  have c:=Bf n
  have h0:=n.a0.isLt
  have h1:=n.a1.isLt
  have h2:=n.a2.isLt
  have h3:=n.a3.isLt
  have h4:=n.a4.isLt
  exact ⟨by rw [c.a0];omega,by rw [c.a1];omega,by rw [c.a2];omega,by rw [c.a3];omega,by rw [c.a4];omega⟩
theorem ET (n : N5) : iY (tv n)+n.a4.toNat / 2251799813685248 * P=iY n:=by
  have c:=Bf n
  unfold iY
  rw [c.a0,c.a1,c.a2,c.a3,c.a4,Jx]
  omega
theorem vP (n : N5) : iF (tv n)=iF n:=vO (ET n)
def pR (a b : N5) : N5:=tv ⟨a.a0+b.a0,a.a1+b.a1,a.a2+b.a2,a.a3+b.a3,a.a4+b.a4⟩
def nW (a b : N5) : N5:=tv ⟨a.a0+4503599627370458#64 - b.a0,a.a1+4503599627370494#64 - b.a1,a.a2+4503599627370494#64 - b.a2,a.a3+4503599627370494#64 - b.a3,a.a4+4503599627370494#64 - b.a4⟩
theorem jS (a b : N5) : dB (pR a b):=pQ _
theorem iG (a b : N5) : dB (nW a b):=pQ _
theorem qM {a b : N5} (ha : dB a) (hb : dB b) : iF (pR a b)=iF a+iF b:=by
  obtain ⟨p0,p1,p2,p3,p4⟩:=ha
  obtain ⟨q0,q1,q2,q3,q4⟩:=hb
  have e0:=toNat_add (x:=a.a0) (y:=b.a0) (by omega)
  have e1:=toNat_add (x:=a.a1) (y:=b.a1) (by omega)
  have e2:=toNat_add (x:=a.a2) (y:=b.a2) (by omega)
  have e3:=toNat_add (x:=a.a3) (y:=b.a3) (by omega)
  have e4:=toNat_add (x:=a.a4) (y:=b.a4) (by omega)
  unfold pR
  rw [vP]
  unfold iF
  rw [← iT]
  congr 1
  unfold iY
  rw [e0,e1,e2,e3,e4]
  omega
theorem iU {x y : dS} {c : Nat} (h : x.toNat+c<18446744073709551616) (hy : y.toNat≤c) : (x+BitVec.ofNat 64 c - y).toNat+y.toNat=x.toNat+c:=by
  rw [BitVec.toNat_sub,BitVec.toNat_add,BitVec.toNat_ofNat]
  have:=y.isLt
  omega
theorem qN {a b : N5} (ha : dB a) (hb : dB b) : iF (nW a b)=iF a - iF b:=by
  obtain ⟨p0,p1,p2,p3,p4⟩:=ha
  obtain ⟨q0,q1,q2,q3,q4⟩:=hb
  have e0:=iU (x:=a.a0) (y:=b.a0) (c:=4503599627370458) (by omega) (by omega)
  have e1:=iU (x:=a.a1) (y:=b.a1) (c:=4503599627370494) (by omega) (by omega)
  have e2:=iU (x:=a.a2) (y:=b.a2) (c:=4503599627370494) (by omega) (by omega)
  have e3:=iU (x:=a.a3) (y:=b.a3) (c:=4503599627370494) (by omega) (by omega)
  have e4:=iU (x:=a.a4) (y:=b.a4) (c:=4503599627370494) (by omega) (by omega)
  unfold nW
  rw [vP]
  have k : fn (iY ⟨a.a0+4503599627370458#64 - b.a0,a.a1+4503599627370494#64 - b.a1,a.a2+4503599627370494#64 - b.a2,a.a3+4503599627370494#64 - b.a3,a.a4+4503599627370494#64 - b.a4⟩+iY b)=fn (iY a):=by
    refine (vO (q:=2) ?_).symm
    unfold iY
    simp only
    rw [Jx]
    omega
  rw [iT] at k
  unfold iF
  rw [← k]
  generalize fn (iY b)=y
  generalize fn (iY _)=x
  clear k
  grobner
structure W2 where
  hi : dS
  lo : dS
@[reducible] def W2.l (w : W2) : List dS:=[w.hi,w.lo]
def W2.v (w : W2) : Nat:=w.hi.toNat * 18446744073709551616+w.lo.toNat
def sr (a b : dS) : dS:=BitVec.ofNat 64 (a.toNat * b.toNat / 18446744073709551616)
def Ip (a b : dS) : dS:=BitVec.ofNat 64 ((a.toNat+b.toNat) / 18446744073709551616)
def yF (a b : dS) : W2:=⟨sr a b,a * b⟩
def kH (w : W2) (a b : dS) : W2:=⟨w.hi+sr a b+Ip w.lo (a * b),w.lo+a * b⟩
def qO (w : W2) : dS:=w.hi <<< 13 ||| w.lo >>> 51
theorem su (a b : dS) : (sr a b).toNat=a.toNat * b.toNat / 18446744073709551616:=by
  unfold sr
  rw [BitVec.toNat_ofNat]
  apply Nat.mod_eq_of_lt
  have h:=Nat.mul_lt_mul'' a.isLt b.isLt
  omega
theorem zV (a b : dS) : (Ip a b).toNat=(a.toNat+b.toNat) / 18446744073709551616:=by
  unfold Ip
  rw [BitVec.toNat_ofNat]
  have:=a.isLt
  have:=b.isLt
  omega
theorem Lj (a b : dS) : (yF a b).v=a.toNat * b.toNat:=by
  unfold yF W2.v
  simp only
  rw [su,BitVec.toNat_mul]
  omega
theorem Bg {w : W2} {a b : dS} (h : w.v+a.toNat * b.toNat<340282366920938463463374607431768211456) : (kH w a b).v=w.v+a.toNat * b.toNat:=by
  unfold kH W2.v at *
  simp only at *
  rw [BitVec.toNat_add,BitVec.toNat_add,BitVec.toNat_add,zV,su,BitVec.toNat_mul]
  generalize a.toNat * b.toNat=p at *
  have:=w.lo.isLt
  have:=w.hi.isLt
  omega
theorem pB (x y : dS) {k : Nat} (hk : k≤64) (hx : x.toNat<2 ^ k) : (y <<< k ||| x).toNat=y.toNat * 2 ^ k % 2 ^ 64+x.toNat:=by
  have e : (y.toNat * 2 ^ k % 2 ^ 64)=(y.toNat % 2 ^ (64 - k)) <<< k:=by
    rw [Nat.shiftLeft_eq,← Nat.mul_mod_mul_right,← Nat.pow_add,Nat.sub_add_cancel hk]
  rw [BitVec.toNat_or,BitVec.toNat_shiftLeft,Nat.shiftLeft_eq,e,← Nat.shiftLeft_add_eq_or_of_lt hx]
theorem sv {w : W2} (h : w.v<41538374868278621028243970633760768) : (qO w).toNat=w.v / 2251799813685248:=by
  unfold qO
  have hs:=fy w.lo
  have l:=w.lo.isLt
  rw [pB _ _ (k:=13) (by omega) (by omega),hs]
  unfold W2.v at *
  omega
def Ll (w0 w1 w2 w3 w4 : W2) : N5:=
  tv ⟨(w0.lo &&& 2251799813685247#64)+19#64 * qO w4,(w1.lo &&& 2251799813685247#64)+qO w0,(w2.lo &&& 2251799813685247#64)+qO w1,(w3.lo &&& 2251799813685247#64)+qO w2,(w4.lo &&& 2251799813685247#64)+qO w3⟩
def cO (a b : N5) : N5:=
  let f1:=19#64 * b.a1
  let f2:=19#64 * b.a2
  let f3:=19#64 * b.a3
  let f4:=19#64 * b.a4
  Ll (kH (kH (kH (kH (yF a.a0 b.a0) a.a1 f4) a.a2 f3) a.a3 f2) a.a4 f1)
    (kH (kH (kH (kH (yF a.a0 b.a1) a.a1 b.a0) a.a2 f4) a.a3 f3) a.a4 f2)
    (kH (kH (kH (kH (yF a.a0 b.a2) a.a1 b.a1) a.a2 b.a0) a.a3 f4) a.a4 f3)
    (kH (kH (kH (kH (yF a.a0 b.a3) a.a1 b.a2) a.a2 b.a1) a.a3 b.a0) a.a4 f4)
    (kH (kH (kH (kH (yF a.a0 b.a4) a.a1 b.a3) a.a2 b.a2) a.a3 b.a1) a.a4 b.a0)
theorem bQ (a b : N5) : dB (cO a b):=pQ _
theorem Jy {w0 w1 w2 w3 w4 : W2} (h0 : w0.v<5192296858534827628530496329220096) (h1 : w1.v<5192296858534827628530496329220096) (h2 : w2.v<5192296858534827628530496329220096) (h3 : w3.v<5192296858534827628530496329220096) (h4 : w4.v<324518553658426726783156020576256) :
    iF (Ll w0 w1 w2 w3 w4)=fn w0.v+rr * (fn w1.v+rr * (fn w2.v+rr * (fn w3.v+rr * fn w4.v))):=by
  have r0:=sv (w:=w0) (by omega)
  have r1:=sv (w:=w1) (by omega)
  have r2:=sv (w:=w2) (by omega)
  have r3:=sv (w:=w3) (by omega)
  have r4:=sv (w:=w4) (by omega)
  have lo : ∀ w : W2,w.lo.toNat % 2251799813685248=w.v % 2251799813685248:=fun w=>by
    unfold W2.v
    omega
  have m0:=(bP w0.lo).trans (lo w0)
  have m1:=(bP w1.lo).trans (lo w1)
  have m2:=(bP w2.lo).trans (lo w2)
  have m3:=(bP w3.lo).trans (lo w3)
  have m4:=(bP w4.lo).trans (lo w4)
  clear lo
  have f:=fA (y:=qO w4) (by omega)
  have e0:=toNat_add (x:=w0.lo &&& 2251799813685247#64) (y:=19#64 * qO w4) (by omega)
  have e1:=toNat_add (x:=w1.lo &&& 2251799813685247#64) (y:=qO w0) (by omega)
  have e2:=toNat_add (x:=w2.lo &&& 2251799813685247#64) (y:=qO w1) (by omega)
  have e3:=toNat_add (x:=w3.lo &&& 2251799813685247#64) (y:=qO w2) (by omega)
  have e4:=toNat_add (x:=w4.lo &&& 2251799813685247#64) (y:=qO w3) (by omega)
  unfold Ll
  rw [vP,← Io,← kG,← iT,← kG,← iT,← kG,← iT,← kG,← iT]
  refine vO (q:=w4.v / 2251799813685248) ?_
  unfold iY
  simp only
  rw [e0,e1,e2,e3,e4,f,m0,m1,m2,m3,m4,r0,r1,r2,r3,r4,Jx]
  clear e0 e1 e2 e3 e4 f m0 m1 m2 m3 m4 r0 r1 r2 r3 r4
  generalize w0.v=v0 at *
  generalize w1.v=v1 at *
  generalize w2.v=v2 at *
  generalize w3.v=v3 at *
  generalize w4.v=v4 at *
  omega
theorem Lm {x y : Nat} {c d : Nat} (hx : x<c) (hy : y<d) : x * y≤c * d:=Nat.mul_le_mul (Nat.le_of_lt hx) (Nat.le_of_lt hy)
theorem EU {a0 a1 a2 a3 a4 b0 b1 b2 b3 b4 : dS} (h0 : a0.toNat<2251799813947392) (h1 : a1.toNat<2251799813947392) (h2 : a2.toNat<2251799813947392) (h3 : a3.toNat<2251799813947392) (h4 : a4.toNat<2251799813947392)
    {d : Nat} (hd : d≤42784196465000448) (k0 : b0.toNat<d) (k1 : b1.toNat<d) (k2 : b2.toNat<d) (k3 : b3.toNat<d) (k4 : b4.toNat<d) :
    (kH (kH (kH (kH (yF a0 b0) a1 b1) a2 b2) a3 b3) a4 b4).v=a0.toNat * b0.toNat+a1.toNat * b1.toNat+a2.toNat * b2.toNat+a3.toNat * b3.toNat+a4.toNat * b4.toNat∧
    (kH (kH (kH (kH (yF a0 b0) a1 b1) a2 b2) a3 b3) a4 b4).v≤11258999069736960 * d:=by
  have p0:=Lm h0 k0
  have p1:=Lm h1 k1
  have p2:=Lm h2 k2
  have p3:=Lm h3 k3
  have p4:=Lm h4 k4
  have e0:=Lj a0 b0
  have e1:=Bg (w:=yF a0 b0) (a:=a1) (b:=b1) (by rw [e0];omega)
  rw [e0] at e1
  have e2:=Bg (w:=kH (yF a0 b0) a1 b1) (a:=a2) (b:=b2) (by rw [e1];omega)
  rw [e1] at e2
  have e3:=Bg (w:=kH (kH (yF a0 b0) a1 b1) a2 b2) (a:=a3) (b:=b3) (by rw [e2];omega)
  rw [e2] at e3
  have e4:=Bg (w:=kH (kH (kH (yF a0 b0) a1 b1) a2 b2) a3 b3) (a:=a4) (b:=b4) (by rw [e3];omega)
  rw [e3] at e4
  refine ⟨e4,?_⟩
  rw [e4]
  omega
theorem fO {a b : N5} (ha : dB a) (hb : dB b) : iF (cO a b)=iF a * iF b:=by
  obtain ⟨p0,p1,p2,p3,p4⟩:=ha
  obtain ⟨q0,q1,q2,q3,q4⟩:=hb
  have f1:=fA (y:=b.a1) (by omega)
  have f2:=fA (y:=b.a2) (by omega)
  have f3:=fA (y:=b.a3) (by omega)
  have f4:=fA (y:=b.a4) (by omega)
  have v0:=EU p0 p1 p2 p3 p4 (b0:=b.a0) (b1:=19#64 * b.a4) (b2:=19#64 * b.a3) (b3:=19#64 * b.a2) (b4:=19#64 * b.a1) (d:=42784196465000448) (by omega) (by omega) (by omega) (by omega) (by omega) (by omega)
  have v1:=EU p0 p1 p2 p3 p4 (b0:=b.a1) (b1:=b.a0) (b2:=19#64 * b.a4) (b3:=19#64 * b.a3) (b4:=19#64 * b.a2) (d:=42784196465000448) (by omega) (by omega) (by omega) (by omega) (by omega) (by omega)
  have v2:=EU p0 p1 p2 p3 p4 (b0:=b.a2) (b1:=b.a1) (b2:=b.a0) (b3:=19#64 * b.a4) (b4:=19#64 * b.a3) (d:=42784196465000448) (by omega) (by omega) (by omega) (by omega) (by omega) (by omega)
  have v3:=EU p0 p1 p2 p3 p4 (b0:=b.a3) (b1:=b.a2) (b2:=b.a1) (b3:=b.a0) (b4:=19#64 * b.a4) (d:=42784196465000448) (by omega) (by omega) (by omega) (by omega) (by omega) (by omega)
  have v4:=EU p0 p1 p2 p3 p4 (b0:=b.a4) (b1:=b.a3) (b2:=b.a2) (b3:=b.a1) (b4:=b.a0) (d:=2251799813947392) (by omega) q4 q3 q2 q1 q0
  unfold cO
  simp only
  rw [Jy (by have:=v0.2;omega) (by have:=v1.2;omega) (by have:=v2.2;omega) (by have:=v3.2;omega) (by have:=v4.2;omega),v0.1,v1.1,v2.1,v3.1,v4.1,f1,f2,f3,f4,ES,ES]
  simp only [iT,kG,Li]
  have h:=NU
  generalize rr=r at *
  generalize fn a.a0.toNat=x0
  generalize fn a.a1.toNat=x1
  generalize fn a.a2.toNat=x2
  generalize fn a.a3.toNat=x3
  generalize fn a.a4.toNat=x4
  generalize fn b.a0.toNat=y0
  generalize fn b.a1.toNat=y1
  generalize fn b.a2.toNat=y2
  generalize fn b.a3.toNat=y3
  generalize fn b.a4.toNat=y4
  clear v0 v1 v2 v3 v4 f1 f2 f3 f4 p0 p1 p2 p3 p4 q0 q1 q2 q3 q4
  grobner
end dW
end
section
namespace dW
def mZ (n : N5) : Nat→N5
  | 0=>n
  | k+1=>cO (mZ n k) (mZ n k)
theorem Ln {n : N5} (h : dB n) : ∀ k,dB (mZ n k)
  | 0=>h
  | _+1=>bQ _ _
structure Pow (x : F) (n : N5) (e : Nat) : Prop where
  zP : dB n
  fv : iF n=pw x e
theorem Pow.mul {x : F} {a b : N5} {d e : Nat} (ha : Pow x a d) (hb : Pow x b e) : Pow x (cO a b) (d+e):=
  ⟨bQ _ _,by rw [fO ha.zP hb.zP,ha.fv,hb.fv,pJ]⟩
theorem Pow.sq {x : F} {a : N5} {d : Nat} (ha : Pow x a d) : ∀ k,Pow x (mZ a k) (d * 2 ^ k)
  | 0=>by rw [Nat.pow_zero,Nat.mul_one];exact ha
  | k+1=>by
    have:=(ha.sq k).mul (ha.sq k)
    rw [show d * 2 ^ (k+1)=d * 2 ^ k+d * 2 ^ k by rw [Nat.pow_succ,← Nat.mul_assoc];omega]
    exact this
theorem Pow.to {x : F} {a : N5} {d e : Nat} (h : Pow x a d) (he : Nat.beq d e=true) : Pow x a e:=Nat.eq_of_beq_eq_true he ▸ h
structure MZ where
  two : N5
  nine : N5
  nY : N5
  o5 : N5
  jT : N5
  nB : N5
  sw : N5
  lR : N5
  ia : N5
  lS : N5
  oN : N5
  all : N5
def M1 (n : N5) : MZ:=
  let two:=mZ n 1
  let nine:=cO (mZ two 2) n
  let nY:=cO nine two
  let o5:=cO (mZ nY 1) nine
  let jT:=cO (mZ o5 5) o5
  let nB:=cO (mZ jT 10) jT
  let sw:=cO (mZ nB 20) nB
  let lR:=cO (mZ sw 10) jT
  let ia:=cO (mZ lR 50) lR
  let lS:=cO (mZ ia 100) ia
  let oN:=cO (mZ lS 50) lR
  ⟨two,nine,nY,o5,jT,nB,sw,lR,ia,lS,oN,cO (mZ oN 5) nY⟩
def sx (n : N5) : N5:=(M1 n).all
theorem xN {n : N5} (h : dB n) : Pow (iF n) (sx n) (P - 2):=by
  have h1 : Pow (iF n) n 1:=⟨h,by show iF n=1 * iF n;grobner⟩
  have two:=h1.sq 1
  have nine:=(two.sq 2).mul h1
  have nY:=nine.mul two
  have o5:=(nY.sq 1).mul nine
  have jT:=(o5.sq 5).mul o5
  have nB:=(jT.sq 10).mul jT
  have sw:=(nB.sq 20).mul nB
  have lR:=(sw.sq 10).mul jT
  have ia:=(lR.sq 50).mul lR
  have lS:=(ia.sq 100).mul ia
  have oN:=(lS.sq 50).mul lR
  have all:=(oN.sq 5).mul nY
  have r:=all.to (e:=P - 2) (by decide +kernel)
  exact r
theorem GR {n : N5} (h : dB n) : iF (sx n)=inv (iF n):=(xN h).fv
theorem Cv {n : N5} (h : dB n) : dB (sx n):=(xN h).zP
end dW
end
end Go.Proofs.YtgkninhgcpbfnaaGreatDoor
