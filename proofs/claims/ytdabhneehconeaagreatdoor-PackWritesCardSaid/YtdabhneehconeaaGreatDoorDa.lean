/-
  Of no statement by itself: the texts FieS, MimS, MimT, LetS, TokS, TokF, TokG, TokH, TokJ, TokK, FieT, ArmS, MimP, MimD, PckA, PckB, Sl, Slb, Slc, Slw, Slx, Sly, Slz in one.
  Conditions: each theorem's own.
-/
import Derived.Deep.Quiet
import Derived.StillTail
import Derived.Below
import Derived.KernelRfl
import Derived.Tactics2
import Derived.Laws.Cells
import Derived.Laws.CopyRow
import Derived.Laws.Rows
import Derived.Laws.AppendOwn
set_option linter.unusedSimpArgs false
set_option linter.unusedVariables false
namespace Go.Proofs.YtdabhneehconeaaGreatDoor.YY
section
set_option linter.defProp false
structure YW(B:Prop):Prop where x:B
variable {A B : Prop} (k : B)
def Y0(h:YW B->A:=by intro ω;(first|refine JL.q (by first|(apply OQ.move;rfl)|(apply OQ.assign;rfl)) rfl ?_|refine JC.seq ?_|refine JC.region ?_|refine JL.nil ?_|refine JE.next ?_);exact ω.1):A:=h ⟨k⟩
def Y1(h:YW B->A:=by intro ω;(first|refine JL.q (by first|(apply OQ.bM;exact Tryz.underlying9;rfl)|(apply OQ.av;rfl;rfl)|(apply OQ.move;rfl)|(apply OQ.assign;rfl)) rfl ?_|refine JC.seq ?_|refine JC.region ?_|refine JC.block ?_|refine JL.nil ?_|refine JE.next ?_);exact ω.1):A:=h ⟨k⟩
def Y2(h:YW B->A:=by intro ω;(repeat(first|refine JE.ag ?_|refine JE.aQ ?_));exact ω.1):A:=h ⟨k⟩
def Y3(h:YW B->A:=by intro ω;(repeat(first|refine JL.q (by(apply OQ.assign;rfl)) rfl ?_|refine JC.seq ?_|refine JC.region ?_|refine JL.nil ?_|refine JE.next ?_));exact ω.1):A:=h ⟨k⟩
def Y4(h:YW B->A:=by intro ω;(repeat(first|refine JL.q (by(apply OQ.MN;rfl;rfl)) rfl ?_|refine JL.nil ?_|refine JE.next ?_));exact ω.1):A:=h ⟨k⟩
def Y5(h:YW B->A:=by intro ω;(repeat(first|refine JL.q (by first|(apply OQ.move;rfl)|(apply OQ.assign;rfl)) rfl ?_|refine JC.seq ?_|refine JC.region ?_|refine JC.skip ?_|refine JL.nil ?_|refine JE.next ?_));exact ω.1):A:=h ⟨k⟩
def Y6(h:YW B->A:=by intro ω;(first|refine JL.q (by first|(apply OQ.extract;rfl;rfl)|(apply OQ.move;rfl)|(apply OQ.assign;rfl)) rfl ?_|refine JC.seq ?_|refine JC.region ?_|refine JL.nil ?_|refine JE.next ?_);exact ω.1):A:=h ⟨k⟩
def Y7(h:YW B->A:=by intro ω;(repeat(first|refine JL.q (by(apply OQ.assign;rfl)) rfl ?_|refine JC.seq ?_|refine JC.region ?_|refine JC.block ?_|refine JL.nil ?_|refine JE.next ?_));exact ω.1):A:=h ⟨k⟩
def Y8(h:YW B->A:=by intro ω;(repeat(first|refine JL.q (by first|(apply OQ.bM;exact Tryz.underlying9;rfl)|(apply OQ.move;rfl)|(apply OQ.dR;rfl;rfl)) rfl ?_|refine JC.seq ?_|refine JC.region ?_|refine JL.nil ?_|refine JE.next ?_));exact ω.1):A:=h ⟨k⟩
def Y9(h:YW B->A:=by intro ω;(first|refine JL.q (by(apply OQ.move;rfl)) rfl ?_|refine JC.seq ?_|refine JC.region ?_|refine JC.block ?_|refine JC.skip ?_|refine JL.nil ?_|refine JE.next ?_);exact ω.1):A:=h ⟨k⟩
def Y10(h:YW B->A:=by intro ω;(repeat(first|refine JL.q (by first|(apply OQ.move;rfl)|(apply OQ.assign;rfl)|(apply OQ.aY;rfl;rfl;exact(by(try simp only[]);omega))) rfl ?_|refine JC.region ?_|refine JC.skip ?_|refine JL.nil ?_|refine JE.next ?_|refine JE.ah ?_));exact ω.1):A:=h ⟨k⟩
def Y11(h:YW B->A:=by intro ω;(repeat(first|refine JL.q (by(apply OQ.assign;rfl)) rfl ?_|refine JC.seq ?_|refine JC.region ?_|refine JC.exit ?_|refine JL.nil ?_|refine JE.next ?_|refine JE.ak ?_|refine JE.aC ?_));exact ω.1):A:=h ⟨k⟩
def Y12(h:YW B->A:=by intro ω;(first|refine JL.q (by first|(apply OQ.az;rfl;rfl)|(apply OQ.av;rfl;rfl)|(apply OQ.move;rfl)|(apply OQ.assign;rfl)) rfl ?_|refine JC.seq ?_|refine JC.region ?_|refine JL.nil ?_|refine JE.next ?_);exact ω.1):A:=h ⟨k⟩
def Y13(h:YW B->A:=by intro ω;(first|refine JL.q (by first|(apply OQ.not;rfl)|(apply OQ.move;rfl)) rfl ?_|refine JC.seq ?_|refine JC.region ?_|refine JC.block ?_|refine JC.skip ?_|refine JL.nil ?_|refine JE.next ?_);exact ω.1):A:=h ⟨k⟩
def Y14(h:YW B->A:=by intro ω;(first|refine JL.q (by first|(apply OQ.bM;exact Tryz.underlying9;rfl)|(apply OQ.move;rfl)|(apply OQ.assign;rfl)) rfl ?_|refine JC.seq ?_|refine JC.region ?_|refine JC.exit ?_|refine JL.nil ?_|refine JE.next ?_|refine JE.ak ?_|refine JE.aC ?_);exact ω.1):A:=h ⟨k⟩
def Y15(h:YW B->A:=by intro ω;(first|refine JL.q (by first|(apply OQ.az;rfl;rfl)|(apply OQ.av;rfl;rfl)|(apply OQ.move;rfl)) rfl ?_|refine JC.seq ?_|refine JC.region ?_|refine JC.block ?_|refine JC.skip ?_|refine JL.nil ?_|refine JE.next ?_);exact ω.1):A:=h ⟨k⟩
def Y16(h:YW B->A:=by intro ω;(first|refine JL.q (by first|(apply OQ.az;rfl;rfl)|(apply OQ.av;rfl;rfl)|(apply OQ.move;rfl)|(apply OQ.assign;rfl)) rfl ?_|refine JC.seq ?_|refine JC.region ?_|refine JC.block ?_|refine JC.skip ?_|refine JL.nil ?_|refine JE.next ?_);exact ω.1):A:=h ⟨k⟩
def Y17(h:YW B->A:=by intro ω;(repeat(first|refine JL.q (by(apply OQ.move;rfl)) rfl ?_|refine JC.region ?_));exact ω.1):A:=h ⟨k⟩
def Y18(h:YW B->A:=by intro ω;(repeat(first|refine JL.q (by first|(apply OQ.move;rfl)|(apply OQ.assign;rfl)|(apply OQ.aY;rfl;rfl;exact(by(try simp only[]);omega))) rfl ?_|refine JC.region ?_|refine JL.nil ?_|refine JE.next ?_|refine JE.ah ?_));exact ω.1):A:=h ⟨k⟩
def Y19(h:YW B->A:=by intro ω;(first|refine JL.q (by first|(apply OQ.move;rfl)|(apply OQ.assign;rfl)) rfl ?_|refine JC.seq ?_|refine JC.region ?_|refine JC.exit ?_|refine JL.nil ?_|refine JE.next ?_|refine JE.ak ?_|refine JE.aC ?_);exact ω.1):A:=h ⟨k⟩
def Y20(h:YW B->A:=by intro ω;(first|refine JL.q (by(apply OQ.assign;rfl)) rfl ?_|refine JC.seq ?_|refine JC.region ?_|refine JL.nil ?_|refine JE.next ?_);exact ω.1):A:=h ⟨k⟩
def Y21(h:YW B->A:=by intro ω;(repeat(first|refine JL.q (by first|(apply OQ.bM;exact Tryz.underlying9;rfl)|(apply OQ.move;rfl)|(apply OQ.assign;rfl)) rfl ?_|refine JC.seq ?_|refine JC.region ?_|refine JC.block ?_|refine JL.nil ?_|refine JE.next ?_));exact ω.1):A:=h ⟨k⟩
def Y22(h:YW B->A:=by intro ω;(repeat(first|refine JL.q (by(apply OQ.dR;rfl;rfl)) rfl ?_|refine JC.seq ?_|refine JC.region ?_|refine JL.nil ?_|refine JE.next ?_));exact ω.1):A:=h ⟨k⟩
def Y23(h:YW B->A:=by intro ω;(repeat(first|refine JL.q (by first|(apply i0;rfl;rfl)|(apply OQ.uT;exact hF;rfl;rfl;exact h1)|(apply OQ.not;rfl)|(apply OQ.move;rfl)|(apply OQ.assign;rfl)) rfl ?_|refine JC.seq ?_|refine JC.region ?_|refine JC.block ?_|refine JC.skip ?_|refine JL.nil ?_|refine JE.next ?_));exact ω.1):A:=h ⟨k⟩
def Y24(h:YW B->A:=by intro ω;(repeat(first|refine JL.q (by first|(apply OQ.move;rfl)|(apply OQ.assign;rfl)) rfl ?_|refine JC.seq ?_|refine JC.region ?_|refine JL.nil ?_|refine JE.next ?_));exact ω.1):A:=h ⟨k⟩
def Y25(h:YW B->A:=by intro ω;(repeat(first|refine JL.q (by first|(apply OQ.move;rfl)|(apply OQ.aY;rfl;rfl;exact(by(try simp only[]);omega))) rfl ?_|refine JC.region ?_|refine JC.skip ?_|refine JL.nil ?_|refine JE.next ?_|refine JE.ah ?_));exact ω.1):A:=h ⟨k⟩
def Y26(h:YW B->A:=by intro ω;(first|refine JL.q (by first|(apply OQ.bM;exact Tryz.underlying9;rfl)|(apply OQ.az;rfl;rfl)|(apply OQ.av;rfl;rfl)|(apply OQ.move;rfl)|(apply OQ.assign;rfl)) rfl ?_|refine JC.seq ?_|refine JC.region ?_|refine JL.nil ?_|refine JE.next ?_);exact ω.1):A:=h ⟨k⟩
def Y27(h:YW B->A:=by intro ω;(first|refine JL.q (by(apply OQ.assign;rfl)) rfl ?_|refine JL.nil ?_|refine JE.next ?_);exact ω.1):A:=h ⟨k⟩
def Y28(h:YW B->A:=by intro ω;(repeat(first|refine JL.q (by first|(apply i0;rfl;rfl)|(apply OQ.gj (b:=40);rfl;rfl;exact h40)|(apply OQ.move;rfl)|(apply OQ.assign;rfl)) rfl ?_|refine JC.seq ?_|refine JC.region ?_|refine JC.block ?_|refine JC.skip ?_|refine JL.nil ?_|refine JE.next ?_));exact ω.1):A:=h ⟨k⟩
def Y29(h:YW B->A:=by intro ω;(repeat(first|refine JL.q (by first|(apply OQ.gj (b:=41);rfl;rfl;exact h41)|(apply OQ.assign;rfl)) rfl ?_|refine JC.seq ?_|refine JC.region ?_|refine JL.nil ?_|refine JE.next ?_));exact ω.1):A:=h ⟨k⟩
def Y30(h:YW B->A:=by intro ω;(repeat(first|refine JL.q (by first|(apply OQ.move;rfl)|(apply OQ.assign;rfl)|(apply OQ.aY;rfl;rfl;exact(by(try simp only[]);omega))|(apply OQ.uH;rfl;rfl)) rfl ?_|refine JC.seq ?_|refine JC.region ?_|refine JC.skip ?_|refine JL.nil ?_|refine JE.next ?_|refine JE.ah ?_));exact ω.1):A:=h ⟨k⟩
def Y31(h:YW B->A:=by intro ω;(repeat(first|refine JL.q (by first|(apply OQ.move;rfl)|(apply OQ.uH;rfl;rfl)) rfl ?_|refine JC.seq ?_|refine JC.region ?_|refine JL.nil ?_|refine JE.next ?_));exact ω.1):A:=h ⟨k⟩
def Y32(h:YW B->A:=by intro ω;(repeat(first|refine JL.q (by first|(apply i0;rfl;rfl)|(apply OQ.gj (b:=92);rfl;rfl;exact h92)|(apply OQ.move;rfl)|(apply OQ.assign;rfl)) rfl ?_|refine JC.seq ?_|refine JC.region ?_|refine JC.block ?_|refine JC.skip ?_|refine JL.nil ?_|refine JE.next ?_));exact ω.1):A:=h ⟨k⟩
def Y33(h:YW B->A:=by intro ω;(repeat(first|refine JL.q (by first|(apply OQ.gj (b:=34);rfl;rfl;exact h34)|(apply OQ.assign;rfl)) rfl ?_|refine JC.seq ?_|refine JC.region ?_|refine JL.nil ?_|refine JE.next ?_));exact ω.1):A:=h ⟨k⟩
def Y34(h:YW B->A:=by intro ω;(first|refine JL.q (by first|(apply OQ.move;rfl)|(apply OQ.assign;rfl)|(apply OQ.aY;rfl;rfl;exact(by(try simp only[]);omega))) rfl ?_|refine JC.seq ?_|refine JC.region ?_|refine JL.nil ?_|refine JE.next ?_);exact ω.1):A:=h ⟨k⟩
def Y35(h:YW B->A:=by intro ω;(repeat(first|refine JL.q (by first|(apply OQ.bM;exact Tryz.underlying9;rfl)|(apply OQ.move;rfl)|(apply OQ.assign;rfl)) rfl ?_|refine JC.seq ?_|refine JC.region ?_|refine JL.nil ?_|refine JE.next ?_));exact ω.1):A:=h ⟨k⟩
def Y36(h:YW B->A:=by intro ω;(first|refine JL.q (by(apply OQ.move;rfl)) rfl ?_|refine JC.seq ?_|refine JC.region ?_|refine JL.nil ?_|refine JE.next ?_);exact ω.1):A:=h ⟨k⟩
def Y37(h:YW B->A:=by intro ω;(repeat(first|refine JC.skip ?_|refine JE.next ?_|refine JE.ah ?_));exact ω.1):A:=h ⟨k⟩
def Y38(h:YW B->A:=by intro ω;(repeat(first|refine JC.seq ?_|refine JC.skip ?_|refine JE.next ?_));exact ω.1):A:=h ⟨k⟩
def Y39(h:YW B->A:=by intro ω;(repeat(first|refine JL.q (by(apply OQ.assign;rfl)) rfl ?_|refine JL.nil ?_|refine JE.next ?_));exact ω.1):A:=h ⟨k⟩
def Y40(h:YW B->A:=by intro ω;(first|refine JL.q (by first|(apply OQ.bM;exact Tryz.underlying9;rfl)|(apply OQ.av;rfl;rfl)|(apply OQ.move;rfl)|(apply OQ.assign;rfl)) rfl ?_|refine JC.seq ?_|refine JC.region ?_|refine JL.nil ?_|refine JE.next ?_);exact ω.1):A:=h ⟨k⟩
def Y41(h:YW B->A:=by intro ω;(first|refine JL.q (by first|(apply OQ.bM;exact Tryz.underlying9;rfl)|(apply OQ.az;rfl;rfl)|(apply OQ.move;rfl)|(apply OQ.assign;rfl)) rfl ?_|refine JC.seq ?_|refine JC.region ?_|refine JL.nil ?_|refine JE.next ?_);exact ω.1):A:=h ⟨k⟩
def Y42(h:YW B->A:=by intro ω;(first|refine JL.q (by first|(apply OQ.not;rfl)|(apply OQ.move;rfl)|(apply OQ.assign;rfl)) rfl ?_|refine JC.seq ?_|refine JC.region ?_|refine JL.nil ?_|refine JE.next ?_);exact ω.1):A:=h ⟨k⟩
def Y43(h:YW B->A:=by intro ω;(first|refine JL.q (by first|(apply OQ.bM;exact Tryz.underlying9;rfl)|(apply OQ.move;rfl)|(apply OQ.assign;rfl)) rfl ?_|refine JC.seq ?_|refine JC.region ?_|refine JC.skip ?_|refine JL.nil ?_|refine JE.next ?_);exact ω.1):A:=h ⟨k⟩
def Y44(h:YW B->A:=by intro ω;(repeat(first|refine JL.q (by first|(apply OQ.dn (b:=0);rfl;rfl;exact g)|(apply OQ.move;rfl)) rfl ?_|refine JC.seq ?_|refine JC.region ?_|refine JL.nil ?_|refine JE.next ?_));exact ω.1):A:=h ⟨k⟩
def Y45(h:YW B->A:=by intro ω;(first|refine JL.q (by first|(apply OQ.move;rfl)|(apply OQ.assign;rfl)) rfl ?_|refine JC.region ?_|refine JC.skip ?_|refine JL.nil ?_|refine JE.next ?_|refine JE.ah ?_);exact ω.1):A:=h ⟨k⟩
def Y46(h:YW B->A:=by intro ω;(repeat(first|refine JC.exit ?_|refine JE.ak ?_|refine JE.aC ?_));exact ω.1):A:=h ⟨k⟩
def Y47(h:YW B->A:=by intro ω;(first|refine JL.q (by first|(apply OQ.move;rfl)|(apply OQ.assign;rfl)) rfl ?_|refine JC.region ?_|refine JC.block ?_|refine JC.skip ?_|refine JL.nil ?_|refine JE.next ?_|refine JE.ah ?_);exact ω.1):A:=h ⟨k⟩
def Y48(h:YW B->A:=by intro ω;(first|refine JL.q (by first|(apply OQ.bM;exact Tryz.underlying9;rfl)|(apply OQ.av;rfl;rfl)|(apply OQ.move;rfl)) rfl ?_|refine JC.seq ?_|refine JC.region ?_|refine JL.nil ?_|refine JE.next ?_);exact ω.1):A:=h ⟨k⟩
def Y49(h:YW B->A:=by intro ω;(repeat(first|refine JC.seq ?_|refine JC.block ?_));exact ω.1):A:=h ⟨k⟩
def Y50(h:YW B->A:=by intro ω;(first|refine JL.q (by first|(apply OQ.bM;exact Tryz.underlying9;rfl)|(apply OQ.az;rfl;rfl)|(apply OQ.move;rfl)) rfl ?_|refine JC.seq ?_|refine JC.region ?_|refine JL.nil ?_|refine JE.next ?_);exact ω.1):A:=h ⟨k⟩
def Y51(h:YW B->A:=by intro ω;(repeat(first|refine JL.q (by first|(apply OQ.move;rfl)|(apply OQ.assign;rfl)|(apply OQ.aY;rfl;rfl;exact(by(try simp only[]);omega))) rfl ?_|refine JC.region ?_|refine JC.block ?_|refine JC.skip ?_|refine JL.nil ?_|refine JE.next ?_|refine JE.ah ?_));exact ω.1):A:=h ⟨k⟩
def Y52(h:YW B->A:=by intro ω;(first|refine JL.q (by first|(apply OQ.not;rfl)|(apply OQ.move;rfl)|(apply OQ.assign;rfl)) rfl ?_|refine JC.seq ?_|refine JC.region ?_|refine JC.block ?_|refine JC.skip ?_|refine JL.nil ?_|refine JE.next ?_);exact ω.1):A:=h ⟨k⟩
def Y53(h:YW B->A:=by intro ω;(repeat(first|refine JL.q (by first|(apply OQ.ai (vs:=[Z s]);exact iX;rfl;exact(fun w' _=>cB w'))|(apply OQ.extract;rfl;rfl)|(apply OQ.fh (b:=0);rfl;rfl;exact hk)|(apply OQ.move;rfl)|(apply OQ.assign;rfl)) rfl ?_|refine JC.seq ?_|refine JC.region ?_|refine JL.nil ?_|refine JE.next ?_));exact ω.1):A:=h ⟨k⟩
def Y54(h:YW B->A:=by intro ω;(first|refine JL.q (by first|(apply OQ.extract;rfl;rfl)|(apply OQ.move;rfl)|(apply OQ.assign;rfl)) rfl ?_|refine JC.seq ?_|refine JC.region ?_|refine JC.skip ?_|refine JL.nil ?_|refine JE.next ?_);exact ω.1):A:=h ⟨k⟩
def Y55(h:YW B->A:=by intro ω;(first|refine JL.q (by first|(apply OQ.extract;rfl;rfl)|(apply OQ.not;rfl)|(apply OQ.az;rfl;rfl)|(apply OQ.av;rfl;rfl)|(apply OQ.move;rfl)|(apply OQ.assign;rfl)) rfl ?_|refine JC.seq ?_|refine JC.region ?_|refine JL.nil ?_|refine JE.next ?_);exact ω.1):A:=h ⟨k⟩
def Y56(h:YW B->A:=by intro ω;(first|refine JL.q (by first|(apply OQ.extract;rfl;rfl)|(apply OQ.not;rfl)|(apply OQ.av;rfl;rfl)|(apply OQ.move;rfl)|(apply OQ.assign;rfl)) rfl ?_|refine JC.seq ?_|refine JC.region ?_|refine JL.nil ?_|refine JE.next ?_);exact ω.1):A:=h ⟨k⟩
def Y57(h:YW B->A:=by intro ω;(first|refine JL.q (by first|(apply OQ.move;rfl)|(apply OQ.assign;rfl)) rfl ?_|refine JC.seq ?_|refine JC.region ?_|refine JC.skip ?_|refine JL.nil ?_|refine JE.next ?_);exact ω.1):A:=h ⟨k⟩
def Y58(h:YW B->A:=by intro ω;(first|refine JL.q (by first|(apply OQ.extract;rfl;rfl)|(apply OQ.not;rfl)|(apply OQ.az;rfl;rfl)|(apply OQ.move;rfl)|(apply OQ.assign;rfl)) rfl ?_|refine JC.seq ?_|refine JC.region ?_|refine JL.nil ?_|refine JE.next ?_);exact ω.1):A:=h ⟨k⟩
def Y59(h:YW B->A:=by intro ω;(repeat(first|refine JL.q (by(apply OQ.move;rfl)) rfl ?_|refine JC.seq ?_|refine JC.region ?_|refine JC.exit ?_|refine JE.next ?_|refine JE.ak ?_|refine JE.aC ?_));exact ω.1):A:=h ⟨k⟩
def Y60(h:YW B->A:=by intro ω;(repeat(first|refine JL.q (by(apply OQ.move;rfl)) rfl ?_|refine JC.seq ?_|refine JC.region ?_|refine JL.nil ?_|refine JE.next ?_));exact ω.1):A:=h ⟨k⟩
def Y61(h:YW B->A:=by intro ω;(repeat(first|refine JL.q (by(apply OQ.move;rfl)) rfl ?_|refine JC.seq ?_|refine JC.region ?_));exact ω.1):A:=h ⟨k⟩
def Y62(h:YW B->A:=by intro ω;(first|refine JL.q (by first|(apply OQ.bM;exact Tryz.underlying9;rfl)|(apply OQ.move;rfl)|(apply OQ.assign;rfl)|(apply OQ.aY;rfl;rfl;exact(by(try simp only[]);omega))) rfl ?_|refine JC.seq ?_|refine JC.region ?_|refine JL.nil ?_|refine JE.next ?_);exact ω.1):A:=h ⟨k⟩
def Y63(h:YW B->A:=by intro ω;(repeat(first|refine JL.q (by first|(apply OQ.move;rfl)|(apply OQ.assign;rfl)|(apply OQ.aY;rfl;rfl;exact(by(try simp only[]);omega))) rfl ?_|refine JC.seq ?_|refine JC.region ?_|refine JC.skip ?_|refine JC.exit ?_|refine JL.nil ?_|refine JE.next ?_|refine JE.ak ?_|refine JE.aC ?_));exact ω.1):A:=h ⟨k⟩
def Y64(h:YW B->A:=by intro ω;(first|refine JL.q (by first|(apply OQ.move;rfl)|(apply OQ.assign;rfl)|(apply OQ.aY;rfl;rfl;exact(by(try simp only[]);omega))) rfl ?_|refine JC.seq ?_|refine JC.region ?_|refine JC.exit ?_|refine JL.nil ?_|refine JE.next ?_|refine JE.ak ?_|refine JE.aC ?_);exact ω.1):A:=h ⟨k⟩
def Y65(h:YW B->A:=by intro ω;(repeat(first|refine JL.q (by(apply OQ.move;rfl)) rfl ?_|refine JC.seq ?_|refine JC.region ?_|refine JC.skip ?_|refine JL.nil ?_|refine JE.next ?_));exact ω.1):A:=h ⟨k⟩
def Y66(h:YW B->A:=by intro ω;(repeat(first|refine JL.q (by first|(apply OQ.ep (b:=40);rfl;rfl;exact h40)|(apply OQ.move;rfl)) rfl ?_|refine JC.seq ?_|refine JC.region ?_|refine JC.skip ?_|refine JL.nil ?_|refine JE.next ?_));exact ω.1):A:=h ⟨k⟩
def Y67(h:YW B->A:=by intro ω;(repeat(first|refine JL.q (by first|(apply OQ.move;rfl)|(apply OQ.assign;rfl)|(apply OQ.aY;rfl;rfl;exact(by(try simp only[]);omega))) rfl ?_|refine JC.region ?_|refine JC.skip ?_|refine JC.exit ?_|refine JL.nil ?_|refine JE.next ?_|refine JE.ak ?_|refine JE.aC ?_));exact ω.1):A:=h ⟨k⟩
def Y68(h:YW B->A:=by intro ω;(first|refine JL.q (by(apply OQ.move;rfl)) rfl ?_|refine JC.seq ?_|refine JC.region ?_|refine JC.skip ?_|refine JL.nil ?_|refine JE.next ?_);exact ω.1):A:=h ⟨k⟩
def Y69(h:YW B->A:=by intro ω;(first|refine JL.q (by first|(apply OQ.move;rfl)|(apply OQ.assign;rfl)|(apply OQ.gh;rfl;rfl;exact(by(try simp only[]);omega);exact(by(try simp only[]);omega))) rfl ?_|refine JC.seq ?_|refine JC.region ?_|refine JL.nil ?_|refine JE.next ?_);exact ω.1):A:=h ⟨k⟩
def Y70(h:YW B->A:=by intro ω;(repeat(first|refine JL.q (by first|(apply OQ.move;rfl)|(apply OQ.assign;rfl)|(apply OQ.aY;rfl;rfl;exact(by(try simp only[]);omega))) rfl ?_|refine JC.region ?_|refine JC.exit ?_|refine JL.nil ?_|refine JE.next ?_|refine JE.ak ?_|refine JE.aC ?_));exact ω.1):A:=h ⟨k⟩
def Y71(h:YW B->A:=by intro ω;(first|refine JL.q (by first|(apply OQ.av;rfl;rfl)|(apply OQ.move;rfl)) rfl ?_|refine JC.seq ?_|refine JC.region ?_|refine JL.nil ?_|refine JE.next ?_);exact ω.1):A:=h ⟨k⟩
def Y72(h:YW B->A:=by intro ω;(first|refine JL.q (by(apply OQ.move;rfl)) rfl ?_|refine JC.seq ?_|refine JC.region ?_|refine JC.exit ?_|refine JL.nil ?_|refine JE.next ?_|refine JE.ak ?_|refine JE.aC ?_);exact ω.1):A:=h ⟨k⟩
def Y73(h:YW B->A:=by intro ω;(first|refine JL.q (by first|(apply OQ.az;rfl;rfl)|(apply OQ.move;rfl)) rfl ?_|refine JC.seq ?_|refine JC.region ?_|refine JL.nil ?_|refine JE.next ?_);exact ω.1):A:=h ⟨k⟩
def Y74(h:YW B->A:=by intro ω;(repeat(first|refine JL.q (by first|(apply OQ.len;exact Tryz.underlying56;rfl)|(apply OQ.move;rfl)|(apply OQ.dR;rfl;rfl)) rfl ?_|refine JC.seq ?_|refine JC.region ?_|refine JL.nil ?_|refine JE.next ?_));exact ω.1):A:=h ⟨k⟩
def Y75(h:YW B->A:=by intro ω;(repeat(first|refine JC.seq ?_|refine JC.block ?_|refine JC.skip ?_|refine JE.next ?_));exact ω.1):A:=h ⟨k⟩
def Y76(h:YW B->A:=by intro ω;(repeat(first|refine JL.q (by(apply OQ.assign;rfl)) rfl ?_|refine JC.seq ?_|refine JC.region ?_|refine JC.block ?_|refine JC.skip ?_|refine JL.nil ?_|refine JE.next ?_));exact ω.1):A:=h ⟨k⟩
def Y77(h:YW B->A:=by intro ω;(repeat(first|refine JL.q (by first|(apply OQ.move;rfl)|(apply OQ.len;rfl;rfl)|(apply OQ.dR;rfl;rfl)) rfl ?_|refine JC.seq ?_|refine JC.region ?_|refine JL.nil ?_|refine JE.next ?_));exact ω.1):A:=h ⟨k⟩
def Y78(h:YW B->A:=by intro ω;(first|refine JL.q (by first|(apply OQ.bM;exact Tryz.underlying9;rfl)|(apply OQ.az;rfl;rfl)|(apply OQ.av;rfl;rfl)|(apply OQ.move;rfl)|(apply OQ.assign;rfl)) rfl ?_|refine JC.seq ?_|refine JC.region ?_|refine JC.exit ?_|refine JL.nil ?_|refine JE.next ?_|refine JE.ak ?_|refine JE.aC ?_);exact ω.1):A:=h ⟨k⟩
def Y79(h:YW B->A:=by intro ω;(first|refine JL.q (by first|(apply OQ.az;rfl;rfl)|(apply OQ.move;rfl)|(apply OQ.assign;rfl)) rfl ?_|refine JC.seq ?_|refine JC.region ?_|refine JL.nil ?_|refine JE.next ?_);exact ω.1):A:=h ⟨k⟩
def Y80(h:YW B->A:=by intro ω;(first|refine JL.q (by first|(apply OQ.bM;exact Tryz.underlying9;rfl)|(apply OQ.move;rfl)|(apply OQ.assign;rfl)) rfl ?_|refine JC.seq ?_|refine JC.region ?_|refine JL.nil ?_|refine JE.next ?_);exact ω.1):A:=h ⟨k⟩
def Y81(h:YW B->A:=by intro ω;(repeat(first|refine JL.q (by first|(apply OQ.move;rfl)|(apply OQ.assign;rfl)) rfl ?_|refine JC.seq ?_|refine JC.region ?_|refine JC.block ?_|refine JC.skip ?_|refine JL.nil ?_|refine JE.next ?_));exact ω.1):A:=h ⟨k⟩
def Y82(h:YW B->A:=by intro ω;(first|refine JL.q (by first|(apply OQ.len;exact Tryz.underlying27;rfl)|(apply OQ.move;rfl)|(apply OQ.assign;rfl)) rfl ?_|refine JC.seq ?_|refine JC.region ?_|refine JL.nil ?_|refine JE.next ?_);exact ω.1):A:=h ⟨k⟩
def Y83(h:YW B->A:=by intro ω;(repeat(first|refine JC.seq ?_|refine JC.region ?_));exact ω.1):A:=h ⟨k⟩
def Y84(h:YW B->A:=by intro ω;(first|refine JL.q (by first|(apply OQ.assign;rfl)|(apply OQ.dm;rfl;rfl;rfl;exact(by decide);rfl)) rfl ?_|refine JC.seq ?_|refine JC.region ?_|refine JL.nil ?_|refine JE.next ?_);exact ω.1):A:=h ⟨k⟩
def Y85(h:YW B->A:=by intro ω;(repeat(first|refine JL.q (by first|(apply OQ.move;rfl)|(apply OQ.assign;rfl)|(apply OQ.len;rfl;rfl)) rfl ?_|refine JC.seq ?_|refine JC.region ?_|refine JC.block ?_|refine JL.nil ?_|refine JE.next ?_));exact ω.1):A:=h ⟨k⟩
def Y86(h:YW B->A:=by intro ω;(repeat(first|refine JL.q (by first|(apply OQ.uH;rfl;rfl)|(apply OQ.move;rfl)|(apply OQ.aY;rfl;rfl;exact(by(try simp only[]);omega))|(apply OQ.gh;rfl;rfl;exact(by(try simp only[]);omega);exact(by(try simp only[]);omega))) rfl ?_|refine JC.seq ?_|refine JC.region ?_|refine JC.exit ?_|refine JL.nil ?_|refine JE.next ?_|refine JE.ak ?_|refine JE.aC ?_));exact ω.1):A:=h ⟨k⟩
def Y87(h:YW B->A:=by intro ω;(repeat(first|refine JL.q (by(apply OQ.assign;rfl)) rfl ?_|refine JC.region ?_|refine JL.nil ?_|refine JE.next ?_));exact ω.1):A:=h ⟨k⟩
def Y88(h:YW B->A:=by intro ω;(first|refine JL.q (by(apply OQ.move;rfl)) rfl ?_|refine JC.seq ?_|refine JC.region ?_);exact ω.1):A:=h ⟨k⟩
def Y89(h:YW B->A:=by intro ω;(first|refine JL.q (by first|(apply OQ.move;rfl)|(apply OQ.assign;rfl)) rfl ?_|refine JC.seq ?_|refine JC.region ?_|refine JC.block ?_|refine JL.nil ?_|refine JE.next ?_);exact ω.1):A:=h ⟨k⟩
def Y90(h:YW B->A:=by intro ω;(first|refine JC.seq ?_|refine JC.region ?_|refine JC.block ?_|refine JC.skip ?_|refine JE.next ?_);exact ω.1):A:=h ⟨k⟩
def Y91(h:YW B->A:=by intro ω;(first|refine JL.q (by(apply OQ.dm;rfl;rfl;rfl;exact(by decide);rfl)) rfl ?_|refine JC.seq ?_|refine JC.region ?_|refine JL.nil ?_|refine JE.next ?_);exact ω.1):A:=h ⟨k⟩
def Y92(h:YW B->A:=by intro ω;(repeat(first|refine JL.q (by first|(apply OQ.len;exact Tryz.underlying22;rfl)|(apply OQ.move;rfl)|(apply OQ.assign;rfl)) rfl ?_|refine JC.seq ?_|refine JC.region ?_|refine JC.block ?_|refine JL.nil ?_|refine JE.next ?_));exact ω.1):A:=h ⟨k⟩
def Y93(h:YW B->A:=by intro ω;(first|refine JL.q (by first|(apply OQ.move;rfl)|(apply OQ.assign;rfl)) rfl ?_|refine JC.seq ?_|refine JC.region ?_|refine JC.block ?_|refine JC.skip ?_|refine JL.nil ?_|refine JE.next ?_);exact ω.1):A:=h ⟨k⟩
def Y94(h:YW B->A:=by intro ω;(repeat(first|refine JL.q (by(apply OQ.move;rfl)) rfl ?_|refine JC.seq ?_|refine JC.region ?_|refine JC.skip ?_|refine JE.next ?_));exact ω.1):A:=h ⟨k⟩
def Y95(h:YW B->A:=by intro ω;(first|refine JL.q (by first|(apply OQ.extract;rfl;rfl)|(apply OQ.az;rfl;rfl)|(apply OQ.move;rfl)|(apply OQ.assign;rfl)) rfl ?_|refine JC.seq ?_|refine JC.region ?_|refine JL.nil ?_|refine JE.next ?_);exact ω.1):A:=h ⟨k⟩
def Y96(h:YW B->A:=by intro ω;(first|refine JL.q (by first|(apply OQ.extract;rfl;rfl)|(apply OQ.av;rfl;rfl)|(apply OQ.move;rfl)|(apply OQ.assign;rfl)) rfl ?_|refine JC.seq ?_|refine JC.region ?_|refine JL.nil ?_|refine JE.next ?_);exact ω.1):A:=h ⟨k⟩
def Y97(h:YW B->A:=by intro ω;(repeat(first|refine JC.seq ?_|refine JL.nil ?_|refine JE.next ?_));exact ω.1):A:=h ⟨k⟩
def Y98(h:YW B->A:=by intro ω;(repeat(first|refine JL.nil ?_|refine JE.next ?_));exact ω.1):A:=h ⟨k⟩
def Y99(h:YW B->A:=by intro ω;(first|refine JL.q (by first|(apply OQ.av;rfl;rfl)|(apply OQ.move;rfl)|(apply OQ.assign;rfl)|(apply OQ.len;rfl;rfl)) rfl ?_|refine JC.seq ?_|refine JC.region ?_|refine JL.nil ?_|refine JE.next ?_);exact ω.1):A:=h ⟨k⟩
def Y100(h:YW B->A:=by intro ω;(first|refine JL.q (by first|(apply OQ.az;rfl;rfl)|(apply OQ.move;rfl)|(apply OQ.assign;rfl)|(apply OQ.len;rfl;rfl)) rfl ?_|refine JC.seq ?_|refine JC.region ?_|refine JL.nil ?_|refine JE.next ?_);exact ω.1):A:=h ⟨k⟩
def Y101(h:YW B->A:=by intro ω;(repeat(first|refine JL.q (by first|(apply OQ.isNil;exact Tryz.underlying22;rfl;rfl)|(apply OQ.move;rfl)|(apply OQ.assign;rfl)) rfl ?_|refine JC.seq ?_|refine JC.region ?_|refine JL.nil ?_|refine JE.next ?_));exact ω.1):A:=h ⟨k⟩
def Y102(h:YW B->A:=by intro ω;(repeat(first|refine JC.seq ?_|refine JC.region ?_|refine JC.skip ?_|refine JE.next ?_));exact ω.1):A:=h ⟨k⟩
def Y103(h:YW B->A:=by intro ω;(first|refine JL.q (by first|(apply OQ.move;rfl)|(apply OQ.assign;rfl)|(apply OQ.len;rfl;rfl)) rfl ?_|refine JC.seq ?_|refine JC.region ?_|refine JL.nil ?_|refine JE.next ?_);exact ω.1):A:=h ⟨k⟩
def Y104(h:YW B->A:=by intro ω;(first|refine JL.q (by(apply OQ.move;rfl)) rfl ?_|refine JC.region ?_|refine JC.skip ?_|refine JE.next ?_);exact ω.1):A:=h ⟨k⟩
def Y105(h:YW B->A:=by intro ω;(first|refine JC.seq ?_|refine JC.region ?_|refine JC.exit ?_|refine JE.next ?_|refine JE.ak ?_|refine JE.aC ?_);exact ω.1):A:=h ⟨k⟩
def Y106(h:YW B->A:=by intro ω;(first|refine JL.q (by first|(apply OQ.move;rfl)|(apply OQ.len;rfl;rfl)) rfl ?_|refine JC.seq ?_|refine JC.region ?_|refine JL.nil ?_|refine JE.next ?_);exact ω.1):A:=h ⟨k⟩
def Y107(h:YW B->A:=by intro ω;(repeat(first|refine JL.q (by first|(apply OQ.move;rfl)|(apply OQ.assign;rfl)) rfl ?_|refine JC.seq ?_|refine JC.region ?_|refine JC.exit ?_|refine JL.nil ?_|refine JE.next ?_|refine JE.ak ?_|refine JE.aC ?_));exact ω.1):A:=h ⟨k⟩
def Y108(h:YW B->A:=by intro ω;(first|refine JL.q (by first|(apply OQ.not;rfl)|(apply OQ.move;rfl)|(apply OQ.len;rfl;rfl)) rfl ?_|refine JC.seq ?_|refine JC.region ?_|refine JC.block ?_|refine JC.skip ?_|refine JL.nil ?_|refine JE.next ?_);exact ω.1):A:=h ⟨k⟩
def Y109(h:YW B->A:=by intro ω;(first|refine JL.q (by first|(apply OQ.extract;rfl;rfl)|(apply OQ.not;rfl)|(apply OQ.move;rfl)|(apply OQ.assign;rfl)) rfl ?_|refine JC.seq ?_|refine JC.region ?_|refine JL.nil ?_|refine JE.next ?_);exact ω.1):A:=h ⟨k⟩
def Y110(h:YW B->A:=by intro ω;(first|refine FC.seq ?_|refine FC.region ?_|refine FL.nil ?_|refine FE.next ?_);exact ω.1):A:=h ⟨k⟩
def Y111(h:YW B->A:=by intro ω;(first|refine FC.seq ?_|refine FC.region ?_|refine FC.block ?_|refine FC.skip ?_|refine FE.next ?_);exact ω.1):A:=h ⟨k⟩
def Y112(h:YW B->A:=by intro ω;(repeat(first|refine FE.ag ?_|refine FE.aQ ?_));exact ω.1):A:=h ⟨k⟩
def Y113(h:YW B->A:=by intro ω;(repeat(first|refine FC.exit ?_|refine FE.ak ?_|refine FE.aC ?_));exact ω.1):A:=h ⟨k⟩
def Y114(h:YW B->A:=by intro ω;(repeat(first|refine JL.q (by first|(apply OQ.move;rfl)|(apply OQ.dR;rfl;rfl)) rfl ?_|refine JC.seq ?_|refine JC.region ?_|refine JL.nil ?_|refine JE.next ?_));exact ω.1):A:=h ⟨k⟩
def Y115(h:YW B->A:=by intro ω;(repeat(first|refine JL.q (by first|(apply OQ.not;rfl)|(apply OQ.move;rfl)) rfl ?_|refine JC.seq ?_|refine JC.region ?_|refine JC.exit ?_|refine JL.nil ?_|refine JE.next ?_|refine JE.ak ?_|refine JE.aC ?_));exact ω.1):A:=h ⟨k⟩
def Y116(h:YW B->A:=by intro ω;(first|refine JL.q (by first|(apply OQ.az;rfl;rfl)|(apply OQ.av;rfl;rfl)|(apply OQ.move;rfl)|(apply OQ.gh;rfl;rfl;exact(by(try simp only[]);omega);exact(by(try simp only[]);omega))) rfl ?_|refine JC.seq ?_|refine JC.region ?_|refine JL.nil ?_|refine JE.next ?_);exact ω.1):A:=h ⟨k⟩
def Y117(h:YW B->A:=by intro ω;(repeat(first|refine JL.q (by first|(apply OQ.move;rfl)|(apply OQ.assign;rfl)|(apply OQ.gh;rfl;rfl;exact(by(try simp only[]);omega);exact(by(try simp only[]);omega))) rfl ?_|refine JC.region ?_|refine JC.block ?_|refine JC.skip ?_|refine JL.nil ?_|refine JE.next ?_|refine JE.ah ?_));exact ω.1):A:=h ⟨k⟩
def Y118(h:YW B->A:=by intro ω;(repeat(first|refine JL.q (by first|(apply OQ.fst (s:=s);exact Tryz.underlying22;exact dD;rfl;rfl;exact hn;exact hcap)|(apply OQ.wU (s:=s.fst n);exact Tryz.underlying22;exact Tryz.underlying5;exact Tryz.underlying9;rfl;exact(fun w' hw'=>hfs.holds hw' rfl))|(apply OQ.fH (l:=[45,45]) (r:=bd);rfl;rfl;exact(by simp only[List.length_cons,List.length_nil];omega))|(apply OQ.fR (r:=45::45::bd);rfl;rfl;exact h1)|(apply OQ.move;rfl)) rfl ?_|refine JC.seq ?_|refine JC.region ?_|refine JL.nil ?_|refine JE.next ?_));exact ω.1):A:=h ⟨k⟩
def Y119(h:YW B->A:=by intro ω;(first|refine JL.q (by(apply OQ.move;rfl)) rfl ?_|refine JC.region ?_);exact ω.1):A:=h ⟨k⟩
def Y120(h:YW B->A:=by intro ω;(first|refine JL.q (by first|(apply OQ.av;rfl;rfl)|(apply OQ.move;rfl)|(apply OQ.len;rfl;rfl)) rfl ?_|refine JC.seq ?_|refine JC.region ?_|refine JL.nil ?_|refine JE.next ?_);exact ω.1):A:=h ⟨k⟩
def Y121(h:YW B->A:=by intro ω;(first|refine JL.q (by first|(apply OQ.az;rfl;rfl)|(apply OQ.move;rfl)|(apply OQ.len;rfl;rfl)|(apply OQ.gh;rfl;rfl;exact(by(try simp only[]);omega);exact(by(try simp only[]);omega))) rfl ?_|refine JC.seq ?_|refine JC.region ?_|refine JL.nil ?_|refine JE.next ?_);exact ω.1):A:=h ⟨k⟩
def Y122(h:YW B->A:=by intro ω;(repeat(first|refine JL.q (by(apply OQ.assign;rfl)) rfl ?_|refine JL.nil ?_));exact ω.1):A:=h ⟨k⟩
def Y123(h:YW B->A:=by intro ω;(first|refine JL.q (by first|(apply OQ.move;rfl)|(apply OQ.len;rfl;rfl)) rfl ?_|refine JC.seq ?_|refine JC.region ?_|refine JC.exit ?_|refine JL.nil ?_|refine JE.next ?_|refine JE.ak ?_|refine JE.aC ?_);exact ω.1):A:=h ⟨k⟩
def Y124(h:YW B->A:=by intro ω;(repeat(first|refine JL.q (by first|(apply OQ.move;rfl)|(apply OQ.assign;rfl)) rfl ?_|refine JC.region ?_|refine JL.nil ?_|refine JE.next ?_));exact ω.1):A:=h ⟨k⟩
def Y125(h:YW B->A:=by intro ω;(repeat(first|refine JL.q (by first|(apply OQ.extract;rfl;rfl)|(apply OQ.move;rfl)|(apply OQ.assign;rfl)) rfl ?_|refine JC.seq ?_|refine JC.region ?_|refine JL.nil ?_|refine JE.next ?_));exact ω.1):A:=h ⟨k⟩
def Y126(h:YW B->A:=by intro ω;(first|refine JL.q (by first|(apply OQ.len;exact Tryz.underlying93;rfl)|(apply OQ.az;rfl;rfl)|(apply OQ.move;rfl)) rfl ?_|refine JC.seq ?_|refine JC.region ?_|refine JL.nil ?_|refine JE.next ?_);exact ω.1):A:=h ⟨k⟩
def Y127(h:YW B->A:=by intro ω;(first|refine JL.q (by first|(apply OQ.len;exact Tryz.underlying93;rfl)|(apply OQ.av;rfl;rfl)|(apply OQ.move;rfl)) rfl ?_|refine JC.seq ?_|refine JC.region ?_|refine JL.nil ?_|refine JE.next ?_);exact ω.1):A:=h ⟨k⟩
def Y128(h:YW B->A:=by intro ω;(first|refine JL.q (by(apply OQ.move;rfl)) rfl ?_|refine JC.seq ?_|refine JC.region ?_|refine JC.skip ?_|refine JE.next ?_);exact ω.1):A:=h ⟨k⟩
def Y129(h:YW B->A:=by intro ω;(first|refine JL.q (by first|(apply OQ.len;exact Tryz.underlying93;rfl)|(apply OQ.move;rfl)) rfl ?_|refine JC.seq ?_|refine JC.region ?_|refine JL.nil ?_|refine JE.next ?_);exact ω.1):A:=h ⟨k⟩
def Y130(h:YW B->A:=by intro ω;(repeat(first|refine JL.q (by(apply OQ.assign;rfl)) rfl ?_|refine JL.nil ?_|refine JE.ah ?_));exact ω.1):A:=h ⟨k⟩
def Y131(h:YW B->A:=by intro ω;(first|refine JL.q (by first|(apply OQ.not;rfl)|(apply OQ.move;rfl)) rfl ?_|refine JC.seq ?_|refine JC.region ?_|refine JL.nil ?_|refine JE.next ?_);exact ω.1):A:=h ⟨k⟩
def Y132(h:YW B->A:=by intro ω;(repeat(first|refine JC.seq ?_|refine JC.region ?_|refine JL.nil ?_|refine JE.next ?_));exact ω.1):A:=h ⟨k⟩
def Y133(h:YW B->A:=by intro ω;(first|refine JC.seq ?_|refine JC.region ?_|refine JL.nil ?_|refine JE.next ?_);exact ω.1):A:=h ⟨k⟩
def Y134(h:YW B->A:=by intro ω;(repeat(first|refine JC.block ?_|refine JL.nil ?_|refine JE.next ?_));exact ω.1):A:=h ⟨k⟩
def Y135(h:YW B->A:=by intro ω;(first|refine JL.q (by first|(apply OQ.av;rfl;rfl)|(apply OQ.move;rfl)) rfl ?_|refine JL.nil ?_|with_reducible refine JE.gH ?_);exact ω.1):A:=h ⟨k⟩
def Y136(h:YW B->A:=by intro ω;(first|refine JL.q (by first|(apply OQ.av;rfl;rfl)|(apply OQ.move;rfl)) rfl ?_|refine JR.seq ?_|refine JL.nil ?_|with_reducible refine JE.gH ?_|refine JR.skip ?_);exact ω.1):A:=h ⟨k⟩
def Y137(h:YW B->A:=by intro ω;(first|refine JL.q (by(apply OQ.move;rfl)) rfl ?_|refine JR.seq ?_|refine JL.nil ?_|with_reducible refine JE.gH ?_|refine JR.skip ?_);exact ω.1):A:=h ⟨k⟩
def Y138(h:YW B->A:=by intro ω;(repeat(first|with_reducible refine JE.ah ?_|refine JR.skip ?_));exact ω.1):A:=h ⟨k⟩
def Y139(h:YW B->A:=by intro ω;(first|refine JL.q (by first|(apply OQ.move;rfl)|(apply OQ.len;rfl;rfl)) rfl ?_);exact ω.1):A:=h ⟨k⟩
def Y140(h:YW B->A:=by intro ω;(repeat(first|refine JL.nil ?_|with_reducible refine JE.ah ?_));exact ω.1):A:=h ⟨k⟩
def Y141(h:YW B->A:=by intro ω;(first|refine JL.q (by first|(apply OQ.az;rfl;rfl)|(apply OQ.av;rfl;rfl)|(apply OQ.move;rfl)) rfl ?_|refine JL.nil ?_|with_reducible refine JE.gH ?_);exact ω.1):A:=h ⟨k⟩
def Y142(h:YW B->A:=by intro ω;(first|refine JL.q (by first|(apply OQ.az;rfl;rfl)|(apply OQ.move;rfl)) rfl ?_|refine JR.seq ?_|refine JL.nil ?_|with_reducible refine JE.gH ?_);exact ω.1):A:=h ⟨k⟩
def Y143(h:YW B->A:=by intro ω;(first|refine JL.q (by first|(apply OQ.move;rfl)|(apply OQ.dm;rfl;rfl;rfl;exact(by decide);rfl)) rfl ?_|refine JC.seq ?_|refine JC.region ?_|refine JC.block ?_|refine JC.skip ?_|refine JL.nil ?_|refine JE.next ?_);exact ω.1):A:=h ⟨k⟩
def Y144(h:YW B->A:=by intro ω;(first|refine JL.q (by first|(apply OQ.move;rfl)|(apply OQ.assign;rfl)|(apply OQ.dm;rfl;rfl;rfl;exact(by decide);rfl)) rfl ?_|refine JC.seq ?_|refine JC.region ?_|refine JL.nil ?_|refine JE.next ?_);exact ω.1):A:=h ⟨k⟩
def Y145(h:YW B->A:=by intro ω;(first|refine JL.q (by first|(apply OQ.move;rfl)|(apply OQ.assign;rfl)|(apply OQ.dm;rfl;rfl;rfl;exact(by decide);rfl)) rfl ?_|refine JC.seq ?_|refine JC.region ?_|refine JC.skip ?_|refine JL.nil ?_|refine JE.next ?_);exact ω.1):A:=h ⟨k⟩
def Y146(h:YW B->A:=by intro ω;(first|refine JL.q (by first|(apply OQ.extract;rfl;rfl)|(apply OQ.not;rfl)|(apply OQ.move;rfl)|(apply OQ.assign;rfl)) rfl ?_|refine JC.seq ?_|refine JC.region ?_|refine JC.block ?_|refine JL.nil ?_|refine JE.next ?_);exact ω.1):A:=h ⟨k⟩
def Y147(h:YW B->A:=by intro ω;(first|refine JL.q (by first|(apply OQ.move;rfl)|(apply OQ.len;rfl;rfl)) rfl ?_|refine JC.seq ?_|refine JC.region ?_|refine JC.skip ?_|refine JL.nil ?_|refine JE.next ?_);exact ω.1):A:=h ⟨k⟩
def Y148(h:YW B->A:=by intro ω;(first|refine JL.q (by first|(apply OQ.az;rfl;rfl)|(apply OQ.move;rfl)|(apply OQ.len;rfl;rfl)) rfl ?_|refine JC.seq ?_|refine JC.region ?_|refine JL.nil ?_|refine JE.next ?_);exact ω.1):A:=h ⟨k⟩
def Y149(h:YW B->A:=by intro ω;(first|refine JL.q (by first|(apply OQ.extract;rfl;rfl)|(apply OQ.not;rfl)|(apply OQ.move;rfl)|(apply OQ.assign;rfl)) rfl ?_|refine JC.seq ?_|refine JC.region ?_|refine JC.block ?_|refine JC.skip ?_|refine JL.nil ?_|refine JE.next ?_);exact ω.1):A:=h ⟨k⟩
def Y150(h:YW B->A:=by intro ω;(repeat(first|refine JL.q (by first|(apply OQ.move;rfl)|(apply OQ.assign;rfl)) rfl ?_|refine JC.region ?_|refine JL.nil ?_|refine JE.next ?_|refine JE.ah ?_));exact ω.1):A:=h ⟨k⟩
def Y151(h:YW B->A:=by intro ω;(repeat(first|refine JL.q (by(apply OQ.mo)) rfl ?_|refine JC.seq ?_|refine JC.region ?_));exact ω.1):A:=h ⟨k⟩
def Y152(h:YW B->A:=by intro ω;(first|refine JL.q (by first|(apply OQ.extract;rfl;rfl)|(apply OQ.not;rfl)|(apply OQ.av;rfl;rfl)|(apply OQ.move;rfl)|(apply OQ.assign;rfl)) rfl ?_|refine JC.seq ?_|refine JC.region ?_|refine JC.skip ?_|refine JL.nil ?_|refine JE.next ?_);exact ω.1):A:=h ⟨k⟩
def Y153(h:YW B->A:=by intro ω;(repeat(first|refine JL.q (by first|(apply OQ.extract;rfl;rfl)|(apply OQ.not;rfl)|(apply OQ.move;rfl)|(apply OQ.assign;rfl)) rfl ?_|refine JC.seq ?_|refine JC.region ?_|refine JL.nil ?_|refine JE.next ?_));exact ω.1):A:=h ⟨k⟩
def Y154(h:YW B->A:=by intro ω;(first|refine JL.q (by(apply OQ.bM;exact Tryz.underlying9;rfl)) rfl ?_|refine JL.nil ?_|refine JE.next ?_);exact ω.1):A:=h ⟨k⟩
def Y155(h:YW B->A:=by intro ω;(first|refine JL.q (by first|(apply OQ.not;rfl)|(apply OQ.move;rfl)) rfl ?_|refine JC.seq ?_|refine JC.region ?_|refine JC.skip ?_|refine JL.nil ?_|refine JE.next ?_);exact ω.1):A:=h ⟨k⟩
def Y156(h:YW B->A:=by intro ω;(first|refine JL.q (by first|(apply OQ.extract;rfl;rfl)|(apply OQ.az;rfl;rfl)|(apply OQ.move;rfl)|(apply OQ.assign;rfl)|(apply OQ.len;rfl;rfl)) rfl ?_|refine JC.seq ?_|refine JC.region ?_|refine JL.nil ?_|refine JE.next ?_);exact ω.1):A:=h ⟨k⟩
def Y157(h:YW B->A:=by intro ω;(repeat(first|refine JL.q (by first|(apply OQ.move;rfl)|(apply OQ.assign;rfl)|(apply OQ.len;rfl;rfl)) rfl ?_|refine JC.seq ?_|refine JC.region ?_|refine JL.nil ?_|refine JE.next ?_));exact ω.1):A:=h ⟨k⟩
def Y158(h:YW B->A:=by intro ω;(repeat(first|refine JL.q (by first|(apply OQ.len;exact Tryz.underlying27;rfl)|(apply OQ.move;rfl)|(apply OQ.assign;rfl)) rfl ?_|refine JC.seq ?_|refine JC.region ?_|refine JC.block ?_|refine JL.nil ?_|refine JE.next ?_));exact ω.1):A:=h ⟨k⟩
def Y159(h:YW B->A:=by intro ω;(repeat(first|refine JL.q (by(apply OQ.assign;rfl)) rfl ?_|refine JC.seq ?_|refine JL.nil ?_|refine JE.next ?_));exact ω.1):A:=h ⟨k⟩
def Y160(h:YW B->A:=by intro ω;(first|refine JL.q (by first|(apply OQ.move;rfl)|(apply OQ.assign;rfl)) rfl ?_|refine JC.region ?_|refine JL.nil ?_|refine JE.next ?_|refine JE.ah ?_);exact ω.1):A:=h ⟨k⟩
def Y161(h:YW B->A:=by intro ω;(repeat(first|refine JC.seq ?_|refine JC.block ?_|refine JC.exit ?_|refine JE.next ?_|refine JE.ak ?_|refine JE.aC ?_));exact ω.1):A:=h ⟨k⟩
def Y162(h:YW B->A:=by intro ω;(repeat(first|refine JL.q (by first|(apply OQ.move;rfl)|(apply OQ.len;rfl;rfl)|(apply OQ.GJ;rfl;rfl;exact(by(try simp only[]);omega))|(apply OQ.S6;rfl;rfl)) rfl ?_|refine JC.seq ?_|refine JC.region ?_|refine JL.nil ?_|refine JE.next ?_));exact ω.1):A:=h ⟨k⟩
def Y163(h:YW B->A:=by intro ω;(repeat(first|refine JL.q (by(apply OQ.move;rfl)) rfl ?_|refine JC.region ?_|refine JC.block ?_|refine JC.skip ?_|refine JE.next ?_));exact ω.1):A:=h ⟨k⟩
def Y164(h:YW B->A:=by intro ω;(first|refine JL.q (by(apply OQ.move;rfl)) rfl ?_|refine JC.region ?_|refine JC.exit ?_|refine JE.next ?_|refine JE.ak ?_|refine JE.aC ?_);exact ω.1):A:=h ⟨k⟩
def Y165(h:YW B->A:=by intro ω;(first|refine JL.q (by first|(apply OQ.bM;exact Tryz.underlying9;rfl)|(apply OQ.av;rfl;rfl)|(apply OQ.move;rfl)|(apply OQ.assign;rfl)|(apply OQ.gh;rfl;rfl;exact(by(try simp only[]);omega);exact(by(try simp only[]);omega))|(apply OQ.GJ;rfl;rfl;exact(by(try simp only[]);omega))) rfl ?_|refine JC.seq ?_|refine JC.region ?_|refine JL.nil ?_|refine JE.next ?_);exact ω.1):A:=h ⟨k⟩
def Y166(h:YW B->A:=by intro ω;(repeat(first|refine JL.q (by first|(apply OQ.move;rfl)|(apply OQ.assign;rfl)|(apply OQ.len;rfl;rfl)|(apply OQ.aY;rfl;rfl;exact(by(try simp only[]);omega))|(apply OQ.Dg;rfl;rfl;exact(by(try simp only[]);omega))|(apply OQ.Ph;rfl;rfl;exact(by(try simp only[]);omega);exact(by(try simp only[]);omega))) rfl ?_|refine JC.seq ?_|refine JC.region ?_|refine JL.nil ?_|refine JE.next ?_));exact ω.1):A:=h ⟨k⟩
def Y167(h:YW B->A:=by intro ω;(first|refine JL.q (by(apply OQ.move;rfl)) rfl ?_|refine JR.block ?_);exact ω.1):A:=h ⟨k⟩
def Y168(h:YW B->A:=by intro ω;(first|refine KC.seq ?_|refine KC.region ?_|refine KL.nil ?_|refine KE.next ?_|refine KE.ah ?_);exact ω.1):A:=h ⟨k⟩
def Y169(h:YW B->A:=by intro ω;(first|refine JL.q (by first|(apply OQ.oB;rfl;rfl;exact(by decide))|(apply OQ.xL;rfl;rfl;rfl)|(apply OQ.az;rfl;rfl)|(apply OQ.av;rfl;rfl)|(apply OQ.move;rfl)|(apply OQ.assign;rfl)) rfl ?_|refine JC.seq ?_|refine JC.region ?_|refine JL.nil ?_|refine JE.next ?_);exact ω.1):A:=h ⟨k⟩
def Y170(h:YW B->A:=by intro ω;(first|refine JL.q (by first|(apply OQ.av;rfl;rfl)|(apply OQ.move;rfl)|(apply OQ.assign;rfl)) rfl ?_|refine JC.seq ?_|refine JC.region ?_|refine JL.nil ?_|refine JE.next ?_);exact ω.1):A:=h ⟨k⟩
def Y171(h:YW B->A:=by intro ω;(first|refine JL.q (by(apply OQ.move;rfl)) rfl ?_|refine JC.seq ?_|refine JC.region ?_|refine JC.exit ?_|refine JE.next ?_|refine JE.ak ?_|refine JE.aC ?_);exact ω.1):A:=h ⟨k⟩
def Y172(h:YW B->A:=by intro ω;(repeat(first|refine JL.q (by first|(apply OQ.extract;rfl;rfl)|(apply OQ.assign;rfl)) rfl ?_|refine JL.nil ?_|refine JE.next ?_));exact ω.1):A:=h ⟨k⟩
def Y173(h:YW B->A:=by intro ω;(first|refine JL.q (by first|(apply OQ.az;rfl;rfl)|(apply OQ.av;rfl;rfl)|(apply OQ.move;rfl)|(apply OQ.assign;rfl)|(apply OQ.len;rfl;rfl)) rfl ?_|refine JC.seq ?_|refine JC.region ?_|refine JL.nil ?_|refine JE.next ?_);exact ω.1):A:=h ⟨k⟩
def Y174(h:YW B->A:=by intro ω;(repeat(first|refine JL.q (by first|(apply OQ.nE (vs:=[s.v]);exact jE;rfl;exact cB;exact hb)|(apply OQ.move;rfl)|(apply OQ.assign;rfl)) rfl ?_|refine JC.seq ?_|refine JC.region ?_|refine JC.block ?_|refine JL.nil ?_|refine JE.next ?_));exact ω.1):A:=h ⟨k⟩
def Y175(h:YW B->A:=by intro ω;(repeat(first|refine JL.q (by(apply OQ.assign;rfl)) rfl ?_|refine JC.seq ?_|refine JC.region ?_|refine JC.skip ?_|refine JL.nil ?_|refine JE.next ?_|refine JE.ah ?_));exact ω.1):A:=h ⟨k⟩
def Y176(h:YW B->A:=by intro ω;(first|refine JL.q (by first|(apply OQ.az;rfl;rfl)|(apply OQ.move;rfl)|(apply OQ.assign;rfl)) rfl ?_|refine JC.seq ?_|refine JC.region ?_|refine JC.block ?_|refine JL.nil ?_|refine JE.next ?_);exact ω.1):A:=h ⟨k⟩
def Y177(h:YW B->A:=by intro ω;(first|refine JL.q (by first|(apply OQ.tI;exact Tryz.underlying5;exact Tryz.underlying3;rfl)|(apply OQ.move;rfl)|(apply OQ.assign;rfl)) rfl ?_|refine JC.seq ?_|refine JC.region ?_|refine JL.nil ?_|refine JE.next ?_);exact ω.1):A:=h ⟨k⟩
def Y178(h:YW B->A:=by intro ω;(first|refine JL.q (by first|(apply OQ.av;rfl;rfl)|(apply OQ.move;rfl)) rfl ?_|refine JL.nil ?_|refine JE.next ?_);exact ω.1):A:=h ⟨k⟩
def Y179(h:YW B->A:=by intro ω;(first|refine JL.q (by(apply OQ.not;rfl)) rfl ?_|refine JL.nil ?_|refine JE.next ?_);exact ω.1):A:=h ⟨k⟩
def Y180(h:YW B->A:=by intro ω;(repeat(first|refine JL.q (by first|(apply OQ.ai (vs:=[Z s,kQ b]);exact eU;rfl;exact(fun w' hw'=>cP b _ w' _ hw'))|(apply OQ.extract;rfl;rfl)|(apply OQ.lD (r:=[]);rfl;rfl;exact hV)|(apply OQ.move;rfl)|(apply OQ.assign;rfl)) rfl ?_|refine JC.seq ?_|refine JC.region ?_|refine JL.nil ?_|refine JE.next ?_));exact ω.1):A:=h ⟨k⟩
def Y181(h:YW B->A:=by intro ω;(first|refine JL.q (by first|(apply OQ.av;rfl;rfl)|(apply OQ.move;rfl)|(apply OQ.assign;rfl)) rfl ?_|refine JC.seq ?_|refine JC.region ?_|refine JC.skip ?_|refine JL.nil ?_|refine JE.next ?_);exact ω.1):A:=h ⟨k⟩
def Y182(h:YW B->A:=by intro ω;(repeat(first|refine JL.q (by first|(apply OQ.ai (vs:=[Z s,Z [59]]);exact ec;rfl;exact(fun w' _=>c1 w'))|(apply OQ.extract;rfl;rfl)|(apply OQ.move;rfl)|(apply OQ.assign;rfl)) rfl ?_|refine JC.seq ?_|refine JC.region ?_|refine JL.nil ?_|refine JE.next ?_));exact ω.1):A:=h ⟨k⟩
def Y183(h:YW B->A:=by intro ω;(repeat(first|refine JL.q (by(apply OQ.vn)) rfl ?_|refine JC.seq ?_|refine JC.region ?_));exact ω.1):A:=h ⟨k⟩
def Y184(h:YW B->A:=by intro ω;(repeat(first|refine JL.q (by first|(apply OQ.lD (r:=[]);rfl;rfl;exact hr)|(apply OQ.move;rfl)) rfl ?_|refine JC.seq ?_|refine JC.region ?_|refine JL.nil ?_|refine JE.next ?_));exact ω.1):A:=h ⟨k⟩
def Y185(h:YW B->A:=by intro ω;(first|refine JL.q (by first|(apply OQ.extract;rfl;rfl)|(apply OQ.move;rfl)) rfl ?_|refine JC.seq ?_|refine JC.region ?_|refine JC.block ?_|refine JC.skip ?_|refine JE.next ?_);exact ω.1):A:=h ⟨k⟩
def Y186(h:YW B->A:=by intro ω;(repeat(first|refine JL.q (by first|(apply OQ.not;rfl)|(apply OQ.move;rfl)|(apply OQ.assign;rfl)) rfl ?_|refine JC.seq ?_|refine JC.region ?_|refine JL.nil ?_|refine JE.next ?_));exact ω.1):A:=h ⟨k⟩
def Y187(h:YW B->A:=by intro ω;(repeat(first|refine JL.q (by first|(apply OQ.load;exact lO;rfl;exact .here;exact(Row.cell (v:=s.v) rfl))|(apply OQ.dm;rfl;rfl;rfl;exact(by decide);rfl)) rfl ?_|refine JC.region ?_));exact ω.1):A:=h ⟨k⟩
def Y188(h:YW B->A:=by intro ω;(repeat(first|refine JL.q (by first|(apply OQ.extract;rfl;rfl)|(apply OQ.move;rfl)|(apply OQ.assign;rfl)) rfl ?_|refine JC.seq ?_|refine JC.region ?_|refine JL.nil ?_|refine JE.next ?_|refine JE.ah ?_));exact ω.1):A:=h ⟨k⟩
def Y189(h:YW B->A:=by intro ω;(repeat(first|refine JL.q (by first|(apply OQ.extract;rfl;rfl)|(apply OQ.fh (a:=((0:Nat):Int)) (b:=0);rfl;rfl;exact h0)|(apply OQ.move;rfl)|(apply OQ.assign;rfl)) rfl ?_|refine JC.seq ?_|refine JC.region ?_|refine JL.nil ?_|refine JE.next ?_));exact ω.1):A:=h ⟨k⟩
def Y190(h:YW B->A:=by intro ω;(first|refine JL.q (by first|(apply OQ.move;rfl)|(apply OQ.dm;rfl;rfl;rfl;exact(by decide);rfl)) rfl ?_|refine JC.seq ?_|refine JC.region ?_|refine JC.skip ?_|refine JE.next ?_);exact ω.1):A:=h ⟨k⟩
def Y191(h:YW B->A:=by intro ω;(repeat(first|refine JL.q (by first|(apply OQ.dn (a:=(others:Int)) (b:=8);rfl;rfl;exact h8)|(apply OQ.move;rfl)) rfl ?_|refine JC.seq ?_|refine JC.region ?_|refine JC.skip ?_|refine JL.nil ?_|refine JE.next ?_));exact ω.1):A:=h ⟨k⟩
def Y192(h:YW B->A:=by intro ω;(repeat(first|refine JL.q (by first|(apply OQ.extract;rfl;rfl)|(apply OQ.fh (a:=((0:Nat):Int)) (b:=0);rfl;rfl;exact h00)|(apply OQ.move;rfl)|(apply OQ.assign;rfl)) rfl ?_|refine JC.seq ?_|refine JC.region ?_|refine JL.nil ?_|refine JE.next ?_));exact ω.1):A:=h ⟨k⟩
def Y193(h:YW B->A:=by intro ω;(repeat(first|refine JL.q (by first|(apply OQ.fh (a:=(e:Int)) (b:=0);rfl;rfl;exact hne)|(apply OQ.move;rfl)|(apply OQ.assign;rfl)) rfl ?_|refine JC.seq ?_|refine JC.region ?_|refine JL.nil ?_|refine JE.next ?_));exact ω.1):A:=h ⟨k⟩
def Y194(h:YW B->A:=by intro ω;(repeat(first|refine JL.q (by first|(apply OQ.fh (a:=((0:Nat):Int)) (b:=0);rfl;rfl;exact h00)|(apply OQ.move;rfl)|(apply OQ.assign;rfl)) rfl ?_|refine JC.seq ?_|refine JC.region ?_|refine JL.nil ?_|refine JE.next ?_));exact ω.1):A:=h ⟨k⟩
def Y195(h:YW B->A:=by intro ω;(repeat(first|refine JL.q (by first|(apply OQ.aF (cs:=[f.v,s.v]);exact c7;exact aZ;rfl;exact(.there .here);rfl;exact Row.all)|(apply OQ.assign;rfl)) rfl ?_|refine JC.seq ?_|refine JC.region ?_|refine JL.nil ?_|refine JE.next ?_));exact ω.1):A:=h ⟨k⟩
def Y196(h:YW B->A:=by intro ω;(first|refine JC.seq ?_|refine JC.region ?_|refine JC.skip ?_|refine JL.nil ?_|refine JE.next ?_);exact ω.1):A:=h ⟨k⟩
def Y197(h:YW B->A:=by intro ω;(first|refine JC.seq ?_|refine JC.region ?_|refine JC.skip ?_|refine JE.next ?_);exact ω.1):A:=h ⟨k⟩
def Y198(h:YW B->A:=by intro ω;(first|refine JL.q (by first|(apply OQ.av;rfl;rfl)|(apply OQ.move;rfl)|(apply OQ.assign;rfl)) rfl ?_|refine JC.seq ?_|refine JC.region ?_|refine JC.block ?_|refine JC.skip ?_|refine JL.nil ?_|refine JE.next ?_);exact ω.1):A:=h ⟨k⟩
def Y199(h:YW B->A:=by intro ω;(repeat(first|refine JL.q (by first|(apply i0;rfl;rfl)|(apply OQ.move;rfl)|(apply OQ.assign;rfl)) rfl ?_|refine JC.region ?_|refine JL.nil ?_|refine JE.next ?_));exact ω.1):A:=h ⟨k⟩
def Y200(h:YW B->A:=by intro ω;(first|refine JL.q (by first|(apply OQ.az;rfl;rfl)|(apply OQ.move;rfl)|(apply OQ.assign;rfl)) rfl ?_|refine JC.seq ?_|refine JC.region ?_|refine JC.block ?_|refine JC.skip ?_|refine JL.nil ?_|refine JE.next ?_);exact ω.1):A:=h ⟨k⟩
def Y201(h:YW B->A:=by intro ω;(first|refine JL.q (by first|(apply OQ.not;rfl)|(apply OQ.av;rfl;rfl)|(apply OQ.move;rfl)|(apply OQ.assign;rfl)) rfl ?_|refine JC.seq ?_|refine JC.region ?_|refine JL.nil ?_|refine JE.next ?_);exact ω.1):A:=h ⟨k⟩
def Y202(h:YW B->A:=by intro ω;(repeat(first|refine JL.q (by first|(apply OQ.len;exact Tryz.underlying56;rfl)|(apply OQ.move;rfl)|(apply OQ.assign;rfl)) rfl ?_|refine JC.seq ?_|refine JC.region ?_|refine JC.block ?_|refine JL.nil ?_|refine JE.next ?_));exact ω.1):A:=h ⟨k⟩
def Y203(h:YW B->A:=by intro ω;(first|refine JL.q (by first|(apply OQ.not;rfl)|(apply OQ.av;rfl;rfl)|(apply OQ.move;rfl)|(apply OQ.dm;rfl;rfl;rfl;exact(by decide);rfl)) rfl ?_|refine JC.seq ?_|refine JC.region ?_|refine JL.nil ?_|refine JE.next ?_);exact ω.1):A:=h ⟨k⟩
def Y204(h:YW B->A:=by intro ω;(first|refine JL.q (by first|(apply OQ.assign;rfl)|(apply OQ.dm;rfl;rfl;rfl;exact(by decide);rfl)) rfl ?_|refine JC.seq ?_|refine JC.region ?_|refine JC.block ?_|refine JL.nil ?_|refine JE.next ?_);exact ω.1):A:=h ⟨k⟩
def Y205(h:YW B->A:=by intro ω;(first|refine JL.q (by(apply OQ.dm;rfl;rfl;rfl;exact(by decide);rfl)) rfl ?_|refine JC.seq ?_|refine JC.region ?_);exact ω.1):A:=h ⟨k⟩
def Y206(h:YW B->A:=by intro ω;(first|refine JL.q (by first|(apply OQ.len;exact Tryz.underlying57;rfl)|(apply OQ.az;rfl;rfl)|(apply OQ.av;rfl;rfl)|(apply OQ.not;rfl)|(apply OQ.move;rfl)|(apply OQ.assign;rfl)|(apply OQ.dm;rfl;rfl;rfl;exact(by decide);rfl)) rfl ?_|refine JC.seq ?_|refine JC.region ?_|refine JL.nil ?_|refine JE.next ?_);exact ω.1):A:=h ⟨k⟩
def Y207(h:YW B->A:=by intro ω;(first|refine JL.q (by first|(apply OQ.len;exact Tryz.underlying57;rfl)|(apply OQ.av;rfl;rfl)|(apply OQ.not;rfl)|(apply OQ.len;exact Tryz.underlying22;rfl)|(apply OQ.move;rfl)|(apply OQ.assign;rfl)|(apply OQ.dm;rfl;rfl;rfl;exact(by decide);rfl)) rfl ?_|refine JC.seq ?_|refine JC.region ?_|refine JL.nil ?_|refine JE.next ?_);exact ω.1):A:=h ⟨k⟩
def Y208(h:YW B->A:=by intro ω;(first|refine JL.q (by first|(apply OQ.extract;rfl;rfl)|(apply OQ.move;rfl)|(apply OQ.assign;rfl)|(apply OQ.dm;rfl;rfl;rfl;exact(by decide);rfl)) rfl ?_|refine JC.seq ?_|refine JC.region ?_|refine JL.nil ?_|refine JE.next ?_);exact ω.1):A:=h ⟨k⟩
def Y209(h:YW B->A:=by intro ω;(repeat(first|refine JL.q (by first|(apply iL)|(apply OQ.move;rfl)) rfl ?_|refine JC.seq ?_|refine JC.region ?_));exact ω.1):A:=h ⟨k⟩
def Y210(h:YW B->A:=by intro ω;(repeat(first|refine JL.q (by first|(apply OQ.aF (cs:=[Z p.kind,ps.v,.int .i64 p.code,body.v,.slice ad p.parts.length cap]);exact gx;exact iE;rfl;exact(.there .here);rfl;exact Row.all)|(apply OQ.ai (vs:=[.agg #[Z p.kind,ps.v,.int .i64 p.code,body.v,.slice ad p.parts.length cap]]);exact lI;rfl;exact(fun w' _=>ch w'))) rfl ?_|refine JC.seq ?_|refine JC.region ?_|refine JL.nil ?_|refine JE.next ?_));exact ω.1):A:=h ⟨k⟩
def Y211(h:YW B->A:=by intro ω;(first|refine JL.q (by first|(apply OQ.extract;rfl;rfl)|(apply OQ.not;rfl)|(apply OQ.len;exact Tryz.underlying57;rfl)|(apply OQ.av;rfl;rfl)|(apply OQ.move;rfl)|(apply OQ.assign;rfl)|(apply OQ.dm;rfl;rfl;rfl;exact(by decide);rfl)) rfl ?_|refine JC.seq ?_|refine JC.region ?_|refine JL.nil ?_|refine JE.next ?_);exact ω.1):A:=h ⟨k⟩
def Y212(h:YW B->A:=by intro ω;(repeat(first|refine JL.q (by(apply iL)) rfl ?_|refine JC.seq ?_|refine JC.region ?_));exact ω.1):A:=h ⟨k⟩
def Y213(h:YW B->A:=by intro ω;(first|refine JC.region ?_|refine JL.nil ?_|refine JE.next ?_);exact ω.1):A:=h ⟨k⟩
def Y214(h:YW B->A:=by intro ω;(first|refine JL.q (by first|(apply OQ.len;exact Tryz.underlying22;rfl)|(apply OQ.assign;rfl)|(apply OQ.dm;rfl;rfl;rfl;exact(by decide);rfl)) rfl ?_|refine JC.seq ?_|refine JC.region ?_|refine JL.nil ?_|refine JE.next ?_);exact ω.1):A:=h ⟨k⟩
def Y215(h:YW B->A:=by intro ω;(repeat(first|refine JL.q (by(apply OQ.dm;rfl;rfl;rfl;exact(by decide);rfl)) rfl ?_|refine JC.seq ?_|refine JC.region ?_));exact ω.1):A:=h ⟨k⟩
def Y216(h:YW B->A:=by intro ω;(first|refine JL.q (by first|(apply OQ.len;exact Tryz.underlying22;rfl)|(apply OQ.av;rfl;rfl)|(apply OQ.move;rfl)|(apply OQ.assign;rfl)|(apply OQ.dm;rfl;rfl;rfl;exact(by decide);rfl)) rfl ?_|refine JC.seq ?_|refine JC.region ?_|refine JL.nil ?_|refine JE.next ?_);exact ω.1):A:=h ⟨k⟩
def Y217(h:YW B->A:=by intro ω;(first|refine JL.q (by first|(apply OQ.not;rfl)|(apply OQ.av;rfl;rfl)|(apply OQ.move;rfl)|(apply OQ.dm;rfl;rfl;rfl;exact(by decide);rfl)) rfl ?_|refine JC.seq ?_|refine JC.region ?_|refine JC.block ?_|refine JC.skip ?_|refine JL.nil ?_|refine JE.next ?_);exact ω.1):A:=h ⟨k⟩
def Y218(h:YW B->A:=by intro ω;(repeat(first|refine JL.q (by first|(apply OQ.assign;rfl)|(apply OQ.dm;rfl;rfl;rfl;exact(by decide);rfl)) rfl ?_|refine JC.seq ?_|refine JC.region ?_|refine JL.nil ?_|refine JE.next ?_));exact ω.1):A:=h ⟨k⟩
def Y219(h:YW B->A:=by intro ω;(first|refine JL.q (by first|(apply OQ.not;rfl)|(apply OQ.assign;rfl)|(apply OQ.dm;rfl;rfl;rfl;exact(by decide);rfl)) rfl ?_|refine JC.seq ?_|refine JC.region ?_|refine JL.nil ?_|refine JE.next ?_);exact ω.1):A:=h ⟨k⟩
def Y220(h:YW B->A:=by intro ω;(first|refine JL.q (by(apply OQ.dm;rfl;rfl;rfl;exact(by decide);rfl)) rfl ?_|refine JC.seq ?_|refine JC.region ?_|refine JC.skip ?_|refine JE.next ?_);exact ω.1):A:=h ⟨k⟩
def Y221(h:YW B->A:=by intro ω;(repeat(first|refine JL.q (by(apply OQ.aF (cs:=[y.f.v,y.s.v]);exact c7;exact aZ;rfl;exact .here;rfl;exact Row.all)) rfl ?_|refine JC.seq ?_|refine JC.region ?_|refine JC.skip ?_|refine JE.next ?_));exact ω.1):A:=h ⟨k⟩
def Y222(h:YW B->A:=by intro ω;(first|refine JL.q (by first|(apply OQ.move;rfl)|(apply OQ.dm;rfl;rfl;rfl;exact(by decide);rfl)) rfl ?_|refine JC.seq ?_|refine JC.region ?_|refine JL.nil ?_|refine JE.next ?_);exact ω.1):A:=h ⟨k⟩
def Y223(h:YW B->A:=by intro ω;(repeat(first|refine JL.q (by(apply OQ.not;rfl)) rfl ?_|refine JL.nil ?_|refine JE.next ?_));exact ω.1):A:=h ⟨k⟩
def Y224(h:YW B->A:=by intro ω;(first|refine JL.q (by first|(apply OQ.len;exact Tryz.underlying22;rfl)|(apply OQ.dm;rfl;rfl;rfl;exact(by decide);rfl)) rfl ?_|refine JC.seq ?_|refine JC.region ?_|refine JL.nil ?_|refine JE.next ?_);exact ω.1):A:=h ⟨k⟩
def Y225(h:YW B->A:=by intro ω;(first|refine JL.q (by first|(apply OQ.extract;rfl;rfl)|(apply OQ.len;exact Tryz.underlying96;rfl)|(apply OQ.av;rfl;rfl)|(apply OQ.move;rfl)|(apply OQ.assign;rfl)) rfl ?_|refine JC.seq ?_|refine JC.region ?_|refine JL.nil ?_|refine JE.next ?_);exact ω.1):A:=h ⟨k⟩
def Y226(h:YW B->A:=by intro ω;(first|refine JL.q (by first|(apply OQ.extract;rfl;rfl)|(apply OQ.len;exact Tryz.underlying22;rfl)|(apply OQ.az;rfl;rfl)|(apply OQ.move;rfl)|(apply OQ.assign;rfl)) rfl ?_|refine JC.seq ?_|refine JC.region ?_|refine JL.nil ?_|refine JE.next ?_);exact ω.1):A:=h ⟨k⟩
def Y227(h:YW B->A:=by intro ω;(first|refine JL.q (by first|(apply OQ.extract;rfl;rfl)|(apply OQ.move;rfl)|(apply OQ.dm;rfl;rfl;rfl;exact(by decide);rfl)) rfl ?_|refine JC.seq ?_|refine JC.region ?_|refine JL.nil ?_|refine JE.next ?_);exact ω.1):A:=h ⟨k⟩
def Y228(h:YW B->A:=by intro ω;(first|refine JL.q (by first|(apply OQ.len;exact Tryz.underlying57;rfl)|(apply OQ.av;rfl;rfl)|(apply OQ.move;rfl)|(apply OQ.assign;rfl)|(apply OQ.dm;rfl;rfl;rfl;exact(by decide);rfl)) rfl ?_|refine JC.seq ?_|refine JC.region ?_|refine JL.nil ?_|refine JE.next ?_);exact ω.1):A:=h ⟨k⟩
def Y229(h:YW B->A:=by intro ω;(first|refine JL.q (by first|(apply OQ.not;rfl)|(apply OQ.av;rfl;rfl)) rfl ?_|refine JL.nil ?_|refine JE.next ?_);exact ω.1):A:=h ⟨k⟩
def Y230(h:YW B->A:=by intro ω;(repeat(first|refine JL.q (by first|(apply OQ.load;exact bS;rfl;exact .here;exact(Row.cell (v:=Z p.kind) rfl))|(apply OQ.fR (l:=p.kind) (r:=mL);rfl;rfl;exact g1)|(apply OQ.assign;rfl)|(apply OQ.dm;rfl;rfl;rfl;exact(by decide);rfl)) rfl ?_|refine JC.seq ?_|refine JC.region ?_|refine JC.block ?_|refine JL.nil ?_|refine JE.next ?_));exact ω.1):A:=h ⟨k⟩
def Y231(h:YW B->A:=by intro ω;(repeat(first|refine JL.q (by(apply OQ.qP)) rfl ?_|refine JC.seq ?_|refine JC.region ?_));exact ω.1):A:=h ⟨k⟩
def Y232(h:YW B->A:=by intro ω;(first|refine JL.q (by first|(apply OQ.len;exact Tryz.underlying22;rfl)|(apply OQ.move;rfl)) rfl ?_|refine JC.seq ?_|refine JC.region ?_|refine JC.skip ?_|refine JL.nil ?_|refine JE.next ?_);exact ω.1):A:=h ⟨k⟩
def Y233(h:A:=by exact hs _ (by omega)):A:=h
def Y234(h:A:=by exact .inr ⟨by simp[he],fun h=>hn.1 (h▸List.mem_map_of_mem he)⟩):A:=h
def Y235(h:A:=by exact⟨e',by simp[h1],h2⟩):A:=h
def Y236(h:A:=by exact⟨e₂,a₂,w₂,hq₂,.of_steps (Steps.trans harr (.one step_inLoop)) harr₂⟩):A:=h
def Y237(h:A:=by exact⟨_,_,_,rfl,fun i hi=>by simp[List.getElem?_append_left hi]⟩):A:=h
def Y238(h:A:=by exact cell_of ho (by simpa [cellAt,List.getElem?_append_left hu'] using hv)):A:=h
def Y239(h:A:=by exact⟨hI.vals _ _ h1 h2,hne _ _ h1 h2⟩):A:=h
def Y240(h:A:=by exact hmem p (List.mem_append_right _ (List.mem_append_right _ (List.mem_append_right _ (List.mem_append_right _ (List.mem_append_right _ (hEF1 j hjl hjd.2 p hp))))))):A:=h
def Y241(h:A:=by exact⟨by show l.length<=cap;omega,Reads.block ho hh⟩):A:=h
def Y242(h:A:=by exact Reads.block ho (Row.all _ hA)):A:=h
def Y243(h:A:=by exact⟨fun a w ha hw=>(kk bl b' cap').go a w ha (hw.weak (.drop _ _ _ (aj.refl _)))⟩):A:=h
def Y244(h:A:=by exact JC.ret (JE.aK rfl (RV.tmp rfl) fun w' hw=>⟨rfl,hw.aH⟩)):A:=h
def Y245(h:YW B->A:=by intro ω;refine JC.cond rfl (fun h=>by cases h) (fun _=>?_);exact ω.1):A:=h ⟨k⟩
def Y246(h:YW B->A:=by intro ω;refine JC.cond rfl (fun _=>?_) (fun h=>by cases h);exact ω.1):A:=h ⟨k⟩
def Y247(h:YW B->A:=by intro ω;refine JC.ret ?_;exact ω.1):A:=h ⟨k⟩
def Y248(h:A:=by exact JE.aK rfl (RV.tmp rfl) fun w' hw=>⟨rfl,hw.aH⟩):A:=h
def Y249(h:YW B->A:=by intro ω;refine JC.cond_true rfl (decide_eq_true (Nat.zero_le _)) ?_;exact ω.1):A:=h ⟨k⟩
def Y250(h:YW B->A:=by intro ω;(repeat(refine JE.ag ?_));exact ω.1):A:=h ⟨k⟩
def Y251(h:A:=by exact JE.eJ rfl (RV.tmp rfl) (RV.tmp rfl) (RV.tmp rfl) fun w' hw=>⟨rfl,hw.aH⟩):A:=h
def Y252(h:YW B->A:=by intro ω;refine JC.cond_false rfl rfl ?_;exact ω.1):A:=h ⟨k⟩
def Y253(h:A:=by exact JC.ret (JE.eJ rfl (RV.tmp rfl) (RV.tmp rfl) (RV.tmp rfl) fun w' hw=>⟨rfl,hw.aH⟩)):A:=h
def Y254(h:A:=by exact⟨fun _=>rfl,fun h=>absurd rfl h⟩):A:=h
def Y255(h:A:=by exact decide_eq_decide.2 (by omega)):A:=h
def Y256(h:A:=by exact JE.again (i:=i) (i+1) ⟨hi',hx⟩ (by omega) (by repeat(first|exact af.nil|refine af.cons _ _ _ rfl ?_)) (aj.refl _)):A:=h
def Y257(h:A:=by exact JE.again (i:=i) (i+1) ⟨hi',by omega⟩ (by omega) (by repeat(first|exact af.nil|refine af.cons _ _ _ rfl ?_)) (aj.refl _)):A:=h
def Y258(h:YW B->A:=by intro ω;(repeat(refine JL.q (by(apply OQ.assign;rfl)) rfl ?_));exact ω.1):A:=h ⟨k⟩
def Y259(h:A:=by exact JE.aV rfl (RV.tmp rfl) (RV.tmp rfl) fun w' hw=>⟨rfl,hw.aH⟩):A:=h
def Y260(h:A:=by exact JL.q (OQ.assign rfl) rfl (JL.nil (kk (x 4) (fun k h=>by cases h;rfl)))):A:=h
def Y261(h:A:=by exact JC.ret (JE.aV rfl (RV.tmp rfl) (RV.tmp rfl) fun w' hw=>⟨rfl,hw.aH⟩)):A:=h
def Y262(h:A:=by exact JE.mid () trivial (by repeat(first|exact af.nil|refine af.cons _ _ _ rfl ?_)) (aj.refl _)):A:=h
def Y263(h:A:=by exact JE.again (i:=i) (i+1) ⟨hi',by rw[hx];exact congrArg not h1⟩ (by omega) (by repeat(first|exact af.nil|refine af.cons _ _ _ rfl ?_)) (aj.refl _)):A:=h
def Y264(h:A:=by exact JE.again (i:=i) (i+1) ⟨hi',hall⟩ (by omega) (by repeat(first|exact af.nil|refine af.cons _ _ _ rfl ?_)) (aj.refl _)):A:=h
def Y265(h:YW B->A:=by intro ω;refine JE.aV rfl (RV.tmp rfl) (RV.tmp rfl) ?_;exact ω.1):A:=h ⟨k⟩
def Y266(h:A:=by exact fun w' hw=>⟨rfl,hw.aH⟩):A:=h
def Y267(h:YW B->A:=by intro ω;refine JC.quiet oL (by kernel_rfl) ?_;exact ω.1):A:=h ⟨k⟩
def Y268(h:A:=by exact JE.again (i:=i) (i+1) ⟨hi',hx (of_decide_eq_true h1)⟩ (by omega) (by repeat(first|exact af.nil|refine af.cons _ _ _ rfl ?_)) (aj.refl _)):A:=h
def Y269(h:A:=by exact(by repeat(first|exact af.nil|refine af.cons _ _ _ rfl ?_))):A:=h
def Y270(h:YW B->A:=by intro ω;refine OQ.run fun k hk w _=>?_;exact ω.1):A:=h ⟨k⟩
def Y271(h:YW B->A:=by intro ω;refine JC.cond_true rfl rfl ?_;exact ω.1):A:=h ⟨k⟩
def Y272(h:YW B->A:=by intro ω;refine FL.q (OQ.move rfl) rfl rfl ?_;exact ω.1):A:=h ⟨k⟩
def Y273(h:YW B->A:=by intro ω;refine FL.q (OQ.to (OQ.aY (a:=dw s.l k) (b:=dw s.l (k+1)-dw s.l k) rfl rfl (by omega)) (congrArg N hsum)) rfl rfl ?_;exact ω.1):A:=h ⟨k⟩
def Y274(h:A:=by exact JE.again (i:=m+1) m ⟨by omega,hc⟩ (by omega) (by repeat(first|exact af.nil|refine af.cons _ _ _ rfl ?_)) (aj.refl _)):A:=h
def Y275(h:A:=by exact JE.aV rfl (RV.tmp rfl) (RV.tmp rfl) fun w' hw=>⟨B1.nil,rfl,Sl.aa.base hx1 (Sl.aa.weak hw (.nil _))⟩):A:=h
def Y276(h:A:=by exact⟨⟨none,[],rfl,fun _=>rfl,by simp⟩,rfl,hw.weak (.nil _)⟩):A:=h
def Y277(h:YW B->A:=by intro ω;refine JR.cond rfl (fun h=>by cases h) (fun _=>?_);exact ω.1):A:=h ⟨k⟩
def Y278(h:YW B->A:=by intro ω;refine JE.perm (M':=KR s bd be b2 b4 b5 b6 b7 b8 b9 b10 ⟨none,q,[]⟩) (List.perm_middle (l₁:=NK s be b9 b10 ⟨none,q,[]⟩)).symm ?_;exact ω.1):A:=h ⟨k⟩
def Y279(h:A:=by exact JE.vI ⟨none,q,[]⟩ ⟨yc hat hsc (by rw[hm];decide),fun _=>rfl,by simp,Nat.zero_le _⟩ (aj.refl _)):A:=h
def Y280(h:YW B->A:=by intro ω;refine JL.aP (v:=.bool true) (r':=[.bool true]) Q9 rfl rfl rfl rfl (by repeat(first|exact ki.here|apply ki.there)) (by decide) rfl ?_;exact ω.1):A:=h ⟨k⟩
def Y281(h:YW B->A:=by intro ω;refine JL.aP (v:=N (dw s.l (k+1))) (r':=[N (dw s.l (k+1))]) FZ rfl rfl rfl rfl (by repeat(first|exact ki.here|apply ki.there)) (by simp) rfl ?_;exact ω.1):A:=h ⟨k⟩
def Y282(h:A:=by exact JL.nil (JE.less (bI (.drop _ _ _ (aj.refl _)) _) (kk ((z 7).1,q',0) (fun k h=>by cases h;exact⟨rfl,fun h=>by have:=hq' h;simp at this⟩)))):A:=h
def Y283(h:YW B->A:=by intro ω;refine JL.ax (cs:=pc ([],[])) bX rfl rfl rfl rfl .here rfl ?_;exact ω.1):A:=h ⟨k⟩
def Y284(h:A:=by exact JE.eJ rfl (RV.aT gG bX rfl .here rfl Row.all) (RV.tmp rfl) (RV.tmp rfl) fun w' hw=>⟨⟨aB,fun w1 _=>dN w1,fun p hp=>by cases hp⟩,rfl,hw.aH⟩):A:=h
def Y285(h:YW B->A:=by intro ω;(repeat(refine JL.q (by first|(apply OQ.extract;rfl;rfl)|(apply OQ.move;rfl)) rfl ?_));exact ω.1):A:=h ⟨k⟩
def Y286(h:YW B->A:=by intro ω;refine JL.alloc (r:=[.slice none 0 0]) (by kernel_rfl) rfl fun tb _=>?_;exact ω.1):A:=h ⟨k⟩
def Y287(h:A:=by exact .inr ⟨_,(by repeat(first|exact Has.here|apply Has.there))⟩):A:=h
def Y288(h:A:=by exact⟨q,rfl,hw'.KH (by repeat(first|exact aR.here|apply aR.there)) h2⟩):A:=h
def Y289(h:YW B->A:=by intro ω;refine JL.bD (ι:={ x:ay // iP x (bC s.l) }) (fun x=>x.1.v) (fun x=>x.1.an) qH rfl rfl (fun x=>x.1.bH) (fun w' hw'=>(sY s w' (hs.holds hw' rfl) (by omega)).mono fun e w2 ⟨x,h1,h2,h3⟩=>⟨⟨x,h2⟩,h1,h3⟩) ?_;exact ω.1):A:=h ⟨k⟩
def Y290(h:A:=by exact hw'.FN (.keep _ _ _ _ _ _ _ (fun _ h=>h) (by simp) (.keep _ _ _ _ _ _ _ (fun _ h=>h) (by simp) (j6.refl _)))):A:=h
def Y291(h:A:=by exact⟨_,by rw[gb _ _ _ _ (by rintro⟨k,_⟩;cases k),if_neg (by decide),if_pos ⟨rfl,rfl⟩]⟩):A:=h
def Y292(h:A:=by exact fun w' hw=>⟨Dv,rfl,hw.aH,qi _,rfl⟩):A:=h
def Y293(h:YW B->A:=by intro ω;refine JL.ax (cs:=pc ([],[])) lH rfl rfl rfl rfl (.there .here) rfl ?_;exact ω.1):A:=h ⟨k⟩
def Y294(h:A:=by exact JE.eJ rfl (RV.aT (cs:=pc ([],[])) BF lH rfl (.there .here) rfl Row.all) (RV.tmp rfl) (RV.tmp rfl) fun w' hw=>⟨rfl,hw.aH⟩):A:=h
def Y295(h:YW B->A:=by intro ω;refine JE.eJ rfl (RV.tmp rfl) (RV.tmp rfl) (RV.tmp rfl) ?_;exact ω.1):A:=h ⟨k⟩
def Y296(h:A:=by exact fun w' hw=>⟨⟨bV,rfl,fun _=>rfl⟩,rfl,Sl.aa.weak hw (.nil _)⟩):A:=h
def Y297(h:A:=by exact JE.aV rfl (RV.tmp rfl) (RV.tmp rfl) fun w' hw=>⟨PL.err,rfl,hw.weak (.nil _)⟩):A:=h
def Y298(h:YW B->A:=by intro ω;refine JL.ax (cs:=[y.f.v,y.s.v]) aZ rfl rfl rfl rfl .here rfl ?_;exact ω.1):A:=h ⟨k⟩
def Y299(h:A:=by exact Sl.aa.weak hw' (.drop _ _ _ (aj.refl _))):A:=h
def Y300(h:YW B->A:=by intro ω;refine JL.ax (cs:=pz) iE rfl rfl rfl rfl (.there .here) rfl ?_;exact ω.1):A:=h ⟨k⟩
def Y301(h:A:=by exact JE.aV rfl (RV.aT gx iE rfl (.there .here) rfl Row.all) (RV.tmp rfl) fun w' hw=>⟨PA.err,rfl,hw.weak (.nil _)⟩):A:=h
def Y302(h:YW B->A:=by intro ω;(repeat(refine JL.q (by first|(apply OQ.extract;rfl;rfl)|(apply OQ.move;rfl)|(apply OQ.dm;rfl;rfl;rfl;exact(by decide);rfl)) rfl ?_));exact ω.1):A:=h ⟨k⟩
def Y303(h:YW B->A:=by intro ω;(repeat(refine JL.q (by(apply OQ.dm;rfl;rfl;rfl;exact(by decide);rfl)) rfl ?_));exact ω.1):A:=h ⟨k⟩
def Y304(h:A:=by exact JE.aV rfl (RV.tmp rfl) (RV.tmp rfl) fun w' hw=>⟨⟨aB,⟨rfl,fun _=>rfl⟩⟩,rfl,hw.weak (.nil _)⟩):A:=h
def Y305(h:YW B->A:=by intro ω;refine JL.ax (cs:=[x.f.v,x.s.v]) aZ rfl rfl rfl rfl .here rfl ?_;exact ω.1):A:=h ⟨k⟩
def Y306(h:YW B->A:=by intro ω;refine JL.alloc iB rfl fun b4 _=>?_;exact ω.1):A:=h ⟨k⟩
def Y307(h:YW B->A:=by intro ω;refine JL.ax (cs:=[bV.v,aB.v]) aZ rfl rfl rfl rfl .here rfl ?_;exact ω.1):A:=h ⟨k⟩
def Y308(h:A:=by exact JE.eJ rfl (RV.aT c7 aZ rfl .here rfl Row.all) (RV.tmp rfl) (RV.tmp rfl) fun w' hw=>⟨WA.err,rfl,hw.weak (.nil _)⟩):A:=h
def Y309(h:YW B->A:=by intro ω;refine JL.w4 (cs:=pc (cF,W)) Tryz.underlying27 fN rfl (by decide) (by decide) rfl rfl rfl fun b5 _=>?_;exact ω.1):A:=h ⟨k⟩
def Y310(h:YW B->A:=by intro ω;refine JL.mark (r:=kq.map U8) (te:=5) Tryz.underlying22 Tryz.underlying5 rfl .here rfl ?_;exact ω.1):A:=h ⟨k⟩
def Y311(h:A:=by exact JE.aV rfl (RV.aT (cs:=[bV.v,aB.v]) c7 aZ rfl .here rfl Row.all) (RV.tmp rfl) fun w' hw=>⟨W2.err,rfl,hw.weak (.nil _)⟩):A:=h
def Y312(h:A:=by exact JE.aV rfl (RV.tmp rfl) (RV.tmp rfl) fun w' hw=>⟨⟨aB,rfl,fun _=>rfl⟩,rfl,Sl.aa.weak hw (.nil _)⟩):A:=h
def Y313(h:A:=by exact JE.aV rfl (RV.tmp rfl) (RV.tmp rfl) fun w' hw=>⟨rfl,hx1.trans hw.aH⟩):A:=h
def Y314(h:A:=by exact JE.aV rfl (RV.tmp rfl) (RV.tmp rfl) fun w' hw=>⟨x,rfl,hw.weak (bO _ _)⟩):A:=h
def Y315(h:A:=by exact JE.aV rfl (RV.tmp rfl) (RV.tmp rfl) fun w' hw=>⟨⟨aB,rfl⟩,rfl,hw.aH,dN _⟩):A:=h
def Y316(h:YW B->A:=by intro ω;refine JL.ax (cs:=mC.cs) oX rfl rfl rfl rfl (.there (.there .here)) rfl ?_;exact ω.1):A:=h ⟨k⟩
def Y317(h:A:=by exact JE.aV rfl (RV.aT (cs:=mC.cs) w9 oX rfl (.there (.there .here)) rfl Row.all) (RV.tmp rfl) fun w' hw=>⟨⟨mC,rfl⟩,rfl,pV.over hx1 hw.aH hSb,uf _⟩):A:=h
def Y318(h:A:=by exact JE.aK rfl (RV.tmp rfl) fun w' hw=>⟨rfl,hx1.trans hw.aH⟩):A:=h
def Y319(h:A:=by apply OQ.ep (a:=1) (b:=0);rfl;rfl;rfl):A:=h
def Y320(h:A:=by apply OQ.ai (vs:=[Z s,Z [c]]);exact sH;rfl;exact(fun w' _=>hq w')):A:=h
def Y321(h:A:=by apply OQ.gu;exact Tryz.underlying9;rfl;rfl;exact hle):A:=h
def Y322(h:A:=by apply OQ.bM;exact Tryz.underlying9;rfl):A:=h
def Y323(h:A:=by apply OQ.move;rfl):A:=h
def Y324(h:A:=by apply OQ.assign;rfl):A:=h
def Y325(h:A:=by apply OQ.dn (a:=-1) (b:=0);rfl;rfl;rfl):A:=h
def Y326(h:A:=by apply OQ.ai (vs:=[Z s,Z [c]]);exact xQ;rfl;exact(fun w' _=>hq w')):A:=h
def Y327(h:A:=by apply OQ.dn (b:=33);rfl;rfl;exact h1):A:=h
def Y328(h:A:=by apply OQ.fA (b:=126);rfl;rfl;exact h2):A:=h
def Y329(h:A:=by apply OQ.not;rfl):A:=h
def Y330(h:A:=by apply OQ.az;rfl;rfl):A:=h
def Y331(h:A:=by apply OQ.av;rfl;rfl):A:=h
def Y332(h:A:=by apply OQ.dB (vs:=[U8 c]);exact ng;rfl;exact cP;rfl):A:=h
def Y333(h:A:=by apply OQ.cZ (b:=0);rfl;rfl;exact h1):A:=h
def Y334(h:A:=by apply OQ.dn (b:=65);rfl;rfl;exact h1):A:=h
def Y335(h:A:=by apply OQ.fA (b:=90);rfl;rfl;exact h2):A:=h
def Y336(h:A:=by apply OQ.gj (b:=92);rfl;rfl;exact h92):A:=h
def Y337(h:A:=by apply OQ.aY;rfl;rfl;exact(by(try simp only[]);omega)):A:=h
def Y338(h:A:=by apply OQ.gh;rfl;rfl;exact(by(try simp only[]);omega);exact(by(try simp only[]);omega)):A:=h
def Y339(h:A:=by apply OQ.eV;exact Tryz.underlying9;rfl;rfl;exact hlm):A:=h
def Y340(h:A:=by apply OQ.ai (vs:=[Z (34::r)]);exact jh;rfl;exact(fun w' _=>cQ w')):A:=h
def Y341(h:A:=by apply OQ.ep (b:=0);rfl;rfl;exact hq):A:=h
def Y342(h:A:=by apply OQ.ai (vs:=[Z (40::r)]);exact qg;rfl;exact(fun w' _=>cC w')):A:=h
def Y343(h:A:=by apply OQ.wU (s:=⟨some ⟨b,0,none⟩,cap,o⟩);exact Tryz.underlying22;exact Tryz.underlying5;exact Tryz.underlying9;rfl;exact(fun w' hw'=>ku hw' .here)):A:=h
def Y344(h:A:=by apply OQ.dn (b:=1);rfl;rfl;exact h1):A:=h
def Y345(h:A:=by apply OQ.fR;rfl;rfl;exact h2):A:=h
def Y346(h:A:=by apply OQ.ai (vs:=[Z s,Z [c]]);exact Bx;rfl;exact(fun w' _=>hq w')):A:=h
def Y347(h:A:=by apply OQ.ai (vs:=[Z s,Z [c]]);exact Bz;rfl;exact(fun w' _=>hq w')):A:=h
def Y348(h:A:=by apply OQ.ai (vs:=[Z s,Z [c]]);exact BA;rfl;exact(fun w' _=>hq w')):A:=h
def Y349(h:A:=by apply OQ.ai (vs:=[Z s,Z [c]]);exact BC;rfl;exact(fun w' _=>hq w')):A:=h
def Y350(h:A:=by apply OQ.to;exact(OQ.Pq rfl rfl);exact(congrArg Value.bool g2)):A:=h
def Y351(h:A:=by apply OQ.cZ (b:=0);rfl;rfl;exact h0):A:=h
def Y352(h:A:=by apply OQ.ep (b:=32);rfl;rfl;exact h1):A:=h
def Y353(h:A:=by apply OQ.ep (b:=9);rfl;rfl;exact h2):A:=h
def Y354(h:A:=by apply OQ.fV;rfl;rfl;exact h0):A:=h
def Y355(h:A:=by apply OQ.pX;exact Tryz.underlying96;exact OL;rfl;rfl;exact hi'):A:=h
def Y356(h:A:=by apply OQ.load;exact ni;rfl;exact .here;exact(Row.cell hv)):A:=h
def Y357(h:A:=by apply OQ.ai (vs:=[Z x]);exact gF;rfl;exact(fun w' _=>cA w')):A:=h
def Y358(h:A:=by apply OQ.ai (vs:=[Z x,Z [32,9]]);exact ig;rfl;exact(fun w' _=>cT w')):A:=h
def Y359(h:A:=by apply OQ.ai (vs:=[Z t,Z [62]]);exact BD;rfl;exact(fun w' _=>cS w')):A:=h
def Y360(h:A:=by apply OQ.ai (vs:=[Z a,U8 60]);exact vc;rfl;exact(fun w' _=>cL w')):A:=h
def Y361(h:A:=by apply OQ.ai (vs:=[Z y,Z [64]]);exact eC;rfl;exact(fun w' _=>cC w')):A:=h
def Y362(h:A:=by apply OQ.ai (vs:=[Z who]);exact ez;rfl;exact(fun w' _=>c1 w')):A:=h
def Y363(h:A:=by apply OQ.ai (vs:=[Z whe]);exact ez;rfl;exact(fun w' _=>c2 w')):A:=h
def Y364(h:A:=by apply OQ.fH (l:=who) (r:=[64]);rfl;rfl;exact(by rw[List.length_singleton];omega)):A:=h
def Y365(h:A:=by apply OQ.ai (vs:=[Z whe]);exact mc;rfl;exact(fun w' _=>cL w')):A:=h
def Y366(h:A:=by apply OQ.fH (l:=who++[64]) (r:=whe.map small);rfl;rfl;exact(by rw[List.length_append,List.length_map,List.length_singleton];omega)):A:=h
def Y367(h:A:=by apply OQ.ai (vs:=[U8 c]);exact xX;rfl;exact(fun w' _=>cc w')):A:=h
def Y368(h:A:=by apply OQ.fH (l:=[45,45]) (r:=s);rfl;rfl;exact(by rw[e2];omega)):A:=h
def Y369(h:A:=by apply OQ.JH (b:=1);rfl;rfl;exact(by omega);exact(by omega)):A:=h
def Y370(h:A:=by apply OQ.fV (b:=0);rfl;rfl;exact hneg):A:=h
def Y371(h:A:=by apply OQ.ai (vs:=[Z s]);exact vm;rfl;exact(fun w' _=>cB w')):A:=h
def Y372(h:A:=by apply OQ.dn (b:=0);rfl;rfl;exact g0):A:=h
def Y373(h:A:=by apply OQ.eV (i:=j+1);exact Tryz.underlying9;rfl;rfl;exact hk):A:=h
def Y374(h:A:=by apply OQ.iD;exact Tryz.underlying56;exact lH;rfl;rfl;exact hi'):A:=h
def Y375(h:A:=by apply OQ.aI;exact bS;rfl;exact la;exact(by simp);exact ca1):A:=h
def Y376(h:A:=by apply OQ.aI;exact bS;rfl;exact la;exact(by simp);exact ca2):A:=h
def Y377(h:A:=by apply OQ.dm;rfl;rfl;rfl;exact(by decide);rfl):A:=h
def Y378(h:A:=by apply OQ.len;rfl;rfl):A:=h
def Y379(h:A:=by apply OQ.dz;exact Tryz.underlying22;exact dD;rfl;rfl;exact hi'):A:=h
def Y380(h:A:=by apply OQ.dB (vs:=[Z s]);exact sM;rfl;exact cS;exact h1):A:=h
def Y381(h:A:=by apply OQ.fh;rfl;rfl;exact h0):A:=h
def Y382(h:A:=by apply OQ.ai (vs:=[U8 c]);exact kF;rfl;exact(fun w' _=>mh c w')):A:=h
def Y383(h:A:=by apply OQ.ai (vs:=[U8 d]);exact kF;rfl;exact(fun w' _=>mh d w')):A:=h
def Y384(h:A:=by apply OQ.ai (vs:=[Z s,Z [32,9]]);exact ij;rfl;exact(fun w' _=>cT w')):A:=h
def Y385(h:A:=by apply OQ.ai (vs:=[Z t,Z [32,9]]);exact uW;rfl;exact(fun w' _=>cI w')):A:=h
def Y386(h:A:=by apply OQ.len;exact Tryz.underlying27;rfl):A:=h
def Y387(h:A:=by apply OQ.dR;rfl;rfl):A:=h
def Y388(h:A:=by apply OQ.iD;exact Tryz.underlying27;exact bX;rfl;rfl;exact hi'):A:=h
def Y389(h:A:=by apply OQ.iD;exact Tryz.underlying27;exact bX;rfl;rfl;exact hi2):A:=h
def Y390(h:A:=by apply OQ.bE (cs:=pc p);exact gG;rfl;exact bX;exact la;exact(by simp);exact cA):A:=h
def Y391(h:A:=by apply OQ.bE (cs:=pc q);exact gG;rfl;exact bX;exact lb;exact(by simp);exact cB):A:=h
def Y392(h:A:=by apply OQ.load;exact bS;rfl;exact .here;exact(Row.cell (v:=Z v) rfl)):A:=h
def Y393(h:A:=by apply OQ.load;exact bS;rfl;exact .here;exact(Row.cell (v:=Z n) rfl)):A:=h
def Y394(h:A:=by apply OQ.bE (cs:=vu);exact TX;rfl;exact TY;exact hE.lt;exact(by simp);exact hE.cell):A:=h
def Y395(h:A:=by apply OQ.Kn (cs:=vu);exact To;exact SO;exact TZ;rfl;rfl;exact hi';exact(FB hi')):A:=h
def Y396(h:A:=by apply OQ.load;exact bS;rfl;exact .here;exact(Row.cell (v:=Z (oW.getD i [])) rfl)):A:=h
def Y397(h:A:=by apply OQ.ai (vs:=[Z (oW.getD i []),Z c]);exact oV;rfl;exact(fun w' _=>cs w')):A:=h
def Y398(h:A:=by apply OQ.load;exact Km;rfl;exact .here;exact(Row.cell (v:=.int .i64 (qo.getD i 0)) rfl)):A:=h
def Y399(h:A:=by apply OQ.load;exact IV;rfl;exact .here;exact(Row.cell (v:=ps.v) rfl)):A:=h
def Y400(h:A:=by apply OQ.iD;exact Tryz.underlying56;exact Mp;rfl;rfl;exact hi'):A:=h
def Y401(h:A:=by apply OQ.load;exact bS;rfl;exact .here;exact(Row.cell (v:=Z pr.1) rfl)):A:=h
def Y402(h:A:=by apply OQ.load;exact bS;rfl;exact .here;exact(Row.cell (v:=Z e.fr) rfl)):A:=h
def Y403(h:A:=by apply OQ.load;exact bS;rfl;exact .here;exact(Row.cell (v:=Z e.to) rfl)):A:=h
def Y404(h:A:=by apply OQ.load;exact bS;rfl;exact .here;exact(Row.cell (v:=Z e.id) rfl)):A:=h
def Y405(h:A:=by apply OQ.load;exact bS;rfl;exact .here;exact(Row.cell (v:=Z e.th) rfl)):A:=h
def Y406(h:A:=by apply OQ.len;exact Tryz.underlying22;rfl):A:=h
def Y407(h:A:=by apply OQ.aI;exact mM;rfl;exact(block_lt_of_cell hc);exact(by simp);exact hc):A:=h
def Y408(h:A:=by apply OQ.uT;exact hF;rfl;rfl;exact h1):A:=h
def Y409(h:A:=by apply OQ.fR (r:=[]);rfl;rfl;exact h1):A:=h
def Y410(h:A:=by apply OQ.ai (vs:=[Z s]);exact oS;rfl;exact(fun w' _=>ca w')):A:=h
def Y411(h:A:=by apply OQ.ep (a:=(k:Int)) (b:=0);rfl;rfl;exact h1):A:=h
def Y412(h:A:=by apply OQ.load;exact bS;rfl;exact(.there .here);exact(Row.cell (v:=Z e.fr) rfl)):A:=h
def Y413(h:A:=by apply OQ.load;exact bS;rfl;exact(.there .here);exact(Row.cell (v:=Z e.to) rfl)):A:=h
def Y414(h:A:=by apply OQ.load;exact bS;rfl;exact(.there .here);exact(Row.cell (v:=Z e.id) rfl)):A:=h
def Y415(h:A:=by apply OQ.load;exact bS;rfl;exact(.there .here);exact(Row.cell (v:=Z e.th) rfl)):A:=h
def Y416(h:A:=by apply OQ.load;exact jr;rfl;exact(.there .here);exact(Row.cell (v:=e.bu.v) rfl)):A:=h
def Y417(h:A:=by apply OQ.dn;rfl;rfl;exact h):A:=h
def Y418(h:A:=by apply OQ.fst (s:=s);exact Tryz.underlying22;exact dD;rfl;rfl;exact hle;exact hcap):A:=h
def Y419(h:A:=by apply OQ.ai (vs:=[s.v,.slice (some ⟨b,0,none⟩) 1 cap]);exact sR;rfl;exact hq):A:=h
def Y420(h:A:=by apply OQ.ai (vs:=[s.v,.slice (some ⟨b,0,none⟩) 1 cap]);exact qv;rfl;exact hq):A:=h
def Y421(h:A:=by apply OQ.gh (a:=k+1) (b:=1);rfl;rfl;exact(Nat.le_add_left _ _);exact hsz):A:=h
def Y422(h:A:=by apply OQ.dz (i:=k);exact Tryz.underlying22;exact dD;rfl;rfl;exact(Nat.lt_succ_self k)):A:=h
def Y423(h:A:=by apply OQ.aI;exact mM;rfl;exact(block_lt_of_cell hcc);exact(by simp);exact hcc):A:=h
def Y424(h:A:=by apply OQ.ai (vs:=[Pt b 0,U8 c]);exact yg;rfl;exact(fun w' hw'=>cb w' hw')):A:=h
def Y425(h:A:=by apply OQ.ep (a:=(s.l.length:Int)) (b:=0);rfl;rfl;exact h0):A:=h
def Y426(h:A:=by apply OQ.extract;rfl;rfl):A:=h
def Y427(h:A:=by apply OQ.ai (vs:=[s.v,.slice (some ⟨b,0,none⟩) 1 cap]);exact qv;rfl;exact(fun w' hw'=>hq w' hw')):A:=h
def Y428(h:A:=by apply OQ.ai (vs:=[s.v,.slice (some ⟨bl,0,none⟩) 1 1]);exact BR;rfl;exact hq):A:=h
def Y429(h:A:=by apply OQ.ep (b:=0);rfl;rfl;exact h0):A:=h
def Y430(h:A:=by apply OQ.GJ;rfl;rfl;exact(by(try simp only[]);omega)):A:=h
def Y431(h:A:=by apply OQ.dz;exact Tryz.underlying22;exact dD;rfl;rfl;exact hm1):A:=h
def Y432(h:A:=by apply OQ.aI (b:=ba) (j:=ja+m);exact mM;rfl;exact(block_lt_of_cell hcl);exact(by simp);exact hcl):A:=h
def Y433(h:A:=by apply OQ.xd (b:=32);rfl;rfl;exact h32):A:=h
def Y434(h:A:=by apply OQ.fst (s:=s);exact Tryz.underlying22;exact dD;rfl;rfl;exact hn;exact hcap):A:=h
def Y435(h:A:=by apply OQ.wU (s:=s.fst n);exact Tryz.underlying22;exact Tryz.underlying5;exact Tryz.underlying9;rfl;exact(fun w' hw'=>hfs.holds hw' rfl)):A:=h
def Y436(h:A:=by apply OQ.fH (l:=[45,45]) (r:=bd);rfl;rfl;exact(by simp only[List.length_cons,List.length_nil];omega)):A:=h
def Y437(h:A:=by apply OQ.fH (l:=45::45::bd) (r:=[45,45]);rfl;rfl;exact(by simp only[List.length_cons,List.length_nil];omega)):A:=h
def Y438(h:A:=by apply OQ.fR (r:=45::45::(bd++[45,45]));rfl;rfl;exact h2):A:=h
def Y439(h:A:=by apply OQ.pX;exact Tryz.underlying22;exact dD;rfl;rfl;exact hlt):A:=h
def Y440(h:A:=by apply OQ.load;exact mM;rfl;exact(.there .here);exact(Sl.Own.cell hcell)):A:=h
def Y441(h:A:=by apply OQ.dB (vs:=[Z bd]);exact sU;rfl;exact cb;exact hbd):A:=h
def Y442(h:A:=by apply OQ.ri;rfl;rfl;exact hlt'):A:=h
def Y443(h:A:=by apply OQ.dz;exact Tryz.underlying93;exact vM;rfl;rfl;exact hlt'):A:=h
def Y444(h:A:=by apply OQ.aI;exact nw;rfl;exact lL;exact(by simp);exact cL):A:=h
def Y445(h:A:=by apply OQ.ai (vs:=[(L.rs.getD i aB).v,Z bd]);exact gI;rfl;exact(fun w' hw'=>cm w' (hx.holds hw' rfl))):A:=h
def Y446(h:A:=by apply OQ.dz;exact Tryz.underlying93;exact vM;rfl;rfl;exact hkl'):A:=h
def Y447(h:A:=by apply OQ.ai (vs:=[(L.rs.getD k aB).v,Z bd]);exact gI;rfl;exact(fun w' hw'=>cm w' (hx.holds hw' rfl))):A:=h
def Y448(h:A:=by apply OQ.ep (a:=(k:Int)) (b:=(L.rs.length:Int));rfl;rfl;exact hq):A:=h
def Y449(h:A:=by apply OQ.dn (a:=(i:Int)) (b:=(L.rs.length:Int));rfl;rfl;exact(decide_eq_false (by omega))):A:=h
def Y450(h:A:=by apply OQ.dz;exact Tryz.underlying93;exact vM;rfl;rfl;exact hr):A:=h
def Y451(h:A:=by apply OQ.ai (vs:=[Z bd]);exact iy;rfl;exact(fun w' _=>cb w')):A:=h
def Y452(h:A:=by apply OQ.load;exact HB;rfl;exact h9;exact(Row.cell (v:=.bool false) rfl)):A:=h
def Y453(h:A:=by apply OQ.to;exact(OQ.aY (a:=dw s.l k) (b:=y.l.length) rfl rfl (by omega));exact(congrArg N hsum)):A:=h
def Y454(h:A:=by apply OQ.load;exact HB;rfl;exact h9;exact(Row.cell (v:=.bool true) rfl)):A:=h
def Y455(h:A:=by apply OQ.load;exact HB;rfl;exact(by repeat(first|exact Has.here|apply Has.there));exact(Row.cell (v:=.bool true) rfl)):A:=h
def Y456(h:A:=by apply OQ.iD;exact Tryz.underlying56;exact KU;rfl;rfl;exact hi'):A:=h
def Y457(h:A:=by apply OQ.ai (vs:=[s.v,.slice (some ⟨bl,0,none⟩) 1 1]);exact ye;rfl;exact hq):A:=h
def Y458(h:A:=by apply OQ.ai (vs:=[x.v]);exact gP;rfl;exact hq):A:=h
def Y459(h:A:=by apply OQ.cZ (b:=0);rfl;rfl;exact g1):A:=h
def Y460(h:A:=by apply OQ.to;exact(OQ.wU (s:=eO q A) Tryz.underlying22 Tryz.underlying5 Tryz.underlying9 (congrArg some (iV q A).symm) (fun w' hw'=>m9 hw'));exact(congrArg Z (mb hq0))):A:=h
def Y461(h:A:=by apply OQ.aI;exact mM;rfl;exact(block_lt_of_cell cx);exact(by simp);exact cx):A:=h
def Y462(h:A:=by apply OQ.dB (vs:=[U8 (x.l.getD 0 0)]);exact sO;rfl;exact cB;exact g2):A:=h
def Y463(h:A:=by apply OQ.wU (s:=L);exact Tryz.underlying22;exact Tryz.underlying5;exact Tryz.underlying9;rfl;exact(fun w' hw'=>(hlo w hs).holds hw' rfl)):A:=h
def Y464(h:A:=by apply OQ.ai (vs:=[Z L.l,Z [58]]);exact eC;rfl;exact(fun w' _=>cK w')):A:=h
def Y465(h:A:=by apply OQ.dB (vs:=[Z nm]);exact oU;rfl;exact cN;exact h2):A:=h
def Y466(h:A:=by apply OQ.dB (vs:=[Z V]);exact qn;rfl;exact cV;exact h5):A:=h
def Y467(h:A:=by apply OQ.fh (b:=0);rfl;rfl;exact hne):A:=h
def Y468(h:A:=by apply OQ.load;exact bS;rfl;exact .here;exact(Row.cell (v:=Z c.1) rfl)):A:=h
def Y469(h:A:=by apply OQ.bE (cs:=pc c);exact gG;rfl;exact bX;exact la;exact(by simp);exact cA):A:=h
def Y470(h:A:=by apply OQ.FP;exact hF;exact hDi;exact(fun w' hw'=>hC w' hw'.aH);rfl;rfl;exact h1):A:=h
def Y471(h:A:=by apply OQ.Dg;rfl;rfl;exact(by(try simp only[]);omega)):A:=h
def Y472(h:A:=by apply OQ.oB;rfl;rfl;exact(show ¬ ((i%76:Nat):Int)=75 by omega)):A:=h
def Y473(h:A:=by apply OQ.load;exact Cf;rfl;exact(by repeat(first|exact Has.here|apply Has.there));exact(Row.cell rfl)):A:=h
def Y474(h:A:=by apply OQ.dz (i:=0);exact Tryz.underlying22;exact dD;exact(congrArg some hav);rfl;exact i0):A:=h
def Y475(h:A:=by apply OQ.dz (i:=1);exact Tryz.underlying22;exact dD;exact(congrArg some hav);rfl;exact i1):A:=h
def Y476(h:A:=by apply OQ.aI;exact mM;rfl;exact(block_lt_of_cell hc0);exact(by simp);exact hc0):A:=h
def Y477(h:A:=by apply OQ.aI;exact mM;rfl;exact(block_lt_of_cell hc1);exact(by simp);exact hc1):A:=h
def Y478(h:A:=by apply OQ.Ck (b:=10);rfl;rfl;exact h10):A:=h
def Y479(h:A:=by apply OQ.dz;exact Tryz.underlying22;exact dD;exact(congrArg some hav);rfl;exact hi'):A:=h
def Y480(h:A:=by apply OQ.dB (vs:=[U8 c]);exact sZ;rfl;exact(fun w'=>wo c w');exact hb):A:=h
def Y481(h:A:=by apply OQ.dn (b:=48);rfl;rfl;exact ha0):A:=h
def Y482(h:A:=by apply OQ.dn (b:=65);rfl;rfl;exact ha1):A:=h
def Y483(h:A:=by apply OQ.dn (b:=97);rfl;rfl;exact ha2):A:=h
def Y484(h:A:=by apply OQ.fA (b:=57);rfl;rfl;exact hb0):A:=h
def Y485(h:A:=by apply OQ.fA (b:=70);rfl;rfl;exact hb1):A:=h
def Y486(h:A:=by apply OQ.dz (i:=2);exact Tryz.underlying22;exact dD;exact(congrArg some hav);rfl;exact i2):A:=h
def Y487(h:A:=by apply OQ.aI;exact mM;rfl;exact(block_lt_of_cell hc2);exact(by simp);exact hc2):A:=h
def Y488(h:A:=by apply OQ.ai (vs:=[U8 c]);exact kJ;rfl;exact(fun w' _=>w1 w')):A:=h
def Y489(h:A:=by apply OQ.ai (vs:=[U8 d]);exact kJ;rfl;exact(fun w' _=>w2 w')):A:=h
def Y490(h:A:=by apply OQ.ai (vs:=[y.v]);exact mu;rfl;exact cK):A:=h
def Y491(h:A:=by apply OQ.snd (s:=y) (m:=iq y.l);exact Tryz.underlying22;exact dD;rfl;rfl;exact hbl):A:=h
def Y492(h:A:=by apply OQ.nE (vs:=[(y.snd (iq y.l)).v]);exact mw;rfl;exact cE;exact hE):A:=h
def Y493(h:A:=by apply OQ.to;exact(OQ.snd (s:=x) (m:=1+j) Tryz.underlying22 dD rfl rfl hm);exact(congrArg ay.v hzE)):A:=h
def Y494(h:A:=by apply OQ.ai (vs:=[Z s,Z [47]]);exact eC;rfl;exact(fun w' _=>cC w')):A:=h
def Y495(h:A:=by apply OQ.ai (vs:=[Z r]);exact jh;rfl;exact(fun w' _=>cQ w')):A:=h
def Y496(h:A:=by apply OQ.eV;exact Tryz.underlying9;rfl;rfl;exact hnl):A:=h
def Y497(h:A:=by apply OQ.ai (vs:=[Z t.tail,kQ b]);exact jg;rfl;exact(fun w' hw'=>cR b _ w' _ hw')):A:=h
def Y498(h:A:=by apply OQ.ai (vs:=[Z (t.tail.drop n),Z [62]]);exact ec;rfl;exact(fun w' _=>c2 w')):A:=h
def Y499(h:A:=by apply OQ.ep (b:=0);rfl;rfl;exact g0):A:=h
def Y500(h:A:=by apply OQ.ai (vs:=[Z ins,kQ b]);exact eU;rfl;exact(fun w' hw'=>cP b _ w' _ hw')):A:=h
def Y501(h:A:=by apply OQ.ai (vs:=[Z u,Z [61]]);exact ec;rfl;exact(fun w' _=>c2 w')):A:=h
def Y502(h:A:=by apply OQ.ai (vs:=[Z u2]);exact iY;rfl;exact(fun w' _=>c3 w')):A:=h
def Y503(h:A:=by apply OQ.fR (r:=[]);rfl;rfl;exact gn):A:=h
def Y504(h:A:=by apply OQ.ai (vs:=[Z n]);exact mc;rfl;exact(fun w' _=>cL w')):A:=h
def Y505(h:A:=by apply OQ.ai (vs:=[Z n]);exact jm;rfl;exact(fun w' _=>cK w')):A:=h
def Y506(h:A:=by apply OQ.ai (vs:=[Z r]);exact s6;rfl;exact(fun w' _=>cA w')):A:=h
def Y507(h:A:=by apply OQ.aF (cs:=[f.v,s.v]);exact c7;exact aZ;rfl;exact(.there .here);rfl;exact Row.all):A:=h
def Y508(h:A:=by apply OQ.ai (vs:=[.agg #[f.v,s.v],Z cF]);exact iZ;rfl;exact(cg _)):A:=h
def Y509(h:A:=by apply OQ.aF (cs:=[f.v,s.v]);exact c7;exact aZ;rfl;exact .here;rfl;exact Row.all):A:=h
def Y510(h:A:=by apply OQ.ai (vs:=[.agg #[f.v,s.v],Z fu]);exact iZ;rfl;exact(cg _)):A:=h
def Y511(h:A:=by apply OQ.ai (vs:=[Z v,Z [32,9]]);exact ig;rfl;exact(fun w' _=>ct w')):A:=h
def Y512(h:A:=by apply OQ.fh (a:=((3:Nat):Int)) (b:=0);rfl;rfl;exact h0):A:=h
def Y513(h:A:=by apply OQ.N7;exact Tryz.underlying22;rfl;exact(fun h=>by rw[hq h];rfl)):A:=h
def Y514(h:A:=by apply OQ.load;exact KT;rfl;exact .here;exact(Row.cell (v:=f.v) rfl)):A:=h
def Y515(h:A:=by apply OQ.load;exact T8;rfl;exact .here;exact(Row.cell (v:=s.v) rfl)):A:=h
def Y516(h:A:=by apply OQ.cZ (b:=200);rfl;rfl;exact h1):A:=h
def Y517(h:A:=by apply OQ.cZ (b:=65536);rfl;rfl;exact h2):A:=h
def Y518(h:A:=by apply OQ.cZ (b:=2097152);rfl;rfl;exact h3):A:=h
def Y519(h:A:=by apply OQ.fh (a:=(T.2.2:Int)) (b:=0);rfl;rfl;exact h0):A:=h
def Y520(h:A:=by apply OQ.aF (cs:=[Z T.1,y.z.v,.int .i64 0,aB.v,.slice none 0 0]);exact gx;exact iE;rfl;exact .here;rfl;exact Row.all):A:=h
def Y521(h:A:=by apply OQ.ai (vs:=[.agg #[Z T.1,y.z.v,.int .i64 0,aB.v,.slice none 0 0]]);exact lI;rfl;exact(fun w' _=>ch w')):A:=h
def Y522(h:A:=by apply OQ.aF (cs:=[f.v,s.v]);exact c7;exact aZ;rfl;exact(.there (.there .here));rfl;exact Row.all):A:=h
def Y523(h:A:=by apply OQ.fh (a:=(r.k:Int)) (b:=0);rfl;rfl;exact hk0'):A:=h
def Y524(h:A:=by apply OQ.fh (a:=((0:Nat):Int)) (b:=0);rfl;rfl;exact h00):A:=h
def Y525(h:A:=by apply OQ.ai (vs:=[Z v,kQ d]);exact rG;rfl;exact(fun w' hw'=>cM d _ w' _ _ hw')):A:=h
def Y526(h:A:=by apply OQ.gj (b:=34);rfl;rfl;exact h34):A:=h
def Y527(h:A:=by apply OQ.ai (vs:=[Z k]);exact jm;rfl;exact(fun w' _=>cK w')):A:=h
def Y528(h:A:=by apply OQ.ai (vs:=[Z k]);exact kf;rfl;exact(fun w' _=>cN w')):A:=h
def Y529(h:A:=by apply OQ.load;exact ni;rfl;exact .here;exact(Row.cell (v:=Z n) rfl)):A:=h
def Y530(h:A:=by apply OQ.ai (vs:=[Z n]);exact gF;rfl;exact(fun w' _=>cA w')):A:=h
def Y531(h:A:=by apply OQ.ai (vs:=[Z n]);exact kf;rfl;exact(fun w' _=>cB w')):A:=h
def Y532(h:A:=by apply OQ.load;exact ni;rfl;exact .here;exact(Row.cell (v:=Z v) rfl)):A:=h
def Y533(h:A:=by apply OQ.ai (vs:=[Z v]);exact wC;rfl;exact(fun w' _=>cV w')):A:=h
def Y534(h:A:=by apply OQ.load;exact lO;rfl;exact .here;exact(Row.cell (v:=x.v) rfl)):A:=h
def Y535(h:A:=by apply OQ.dz (i:=i);exact Tryz.underlying93;exact mH;rfl;rfl;exact hi'):A:=h
def Y536(h:A:=by apply OQ.dz (i:=i);exact Tryz.underlying93;exact mH;rfl;rfl;exact(hlen▸hi')):A:=h
def Y537(h:A:=by apply OQ.aI;exact xg;rfl;exact la;exact(by simp);exact ca):A:=h
def Y538(h:A:=by apply OQ.aI;exact xg;rfl;exact lb;exact(by simp);exact cb):A:=h
def Y539(h:A:=by apply OQ.O1 (f:=139) (vs:=[a.v,b.v]);exact mj;rfl;rfl;exact(ce _)):A:=h
def Y540(h:A:=by apply OQ.aF (cs:=[Z p.kind,ps.v,.int .i64 p.code,body.v,.slice ad p.parts.length cap]);exact gx;exact iE;rfl;exact .here;rfl;exact Row.all):A:=h
def Y541(h:A:=by apply OQ.ai (vs:=[.agg #[Z p.kind,ps.v,.int .i64 p.code,body.v,.slice ad p.parts.length cap]]);exact lJ;rfl;exact(cf _)):A:=h
def Y542(h:A:=by apply OQ.load;exact jt;rfl;exact .here;exact(Row.cell (v:=.slice ad p.parts.length cap) rfl)):A:=h
def Y543(h:A:=by apply OQ.len;exact Tryz.underlying57;rfl):A:=h
def Y544(h:A:=by apply OQ.ep (b:=0);rfl;rfl;exact g1):A:=h
def Y545(h:A:=by apply OQ.load;exact kg;rfl;exact .here;exact(Row.cell (v:=.int .i64 p.code) rfl)):A:=h
def Y546(h:A:=by apply OQ.fh (b:=0);rfl;rfl;exact g2):A:=h
def Y547(h:A:=by apply OQ.load;exact lO;rfl;exact .here;exact(Row.cell (v:=body.v) rfl)):A:=h
def Y548(h:A:=by apply OQ.iD (i:=i);exact Tryz.underlying57;exact iE;rfl;rfl;exact hi'):A:=h
def Y549(h:A:=by apply OQ.ai (vs:=[sp.v,aD qm (rs.map ay.v).length,.func (.func 139) #[] #[]]);exact Cx;rfl;exact ce):A:=h
def Y550(h:A:=by apply OQ.load;exact bS;rfl;exact(.there .here);exact(Row.cell (v:=Z p.kind) rfl)):A:=h
def Y551(h:A:=by apply OQ.load;exact IV;rfl;exact(.there .here);exact(Row.cell (v:=ps.v) rfl)):A:=h
def Y552(h:A:=by apply OQ.ai (vs:=[Z p.kind,ps.v]);exact s8;rfl;exact(ct _)):A:=h
def Y553(h:A:=by apply OQ.gU (a:=cF) (b:=W);rfl;rfl):A:=h
def Y554(h:A:=by apply OQ.load;exact kg;rfl;exact(.there .here);exact(Row.cell (v:=.int .i64 p.code) rfl)):A:=h
def Y555(h:A:=by apply OQ.ai (vs:=[.int .i64 p.code]);exact sQ;rfl;exact(cn _)):A:=h
def Y556(h:A:=by apply OQ.load;exact jt;rfl;exact(.there .here);exact(Row.cell (v:=.slice ad p.parts.length cap) rfl)):A:=h
def Y557(h:A:=by apply OQ.load;exact O4;rfl;exact .here;exact(Row.cell (v:=aD (some (b5,1)) [(cF,W)].length) rfl)):A:=h
def Y558(h:A:=by apply OQ.aF (cs:=[Z p.kind,ps.v,.int .i64 p.code,body.v,.slice ad p.parts.length cap]);exact gx;exact iE;rfl;exact(.there .here);rfl;exact Row.all):A:=h
def Y559(h:A:=by apply OQ.aF (cs:=[aD (some (b7,cap7)) [(cF,W),(fu,C)].length,y.1.v]);exact c7;exact aZ;rfl;exact .here;rfl;exact Row.all):A:=h
def Y560(h:A:=by apply OQ.aF (cs:=[aD (some (b5,1)) [(cF,W)].length,y.v]);exact c7;exact aZ;rfl;exact .here;rfl;exact Row.all):A:=h
def Y561(h:A:=by apply OQ.fH (l:=[60]) (r:=e.id);rfl;rfl;exact(by simp;omega)):A:=h
def Y562(h:A:=by apply OQ.fH (l:=60::e.id) (r:=[62]);rfl;rfl;exact(by simp;omega)):A:=h
def Y563(h:A:=by apply OQ.fH (l:=[60]) (r:=e.th);rfl;rfl;exact(by simp;omega)):A:=h
def Y564(h:A:=by apply OQ.fH (l:=60::e.th) (r:=[62]);rfl;rfl;exact(by simp;omega)):A:=h
def Y565(h:A:=by apply OQ.load;exact jr;rfl;exact(.there .here);exact(Row.cell (v:=e.ci.v) rfl)):A:=h
def Y566(h:A:=by apply OQ.load;exact BL;rfl;exact(.there (.there .here));exact(Row.cell (v:=.bool e.pl) rfl)):A:=h
def Y567(h:A:=by apply OQ.aF (cs:=iM fQ e.ci);exact gx;exact iE;rfl;exact(.there (.there .here));rfl;exact Row.all):A:=h
def Y568(h:A:=by apply OQ.cZ (a:=(e.ci.l.length:Int)) (b:=1049600);rfl;rfl;exact g0):A:=h
def Y569(h:A:=by apply OQ.cZ (a:=(e.bu.l.length:Int)) (b:=3000);rfl;rfl;exact g1):A:=h
def Y570(h:A:=by apply OQ.aF (cs:=e.cs);exact w9;exact oX;rfl;exact(.there .here);rfl;exact Row.all):A:=h
def Y571(h:A:=by apply OQ.bE (cs:=qq true true true true true) (j:=0);exact Q8;rfl;exact Nq;exact hR.lt;exact(by simp);exact hR.cell):A:=h
def Y572(h:A:=by apply OQ.load;exact KT;rfl;exact(.there .here);exact(Row.cell (v:=f.v) rfl)):A:=h
def Y573(h:A:=by apply OQ.load;exact KT;rfl;exact(.there .here);exact(Row.cell (v:=.slice (some ⟨ba,ja,none⟩) f.l.length f.cap) rfl)):A:=h
def Y574(h:A:=by apply OQ.dB (vs:=[Z n]);exact oT;rfl;exact cN;exact hn):A:=h
def Y575(h:A:=by apply OQ.dB (vs:=[Z v]);exact sN;rfl;exact cV;exact hv):A:=h
def Y576(h:A:=by apply OQ.load;exact QJ;rfl;exact(.there .here);exact(Row.cell (v:=s.v) rfl)):A:=h
def Y577(h:A:=by apply OQ.dB (vs:=[Z v]);exact qe;rfl;exact c1;exact h1):A:=h
def Y578(h:A:=by apply OQ.load;exact bS;rfl;exact(.there .here);exact(Row.cell (v:=Z k) rfl)):A:=h
def Y579(h:A:=by apply OQ.load;exact kg;rfl;exact(.there (.there .here));exact(Row.cell (v:=.int .i64 c) rfl)):A:=h
def Y580(h:A:=by apply OQ.aF (cs:=[aD (some (b9,cap9)) [(cF,W),(fu,C)].length,y.1.v]);exact c7;exact aZ;rfl;exact .here;rfl;exact Row.all):A:=h
def Y581(h:A:=by apply OQ.load;exact bS;rfl;exact(.there .here);exact(Row.cell (v:=Z eE) rfl)):A:=h
def Y582(h:A:=by apply OQ.load;exact lO;rfl;exact(dA _ .here);exact(Row.cell (v:=aD qb X.length) rfl)):A:=h
def Y583(h:A:=by apply OQ.fH (l:=[45,45]) (r:=gS);rfl;rfl;exact(by decide)):A:=h
def Y584(h:A:=by apply OQ.ai (vs:=[Z s]);exact qN;rfl;exact(fun w' _=>ca w')):A:=h
def Y585(h:A:=by apply OQ.load;exact jr;rfl;exact(.there (.there (.there .here)));exact(Row.cell (v:=e.bu.v) rfl)):A:=h
def Y586(h:A:=by apply OQ.cZ (a:=(e.bu.l.length:Int)) (b:=0);rfl;rfl;exact g5):A:=h
def Y587(h:A:=by apply OQ.ai (vs:=[.agg #[f.v,s.v],Z nm]);exact iZ;rfl;exact(cg _)):A:=h
def Y588(h:A:=by apply OQ.fh (a:=((mQ v).2:Int)) (b:=0);rfl;rfl;exact g1):A:=h
def Y589(h:A:=by apply OQ.fh (a:=(y.l.length:Int)) (b:=1);rfl;rfl;exact g2):A:=h
def Y590(h:A:=by apply OQ.ep (a:=((mI (bQ.fE (bQ.bare v)):Nat):Int)) (b:=0);rfl;rfl;exact g1):A:=h
def Y591(h:A:=by apply OQ.fA (a:=(x.1.l.length:Int)) (b:=3000);rfl;rfl;exact g2):A:=h
def Y592(h:A:=by apply OQ.bE (cs:=pc c);exact Tp;rfl;exact Mp;exact la;exact(by simp);exact cA):A:=h
def Y593(h:A:=by apply OQ.load;exact IV;rfl;exact .here;exact(Row.cell (v:=.slice (some ⟨bp,jp,none⟩) p.ps.length ps.cap) rfl)):A:=h
def Y594(h:A:=by apply OQ.ai (vs:=[.slice (some ⟨bp,jp,none⟩) p.ps.length ps.cap,IN]);exact mB;rfl;exact(ci _)):A:=h
def Y595(h:A:=by apply OQ.fV (a:=(ix:Int)) (b:=0);rfl;rfl;exact g1):A:=h
def Y596(h:A:=by apply OQ.iD;exact Tryz.underlying56;exact Mp;rfl;rfl;exact hx):A:=h
def Y597(h:A:=by apply OQ.aI;exact bS;rfl;exact ltp;exact(by simp);exact cp2):A:=h
def Y598(h:A:=by apply OQ.lD (l:=pv) (r:=eW);rfl;rfl;exact g2):A:=h
def Y599(h:A:=by apply OQ.fh (a:=(p.parts.length:Int)) (b:=2);rfl;rfl;exact g3):A:=h
def Y600(h:A:=by apply OQ.aF (cs:=[Z k0,Z k1]);exact SZ;exact Rh;rfl;exact(.there .here);rfl;exact Row.all):A:=h
def Y601(h:A:=by apply OQ.aF (cs:=[Z eW,Z fQ]);exact SZ;exact Rh;rfl;exact .here;rfl;exact Row.all):A:=h
def Y602(h:A:=by apply OQ.SG (str:=9);exact Tryz.underlying142;rfl;exact Tryz.underlying9;exact bS;exact Ub;exact Uc;rfl;rfl;exact g4):A:=h
def Y603(h:A:=by apply OQ.ai (vs:=[bo0.v,.slice (some ⟨b9,0,none⟩) 10 10]);exact CX;rfl;exact(ch _)):A:=h
def Y604(h:A:=by apply OQ.fh (a:=(k:Int)) (b:=0);rfl;rfl;exact g0):A:=h
def Y605(h:A:=by apply OQ.fh (a:=((0:Nat):Int)) (b:=0);rfl;rfl;exact g0):A:=h
def Y606(h:A:=by apply OQ.cZ (a:=(q.l.length:Int)) (b:=1049600);rfl;rfl;exact g3):A:=h
def Y607(h:A:=by apply OQ.aF (cs:=e.cs);exact w9;exact oX;rfl;exact .here;rfl;exact Row.all):A:=h
def Y608(h:A:=by apply OQ.ai (vs:=[.agg e.cs.toArray]);exact qp;rfl;exact(fun w' _=>k1 w')):A:=h
def Y609(h:A:=by omega):A:=h
def Y610(h:A:=by decide):A:=h
def Y611(h:A:=by simp only[List.length_append,List.length_cons,List.length_nil];omega):A:=h
def Y612(h:A:=by rw[hb];decide):A:=h
def Y613(h:A:=by rw[e];rfl):A:=h
def Y614(h:A:=by simp):A:=h
def Y615(h:A:=by decide +kernel):A:=h
def Y616(h:A:=by simpa using h):A:=h
def Y617(h:A:=by simp[hd]):A:=h
def Y618(h:A:=by simp[hq]):A:=h
def Y619(h:A:=by rintro⟨k,_⟩;cases k):A:=h
def Y620(h:A:=by rintro⟨_,k⟩;cases k):A:=h
def Y621(h:A:=by intro c hc;rw[List.mem_singleton] at hc;subst hc;decide):A:=h
def Y622(h:A:=by simp only[List.length_append,List.length_cons];omega):A:=h
def Y623(h:A:=by simp only[List.length_cons] at h;omega):A:=h
def Y624(h:A:=by simp;omega):A:=h
def Y625(h:A:=by rw[List.length_take];omega):A:=h
def Y626(h:A:=by simpa using hl):A:=h
def Y627(h:A:=by exact Int.le_of_lt (Int.pow_pos (by decide))):A:=h
def Y628(h:A:=by rw[hi4];exact hfit):A:=h
def Y629(h:A:=by simpa using he):A:=h
def Y630(h:A:=by simp[ev,lk]):A:=h
def Y631(h:A:=by simp[h1,h2]):A:=h
def Y632(h:A:=by rw[List.length_drop];omega):A:=h
def Y633(h:A:=by rw[beq_iff_eq];omega):A:=h
def Y634(h:A:=by rw[cj];omega):A:=h
def Y635(h:A:=by simp[exitTo,hk]):A:=h
def Y636(h:A:=by kernel_rfl):A:=h
def Y637(h:A:=by first|exact Y319|(apply OQ.fR;rfl;rfl;exact h)):A:=h
def Y638(h:A:=by(apply OQ.ep (a:=1) (b:=1);rfl;rfl;rfl)):A:=h
def Y639(h:A:=by simpa using hsm):A:=h
def Y640(h:A:=by repeat(first|exact af.nil|refine af.cons _ _ _ rfl ?_)):A:=h
def Y641(h:A:=by first|(apply hidx;rfl;rfl)|(apply OQ.fh;rfl;rfl;exact h1)|(apply OQ.fV;rfl;rfl;exact h2)|(apply OQ.cZ;rfl;rfl;exact h3)):A:=h
def Y642(h:A:=by intro _ _;repeat(first|exact aR.here|apply aR.there)):A:=h
def Y643(h:A:=by show s.length-(i+1)<s.length-i;omega):A:=h
def Y644(h:A:=by exact Y324):A:=h
def Y645(h:A:=by(apply OQ.lD (r:=[]);rfl;rfl;exact hr0)):A:=h
def Y646(h:A:=by first|(apply OQ.gu;exact Tryz.underlying9;rfl;rfl;exact hlm)|exact Y323):A:=h
def Y647(h:A:=by show aj ([⟨b,Sl.Own 5 1 (o.map U8).length cap (o.map U8),true⟩]++MF) _;rw[List.length_map];exact aj.refl _):A:=h
def Y648(h:A:=by rw[List.length_map];rfl):A:=h
def Y649(h:A:=by rw[List.length_map];omega):A:=h
def Y650(h:A:=by first|exact Y339|exact Y323):A:=h
def Y651(h:A:=by dsimp only;rw[List.length_cons];omega):A:=h
def Y652(h:A:=by exact Y323):A:=h
def Y653(h:A:=by exact Y351):A:=h
def Y654(h:A:=by first|exact Y354|(apply hidx;rfl;rfl)|(apply OQ.fh (b:=47);rfl;rfl;exact h1)):A:=h
def Y655(h:A:=by first|exact Y355|exact Y356|exact Y357):A:=h
def Y656(h:A:=by have:=of_decide_eq_false hk;omega):A:=h
def Y657(h:A:=by have:=of_decide_eq_true hk;omega):A:=h
def Y658(h:A:=by first|exact Y360|(apply OQ.fV (b:=0);rfl;rfl;exact hm)):A:=h
def Y659(h:A:=by first|exact Y361|exact Y362|exact Y363):A:=h
def Y660(h:A:=by first|exact Y364|exact Y365|exact Y366):A:=h
def Y661(h:A:=by dsimp only;omega):A:=h
def Y662(h:A:=by(apply OQ.ep (b:=41);rfl;rfl;exact h41)):A:=h
def Y663(h:A:=by have:=of_decide_eq_true h1;omega):A:=h
def Y664(h:A:=by(apply OQ.ep (b:=0);rfl;rfl;exact hd0)):A:=h
def Y665(h:A:=by first|exact Y371|(apply OQ.fh (b:=0);rfl;rfl;exact hk)):A:=h
def Y666(h:A:=by first|exact Y372|(apply hidxn;rfl;rfl)|(apply OQ.fh (b:=60);rfl;rfl;exact g60)):A:=h
def Y667(h:A:=by first|(apply OQ.fV;rfl;rfl;exact g0)|(apply hidx;rfl;rfl)|(apply OQ.fh (b:=64);rfl;rfl;exact h1)):A:=h
def Y668(h:A:=by simpa [BitVec.le_def] using h):A:=h
def Y669(h:A:=by exact Y381):A:=h
def Y670(h:A:=by first|(apply i0;rfl;rfl)|(apply i1;rfl;rfl)|exact Y382|exact Y383|(apply OQ.JW;rfl;rfl;exact h1)|exact Y323):A:=h
def Y671(h:A:=by first|exact Y388|exact Y389|exact Y390|exact Y391|(apply OQ.TV;exact Kl;rfl;rfl;exact h1)|exact Y323):A:=h
def Y672(h:A:=by first|exact Y323|exact Y324|exact Y337):A:=h
def Y673(h:A:=by(apply i0;rfl;rfl)):A:=h
def Y674(h:A:=by show v.length-(i+1)<v.length-i;omega):A:=h
def Y675(h:A:=by first|(apply zV;rfl)|exact Y396|exact Y397):A:=h
def Y676(h:A:=by first|(apply zW;rfl)|exact Y398|(apply OQ.ep (a:=qo.getD i 0) (b:=c);rfl;rfl;exact hb)):A:=h
def Y677(h:A:=by first|exact Y401|(apply OQ.fR (l:=pr.1) (r:=fF);rfl;rfl;exact hb)):A:=h
def Y678(h:A:=by first|exact Y379|exact Y407|exact Y408):A:=h
def Y679(h:A:=by have:=of_decide_eq_true h2;omega):A:=h
def Y680(h:A:=by first|exact Y409|(apply OQ.cZ (b:=200);rfl;rfl;exact h2)):A:=h
def Y681(h:A:=by show ¬ aX bd (br (fM b at'))=0;rw[hm];decide):A:=h
def Y682(h:A:=by first|exact Y421|exact Y422|exact Y423|exact Y424):A:=h
def Y683(h:A:=by have:=of_decide_eq_true h0;omega):A:=h
def Y684(h:A:=by rw[List.length_map]):A:=h
def Y685(h:A:=by first|(apply jk;rfl;rfl;exact g1;exact h1')|exact Y406|exact Y323|exact Y387):A:=h
def Y686(h:A:=by first|(apply OQ.oJ;rfl;rfl;exact h0)|exact Y431|exact Y432|exact Y433|(apply OQ.xd (b:=9);rfl;rfl;exact h9)):A:=h
def Y687(h:A:=by first|exact Y434|exact Y435|exact Y436|exact Y437|exact Y438):A:=h
def Y688(h:A:=by first|exact Y379|exact Y407|(apply OQ.xd (a:=c) (b:=10);rfl;rfl;exact hq)):A:=h
def Y689(h:A:=by(apply OQ.zx;rfl;rfl;exact(Nat.lt_irrefl 0))):A:=h
def Y690(h:A:=by first|(apply OQ.oJ;rfl;rfl;exact hpos)|exact Y439|exact Y440|(apply OQ.xd (a:=z) (b:=13);rfl;rfl;exact h13)):A:=h
def Y691(h:A:=by rw[hxe];omega):A:=h
def Y692(h:A:=by first|exact Y442|exact Y443|exact Y444|exact Y445|(apply OQ.fh (b:=1);rfl;rfl;exact h0)):A:=h
def Y693(h:A:=by first|exact Y442|exact Y443|exact Y444|exact Y445|(apply OQ.ep (b:=1);rfl;rfl;exact hm)):A:=h
def Y694(h:A:=by first|(apply OQ.ri;rfl;rfl;exact hkl')|exact Y446|exact Y444|exact Y447|(apply OQ.ep (b:=0);rfl;rfl;exact hm)):A:=h
def Y695(h:A:=by rw[hxe];(try simp only[List.length_append]);omega):A:=h
def Y696(h:A:=by first|exact Y449|exact Y450|exact Y444|exact Y445|(apply OQ.fh (b:=2);rfl;rfl;exact hm)):A:=h
def Y697(h:A:=by repeat(first|exact Has.here|apply Has.there)):A:=h
def Y698(h:A:=by first|with_reducible exact aE|with_reducible exact aA aE|with_reducible exact aN aE|with_reducible exact aA (aN aE)|with_reducible exact au|with_reducible exact aA au|with_reducible exact aN au|with_reducible exact aA (aN au)|with_reducible exact aA (aA (aN au))):A:=h
def Y699(h:A:=by repeat(first|with_reducible exact au|with_reducible apply aA|with_reducible apply aN)):A:=h
def Y700(h:A:=by exact Y452):A:=h
def Y701(h:A:=by first|exact Y454|exact Y330|exact Y323):A:=h
def Y702(h:A:=by show _++(_++(_++(bh rs++[])))=_;rw[List.append_nil];rfl):A:=h
def Y703(h:A:=by repeat(first|exact ki.here|apply ki.there)):A:=h
def Y704(h:A:=by first|exact Y456|exact Y375|(apply OQ.fR;rfl;rfl;exact h1)):A:=h
def Y705(h:A:=by simp only[List.length_cons,List.length_nil];omega):A:=h
def Y706(h:A:=by(apply OQ.lD (r:=[]);rfl;rfl;exact hd)):A:=h
def Y707(h:A:=by(apply OQ.fA (b:=65536);rfl;rfl;exact g)):A:=h
def Y708(h:A:=by exact Y458):A:=h
def Y709(h:A:=by first|exact Y459|(apply hi0;rfl;rfl)|exact Y461|exact Y462):A:=h
def Y710(h:A:=by(apply OQ.ai (vs:=[s.v]);exact gP;rfl;exact hq)):A:=h
def Y711(h:A:=by first|exact Y463|exact Y464|exact Y465):A:=h
def Y712(h:A:=by have:=of_decide_eq_true h3;omega):A:=h
def Y713(h:A:=by(apply OQ.ep (b:=200);rfl;rfl;exact h3)):A:=h
def Y714(h:A:=by(apply OQ.cZ (b:=8192);rfl;rfl;exact h4)):A:=h
def Y715(h:A:=by(apply OQ.ai (vs:=[s.v]);exact wh;rfl;exact cL)):A:=h
def Y716(h:A:=by first|exact Y388|exact Y469|exact Y470):A:=h
def Y717(h:A:=by show i+1<=_;omega):A:=h
def Y718(h:A:=by show s.l.length-(i+1)<s.l.length-i;omega):A:=h
def Y719(h:A:=by show S.length-(i+1)<S.length-i;omega):A:=h
def Y720(h:A:=by(try simp only[]);omega):A:=h
def Y721(h:A:=by show 4-(i+1)<4-i;omega):A:=h
def Y722(h:A:=by rintro q e he;simp at he;rcases he with rfl|rfl <;> rfl):A:=h
def Y723(h:A:=by first|exact Y473|exact Y324):A:=h
def Y724(h:A:=by first|exact Y479|exact Y407|exact Y480):A:=h
def Y725(h:A:=by first|exact Y351|exact Y474|exact Y476|exact Y478):A:=h
def Y726(h:A:=by first|exact Y481|exact Y484):A:=h
def Y727(h:A:=by first|exact Y482|exact Y485):A:=h
def Y728(h:A:=by first|exact Y483|(apply OQ.fA (b:=102);rfl;rfl;exact hb2)):A:=h
def Y729(h:A:=by first|exact Y475|exact Y486|exact Y477|exact Y487|exact Y488|exact Y489|exact Y323|exact Y324):A:=h
def Y730(h:A:=by first|exact Y474|exact Y476|(apply OQ.Ck (b:=61);rfl;rfl;exact h61)):A:=h
def Y731(h:A:=by first|exact Y490|(apply OQ.cZ (b:=0);rfl;rfl;exact hk0)):A:=h
def Y732(h:A:=by first|(apply OQ.ai (vs:=[y.v]);exact jF;rfl;exact cE)|(apply OQ.cZ (b:=0);rfl;rfl;exact he0)):A:=h
def Y733(h:A:=by(apply OQ.ai (vs:=[x.v]);exact yD;rfl;exact cX)):A:=h
def Y734(h:A:=by first|exact Y493|(apply OQ.nE (vs:=[z.v]);exact mw;rfl;exact cE;rfl)):A:=h
def Y735(h:A:=by(apply OQ.lD (r:=[]);rfl;rfl;exact ht)):A:=h
def Y736(h:A:=by first|exact Y497|exact Y496|exact Y498|exact Y499):A:=h
def Y737(h:A:=by first|exact Y500|exact Y501|exact Y502):A:=h
def Y738(h:A:=by first|exact Y500|exact Y501|exact Y502|exact Y503):A:=h
def Y739(h:A:=by first|exact Y509|exact Y510|exact Y511|(apply OQ.ai (vs:=[Z tv]);exact vv;rfl;exact(ce _))):A:=h
def Y740(h:A:=by(apply OQ.ep (a:=0) (b:=2);rfl;rfl;exact d2)):A:=h
def Y741(h:A:=by first|exact Y513|(apply OQ.fA (b:=65536);rfl;rfl;exact h2)):A:=h
def Y742(h:A:=by rw[hB];decide):A:=h
def Y743(h:A:=by(apply OQ.fh (a:=(kc:Int)) (b:=0);rfl;rfl;exact hne)):A:=h
def Y744(h:A:=by rw[hxl];omega):A:=h
def Y745(h:A:=by first|(apply i0;rfl;rfl)|exact Y526|exact Y336):A:=h
def Y746(h:A:=by first|exact Y529|exact Y532|exact Y530|exact Y531|exact Y533):A:=h
def Y747(h:A:=by first|exact Y535|exact Y536|exact Y537|exact Y538|exact Y539):A:=h
def Y748(h:A:=by first|exact Y540|exact Y541|exact Y542|exact Y544|exact Y451|exact Y545|exact Y546|exact Y547|(apply OQ.cZ (b:=0);rfl;rfl;exact g3)):A:=h
def Y749(h:A:=by rw[hvl];omega):A:=h
def Y750(h:A:=by show B.length<=_;omega):A:=h
def Y751(h:A:=by first|exact Y554|exact Y555|exact Y556|exact Y459):A:=h
def Y752(h:A:=by show(1+1)*32<=140737488355328;decide):A:=h
def Y753(h:A:=by first|exact Y416|(apply OQ.cZ (b:=0);rfl;rfl;exact g0)):A:=h
def Y754(h:A:=by first|(apply ue (a:=fF) (b:=gS))|(apply ue (a:=C5) (b:=eW))):A:=h
def Y755(h:A:=by cases hq):A:=h
def Y756(h:A:=by show 3000<e.bu.l.length;have:=of_decide_eq_true g1;omega):A:=h
def Y757(h:A:=by first|exact Y565|exact Y416|exact Y568|exact Y569):A:=h
def Y758(h:A:=by rw[show x.f.cells=x.f.l.flatMap pc from rfl,zQ];omega):A:=h
def Y759(h:A:=by rw[xf];omega):A:=h
def Y760(h:A:=by first|exact Y573|exact Y388|exact Y375|exact Y376|exact Y574|exact Y575):A:=h
def Y761(h:A:=by first|exact Y579|(apply OQ.ep (a:=(c:Int)) (b:=1);rfl;rfl;exact h1)):A:=h
def Y762(h:A:=by simp only[List.length_append,List.length_map];omega):A:=h
def Y763(h:A:=by first|exact Y400|exact Y592|exact Y470):A:=h
def Y764(h:A:=by first|exact Y593|exact Y594|exact Y595|exact Y596|exact Y597|exact Y598|exact Y542|exact Y599):A:=h
def Y765(h:A:=by(apply OQ.fR (l:=p.kind) (r:=eE);rfl;rfl;exact g2)):A:=h
def Y766(h:A:=by show e.ci.l.length<=3000;exact lo.ci):A:=h
end
end Go.Proofs.YtdabhneehconeaaGreatDoor.YY
open Go.Proofs.YtdabhneehconeaaGreatDoor.YY
namespace Go.Proofs.YtdabhneehconeaaGreatDoor
section
namespace aq
abbrev By:=BitVec 8
def bl(c:By):Bool:=c==32||c==9
def wS(c:By):Bool:=decide (33<=c.toNat)&&decide (c.toNat<=126)&&!(c==58)
def fB(c:By):Bool:=c==9||(decide (32<=c.toNat)&&decide (c.toNat<=126))
def c8(s:List By):Bool:=s.all wS&&decide (1<=s.length)&&decide (s.length<=64)
def fC(s:List By):Bool:=s.all fB&&decide (s.length<=8192)&&(decide (s.length=0)||(!bl (s.getD 0 0)&&!bl (s.getD (s.length-1) 0)))
def small(c:By):By:=if 65<=c.toNat/\c.toNat<=90 then c+32 else c
def bY(a b:List By):Bool:=decide (a.map small=b.map small)
def tn(v:List By)(i:Nat):Bool:=decide (0<i)&&(bl (v.getD i 0)&&!bl (v.getD (i-1) 0))
def scan(v:List By)(i:Nat):Nat:=if h:i<v.length then(if tn v i then i else scan v (i+1)) else v.length
termination_by v.length-i
theorem mO{v:List By}{i:Nat}(h:i<v.length)(ht:tn v i=true):scan v i=i:=by rw[scan,dif_pos h,if_pos ht]
theorem pL{v:List By}{i:Nat}(h:i<v.length)(ht:¬ tn v i=true):scan v i=scan v (i+1):=by rw[scan,dif_pos h,if_neg ht]
theorem jP{v:List By}{i:Nat}(h:¬ i<v.length):scan v i=v.length:=by rw[scan,dif_neg h]
theorem pM(v:List By):∀ i,scan v i<=v.length:=by
 intro i
 generalize hk:v.length-i=k
 induction k generalizing i with
 | zero=>rw[jP Y609];exact Nat.le_refl _
 | succ k ih=>
   by_cases ht:tn v i=true
   · rw[mO Y609 ht];omega
   · rw[pL Y609 ht];exact ih (i+1) Y609
theorem yZ(v:List By):∀ i,i<=v.length->i<=scan v i:=by
 intro i hi
 generalize hk:v.length-i=k
 induction k generalizing i with
 | zero=>rw[jP Y609];exact hi
 | succ k ih=>
   by_cases ht:tn v i=true
   · rw[mO Y609 ht];exact Nat.le_refl _
   · rw[pL Y609 ht]
     have:=ih (i+1) Y609 Y609
     omega
theorem EW(v:List By):∀ i,i<=v.length->scan v i<v.length->tn v (scan v i)=true:=by
 intro i hi
 generalize hk:v.length-i=k
 induction k generalizing i with
 | zero=>rw[jP Y609];intro h;omega
 | succ k ih=>
   by_cases ht:tn v i=true
   · rw[mO Y609 ht];intro _;exact ht
   · rw[pL Y609 ht];exact ih (i+1) Y609 Y609
theorem EX(v:List By):∀ i,i<=v.length->∀ j,i<=j->j<scan v i->¬ tn v j=true:=by
 intro i hi
 generalize hk:v.length-i=k
 induction k generalizing i with
 | zero=>intro j h1 h2;rw[jP Y609] at h2;omega
 | succ k ih=>
   intro j h1 h2
   by_cases ht:tn v i=true
   · rw[mO Y609 ht] at h2;omega
   · rw[pL Y609 ht] at h2
     by_cases e:j=i
     · rw[e];exact ht
     · exact ih (i+1) Y609 Y609 j Y609 h2
def st(n v:List By):Nat->List By × Nat
 | 0=>(n++[58,32],n.length+2)
 | i+1=>if tn v i=true/\76<(st n v i).2+scan v (i+1)-i then((st n v i).1++[13,10,v.getD i 0],1) else((st n v i).1++[v.getD i 0],(st n v i).2+1)
def ek(n v:List By):List By:=(st n v v.length).1++[13,10]
inductive Fo:List By->List By->Prop
 | nil:Fo [] []
 | byte (c:By) (v L:List By):fB c=true->Fo v L->Fo (c::v) (c::L)
 | fold (c:By) (e v L:List By):bl c=true->(e=[10]\/e=[13,10])->Fo v L->Fo (c::v) (e++c::L)
theorem IZ{c:By}(h:bl c=true):fB c=true:=by
 simp only[bl,Bool.or_eq_true,beq_iff_eq] at h
 rcases h with rfl|rfl <;> decide
theorem Fo.snoc{v L:List By}(h:Fo v L){c:By}(hc:fB c=true):Fo (v++[c]) (L++[c]):=by
 induction h with
 | nil=>exact .byte c [] [] hc .nil
 | byte d v L hd _ ih=>exact .byte d _ _ hd ih
 | fold d e v L hd he _ ih=>
   rw[List.append_assoc,List.cons_append]
   exact .fold d e _ _ hd he ih
theorem Fo.EY{v L:List By}(h:Fo v L){c:By}(hc:bl c=true):Fo (v++[c]) (L++[13,10,c]):=by
 induction h with
 | nil=>exact .fold c [13,10] [] [] hc (.inr rfl) .nil
 | byte d v L hd _ ih=>exact .byte d _ _ hd ih
 | fold d e v L hd he _ ih=>
   rw[List.append_assoc,List.cons_append]
   exact .fold d e _ _ hd he ih
theorem eD(v:List By){i:Nat}(h:i<v.length):v.take (i+1)=v.take i++[v.getD i 0]:=by
 rw[List.take_add_one,List.getD_eq_getElem?_getD,List.getElem?_eq_getElem h];rfl
theorem Ov{v:List By}{i:Nat}(h:tn v i=true):bl (v.getD i 0)=true:=by
 simp only[tn,Bool.and_eq_true] at h;exact h.2.1
theorem O7{v:List By}(h:v.all fB=true){i:Nat}(hi:i<v.length):fB (v.getD i 0)=true:=by
 rw[List.getD_eq_getElem?_getD,List.getElem?_eq_getElem hi]
 exact List.all_eq_true.1 h _ (List.getElem_mem hi)
theorem Ow(n v:List By)(hv:v.all fB=true):∀ i,i<=v.length->∃ L,(st n v i).1=n++58::L/\Fo (32::v.take i) L
 | 0,_=>⟨[32],rfl,.byte 32 [] [] Y610 .nil⟩
 | i+1,hi=>by
   obtain⟨L,h1,h2⟩:=Ow n v hv i Y609
   rw[eD v Y609]
   unfold st
   split
   · next ht=>exact⟨L++[13,10,v.getD i 0],by rw[h1];simp,h2.EY (Ov ht.1)⟩
   · exact⟨L++[v.getD i 0],by rw[h1];simp,h2.snoc (O7 hv Y609)⟩
theorem Mr(n v:List By)(hv:v.all fB=true):∃ L,ek n v=n++58::L++[13,10]/\Fo (32::v) L:=by
 obtain⟨L,h1,h2⟩:=Ow n v hv v.length (Nat.le_refl _)
 rw[List.take_length] at h2
 exact⟨L,by rw[ek,h1],h2⟩
def bf(b:List By):List By:=b.takeWhile (· != 10)
def oF(l:List By):List By:=if l.getLast?=some 13 then l.dropLast else l
def cut(b:List By):Option (List By × List By):=if (bf b).length<b.length then some (oF (bf b),b.drop ((bf b).length+1)) else none
theorem ug{b l r:List By}(h:cut b=some (l,r)):r.length<b.length:=by
 unfold cut at h
 split at h
 · cases h
   rw[List.length_drop];omega
 · cases h
def gR(b:List By):Option (List By × List By):=
 if bl (b.getD 0 0)=true/\b≠[] then
  match h:cut b with
  | none=>none
  | some (l,r)=>(gR r).map fun q=>(l++q.1,q.2)
 else some ([],b)
termination_by b.length
decreasing_by exact ug h
def hend(b:List By):Option Nat:=
 match h:cut b with
 | none=>none
 | some (l,r)=>if l=[] then some (b.length-r.length) else(hend r).map (·+(b.length-r.length))
termination_by b.length
decreasing_by exact ug h
def aO(v:List By):List By:=v.dropWhile bl
def trim(v:List By):List By:=(aO (aO v).reverse).reverse
def rd(k:Nat)(b:List By):Except Nat (List (List By × List By) × List By):=
 match h:cut b with
 | none=>.error 3
 | some (l,r)=>
   if l=[] then .ok ([],r)
   else if (l.takeWhile (· != 58)).length=l.length\/¬ c8 (l.takeWhile (· != 58))=true then .error 3
   else if k=200 then .error 4
   else match h2:gR r with
    | none=>.error 3
    | some (vs,r')=>
      if 8192<(trim (l.drop ((l.takeWhile (· != 58)).length+1)++vs)).length then .error 4
      else if ¬ (trim (l.drop ((l.takeWhile (· != 58)).length+1)++vs)).all fB=true then .error 3
      else if hr:r'.length<b.length then(rd (k+1) r').map fun q=>((l.takeWhile (· != 58),trim (l.drop ((l.takeWhile (· != 58)).length+1)++vs))::q.1,q.2)
      else .error 3
termination_by b.length
def jQ(b:List By):Except Nat (List (List By × List By) × List By):=
 if 65536<(hend b).getD b.length then .error 4 else rd 0 b
def clean(p:List By):Prop:=∀ c∈p,c≠10/\c≠13
theorem clean.app{p q:List By}(h:clean p)(k:clean q):clean (p++q):=fun c hc=>by
 rcases List.mem_append.1 hc with h'|h'
 · exact h c h'
 · exact k c h'
theorem nN{c:By}(h:fB c=true):clean [c]:=by
 intro d hd
 rw[List.mem_singleton] at hd
 subst hd
 refine⟨?_,?_⟩ <;> rintro rfl <;> exact absurd h Y610
theorem xu{n:List By}(h:n.all wS=true):clean n:=by
 intro c hc
 have:=List.all_eq_true.1 h c hc
 refine⟨?_,?_⟩ <;> rintro rfl <;> exact absurd this Y610
theorem nO{p:List By}(h:∀ c∈p,c≠10)(b:List By):bf (p++b)=p++bf b:=by
 unfold bf
 rw[List.takeWhile_append_of_pos]
 intro c hc
 exact bne_iff_ne.2 (h c hc)
def Ml(e:List By):Prop:=e=[10]\/e=[13,10]
theorem C7{p:List By}(h:clean p):oF p=p:=by
 unfold oF
 split
 · next hl=>exact absurd rfl ((h 13 (List.mem_of_getLast? hl)).2)
 · rfl
theorem Mt(p:List By):oF (p++[13])=p:=by simp[oF]
theorem kU{p e b:List By}(hp:clean p)(he:Ml e):cut (p++e++b)=some (p,b):=by
 rcases he with rfl|rfl
 · have e1:bf (p++[10]++b)=p:=by
    rw[List.append_assoc,nO (fun c hc=>(hp c hc).1)]
    simp[bf]
   unfold cut
   rw[e1,if_pos (by simp only[List.length_append,List.length_singleton];omega),C7 hp]
   congr 2
   rw[List.append_assoc,List.drop_append,List.drop_of_length_le Y609]
   simp
 · have e1:bf (p++[13,10]++b)=p++[13]:=by
    rw[List.append_assoc,nO (fun c hc=>(hp c hc).1)]
    simp[bf]
   unfold cut
   rw[e1,if_pos Y611,Mt]
   congr 2
   rw[List.append_assoc,List.drop_append,List.length_append,List.length_singleton,List.drop_of_length_le Y609]
   simp[show p.length+1+1-p.length=2 by omega]
end aq
namespace gZ
open aq
def AE:List By:=[39,40,41,43,95,44,45,46,47,58,61,63]
def mP(c:By):Bool:=((decide (48<=c.toNat)&&decide (c.toNat<=57))||(decide (65<=c.toNat)&&decide (c.toNat<=90)))||(decide (97<=c.toNat)&&decide (c.toNat<=122))||AE.any (·==c)
def cG(s:List By):Bool:=s.all mP&&(decide (1<=s.length)&&decide (s.length<=70))
def fk:List By->List By->List (List By × List By)
 | [],x=>if x=[] then [] else [(x,[])]
 | c::r,x=>if c=10 then(if x.getLast?=some 13 then(x.dropLast,[13,10]) else(x,[10]))::fk r [] else fk r (x++[c])
def di(b:List By):List (List By × List By):=fk b []
def gL(s:List By):List By:=(s.reverse.dropWhile bl).reverse
def aX(bd s:List By):Nat:=if gL s=45::45::bd then 1 else if gL s=45::45::(bd++[45,45]) then 2 else 0
def gT(bd:List By):List (List By × List By)->List By->List By->List By × List (List By × List By)
 | [],_,o=>(o,[])
 | (l,e)::r,p,o=>if aX bd l=0 then gT bd r e (o++p++l) else(o,(l,e)::r)
theorem uh(bd:List By):∀ (r:List (List By × List By)) (p o:List By),(gT bd r p o).2.length<=r.length
 | [],_,_=>Nat.le_refl _
 | (l,e)::r,p,o=>by
   unfold gT
   split
   · exact Nat.le_succ_of_le (uh bd r e _)
   · exact Nat.le_refl _
def fD(bd:List By)(r:List (List By × List By))(out:List (List By)):Option (List (List By)):=
 match r with
 | []=>none
 | (l,_)::r'=>if aX bd l=1 then fD bd (gT bd r' [] []).2 (out++[(gT bd r' [] []).1]) else if aX bd l=2 then some out else none
termination_by r.length
decreasing_by exact Nat.lt_succ_of_le (uh bd r' [] [])
def de(b bd:List By):List (List By) × Nat:=
 if cG bd=false then([],1)
 else match fD bd ((di b).dropWhile fun x=>aX bd x.1 != 1) [] with
  | none=>([],3)
  | some out=>(out,0)
theorem I0{s:List By}{n:Nat}(h:n+1<=s.length)(hb:bl (s.getD n 0)=true):gL (s.take (n+1))=gL (s.take n):=by
 have e:s.take (n+1)=s.take n++[s.getD n 0]:=by
  rw[List.take_add_one,List.getElem?_eq_getElem Y609,Option.toList_some,List.getD_eq_getElem?_getD,List.getElem?_eq_getElem Y609]
  rfl
 unfold gL
 rw[e,List.reverse_append,List.reverse_singleton,List.singleton_append,List.dropWhile_cons,if_pos hb]
theorem AG{s:List By}{n:Nat}(h:n+1<=s.length)(hb:bl (s.getD n 0)=false):gL (s.take (n+1))=s.take (n+1):=by
 have e:s.take (n+1)=s.take n++[s.getD n 0]:=by
  rw[List.take_add_one,List.getElem?_eq_getElem Y609,Option.toList_some,List.getD_eq_getElem?_getD,List.getElem?_eq_getElem Y609]
  rfl
 unfold gL
 rw[e,List.reverse_append,List.reverse_singleton,List.singleton_append,List.dropWhile_cons,if_neg Y612,List.reverse_cons,List.reverse_reverse]
end gZ
namespace gZ
open aq
def glue(L:List (List By × List By)):List By:=L.flatMap fun x=>x.1++x.2
def nd(l:List By):Prop:=¬ l.take 2=[45,45]
theorem O8:nd []:=by unfold nd;decide
theorem O9{a b:List By}(h:a <+: b)(hb:nd b):nd a:=by
 obtain⟨t,rfl⟩:=h
 intro e
 refine hb ?_
 have h2:2<=a.length:=by
  have:=congrArg List.length e
  simp only[List.length_take,List.length_cons,List.length_nil] at this
  omega
 rw[List.take_append_of_le_length h2,e]
theorem I1(s:List By):gL s <+: s:=by
 have h:=List.dropWhile_suffix (l:=s.reverse) bl
 have:=List.reverse_prefix.2 h
 rwa [List.reverse_reverse] at this
theorem EZ{bd s:List By}(h:nd s):aX bd s=0:=by
 have hc:=O9 (I1 s) h
 unfold aX
 rw[if_neg (fun e=>hc Y613),if_neg (fun e=>hc Y613)]
theorem xw{s:List By}(h:∀ c∈s,bl c=false):gL s=s:=by
 unfold gL
 cases hr:s.reverse with
 | nil=>rw[List.reverse_eq_nil_iff.1 hr];rfl
 | cons c r=>
   have hc:bl c=false:=h c (by rw[<- List.mem_reverse,hr];exact List.mem_cons_self)
   rw[List.dropWhile_cons,if_neg (by rw[hc];decide),<- hr,List.reverse_reverse]
theorem I2:∀ c:By,mP c=true->bl c=false/\c≠10/\c≠13:=by
 have h:∀ c:Fin 256,mP (BitVec.ofNat 8 c.val)=true->bl (BitVec.ofNat 8 c.val)=false/\BitVec.ofNat 8 c.val≠10/\BitVec.ofNat 8 c.val≠13:=by decide +kernel
 intro c
 simpa using h ⟨c.toNat,c.isLt⟩
theorem xx{bd:List By}(hb:cG bd=true):∀ c∈bd,mP c=true:=by
 unfold cG at hb
 rw[Bool.and_eq_true] at hb
 exact List.all_eq_true.1 hb.1
theorem E2{bd:List By}(hb:cG bd=true):∀ c∈45::45::bd,bl c=false/\c≠10/\c≠13:=by
 intro c hc
 simp only[List.mem_cons] at hc
 rcases hc with rfl|rfl|hc
 · decide
 · decide
 · exact I2 c (xx hb c hc)
theorem AH{bd:List By}(hb:cG bd=true):∀ c∈45::45::(bd++[45,45]),bl c=false/\c≠10/\c≠13:=by
 intro c hc
 simp only[List.mem_cons,List.mem_append,List.not_mem_nil,or_false] at hc
 rcases hc with rfl|rfl|hc|rfl|rfl
 · decide
 · decide
 · exact I2 c (xx hb c hc)
 · decide
 · decide
theorem uj{bd:List By}(hb:cG bd=true):aX bd (45::45::bd)=1:=by
 unfold aX
 rw[xw (fun c hc=>(E2 hb c hc).1),if_pos rfl]
theorem AI{bd:List By}(hb:cG bd=true):aX bd (45::45::(bd++[45,45]))=2:=by
 unfold aX
 rw[xw (fun c hc=>(AH hb c hc).1),if_neg (fun e=>by have:=congrArg List.length e;simp at this),if_pos rfl]
theorem tC:∀ (b r x:List By),fk (b++10::r) x=fk (b++[10]) x++fk r []
 | [],r,x=>by simp[fk]
 | c::b,r,x=>by
   simp only[List.cons_append,fk]
   split
   · rw[tC b r []];rfl
   · rw[tC b r _]
theorem E3:∀ (a r x:List By),(∀ c∈a,c≠10)->fk (a++r) x=fk r (x++a)
 | [],r,x,_=>by simp
 | c::a,r,x,h=>by
   simp only[List.cons_append,fk]
   rw[if_neg (h c List.mem_cons_self),E3 a r _ (fun c' hc=>h c' (List.mem_cons_of_mem _ hc))]
   simp
theorem AJ{a:List By}(h:∀ c∈a,c≠10)(r:List By):di (a++13::10::r)=(a,[13,10])::di r:=by
 unfold di
 rw[E3 a _ [] h,List.nil_append]
 simp[fk]
theorem uk{D:List By->Prop}(h0:D []):∀ (p x:List By),(∀ q∈fk p x,D q.1)->∃ L l,fk (p++[13,10]) x=L++[(l,[13,10])]/\(∀ q∈L,D q.1)/\D l/\x++p=glue L++l
 | [],x,h=>by
   refine⟨[],x,by simp[fk],by simp,?_,by simp[glue]⟩
   by_cases e:x=[]
   · rw[e];exact h0
   · exact h (x,[]) (by simp[fk,e])
 | c::p,x,h=>by
   by_cases hc:c=10
   · subst hc
     simp only[fk,if_true] at h
     obtain⟨L,l,h1,h2,h3,h4⟩:=uk h0 p [] (fun q hq=>h q (List.mem_cons_of_mem _ hq))
     have h5:=h _ List.mem_cons_self
     simp only[List.nil_append] at h4
     by_cases e:x.getLast?=some 13
     · rw[if_pos e] at h5
       refine⟨(x.dropLast,[13,10])::L,l,by rw[List.cons_append,fk,if_pos rfl,if_pos e,h1];rfl,?_,h3,?_⟩
       · intro q hq
         rcases List.mem_cons.1 hq with rfl|hq
         · exact h5
         · exact h2 q hq
       · obtain⟨hx,e2⟩:=List.getLast?_eq_some_iff.1 e
         subst e2
         simp only[glue,List.flatMap_cons,List.dropLast_concat,h4]
         simp
     · rw[if_neg e] at h5
       refine⟨(x,[10])::L,l,by rw[List.cons_append,fk,if_pos rfl,if_neg e,h1];rfl,?_,h3,?_⟩
       · intro q hq
         rcases List.mem_cons.1 hq with rfl|hq
         · exact h5
         · exact h2 q hq
       · simp only[glue,List.flatMap_cons,h4]
         simp
   · simp only[fk,if_neg hc] at h
     obtain⟨L,l,h1,h2,h3,h4⟩:=uk h0 p (x++[c]) h
     exact⟨L,l,by rw[List.cons_append,fk,if_neg hc,h1],h2,h3,by rw[<- h4];simp⟩
theorem E4{bd:List By}:∀ (L:List (List By × List By)) (l e p o:List By) (m:List (List By × List By)),(∀ q∈L,aX bd q.1=0)->aX bd l=0->(∀ q∈m.head?,aX bd q.1≠0)->gT bd (L++(l,e)::m) p o=(o++p++glue L++l,m)
 | [],l,e,p,o,m,_,hl,hm=>by
   rw[List.nil_append,gT,if_pos hl]
   cases m with
   | nil=>simp[gT,glue]
   | cons q m=>
     rw[gT,if_neg (hm q Y614)]
     simp[glue]
 | (a,ea)::L,l,e,p,o,m,h,hl,hm=>by
   rw[List.cons_append,gT,if_pos (h _ List.mem_cons_self),E4 L l e ea _ m (fun q hq=>h q (List.mem_cons_of_mem _ hq)) hl hm]
   simp[glue]
def jn(bd:List By)(parts:List (List By))(behind:List By):List By:=(parts.flatMap fun p=>45::45::bd++([13,10]++(p++[13,10])))++(45::45::(bd++[45,45])++([13,10]++behind))
theorem C8{bd:List By}(hb:cG bd=true)(behind:List By):∀ (parts out:List (List By)),parts≠[]->(∀ p∈parts,∀ q∈di p,aX bd q.1=0)->
  ∃ t,di (jn bd parts behind)=(45::45::bd,[13,10])::t/\fD bd (di (jn bd parts behind)) out=some (out++parts)
 | [],_,h,_=>absurd rfl h
 | p::ps,out,_,hp=>by
   obtain⟨L,l,h1,h2,h3,h4⟩:=uk (D:=fun q=>aX bd q=0) (EZ O8) p [] (hp p List.mem_cons_self)
   have e:di (jn bd (p::ps) behind)=(45::45::bd,[13,10])::(L++(l,[13,10])::di (jn bd ps behind)):=by
    have e0:jn bd (p::ps) behind=(45::45::bd)++13::10::((p++[13])++10::jn bd ps behind):=by simp[jn]
    rw[e0,AJ (fun c hc=>(E2 hb c hc).2.1)]
    unfold di
    rw[tC,show p++[13]++[10]=p++[13,10] by simp,h1]
    simp
   refine⟨_,e,?_⟩
   rw[List.nil_append] at h4
   have hlast:di (jn bd [] behind)=(45::45::(bd++[45,45]),[13,10])::di behind:=by
    have e0:jn bd [] behind=(45::45::(bd++[45,45]))++13::10::behind:=by simp[jn]
    rw[e0,AJ (fun c hc=>(AH hb c hc).2.1)]
   have hm:∀ q∈(di (jn bd ps behind)).head?,aX bd q.1≠0:=by
    intro q hq
    cases ps with
    | nil=>
      rw[hlast] at hq
      simp only[List.head?_cons,Option.mem_some_iff] at hq
      subst hq
      rw[AI hb];decide
    | cons p2 ps=>
      obtain⟨t,ht,_⟩:=C8 hb behind (p2::ps) [] Y614 (fun p hp'=>hp p (List.mem_cons_of_mem _ hp'))
      rw[ht] at hq
      simp only[List.head?_cons,Option.mem_some_iff] at hq
      subst hq
      rw[uj hb];decide
   rw[e,fD,uj hb,if_pos rfl,E4 L l _ [] [] _ h2 h3 hm]
   simp only[List.nil_append,<- h4]
   cases ps with
   | nil=>rw[hlast,fD,AI hb,if_neg Y610,if_pos rfl]
   | cons p2 ps=>
     obtain⟨t,ht,hs⟩:=C8 hb behind (p2::ps) (out++[p]) Y614 (fun p hp'=>hp p (List.mem_cons_of_mem _ hp'))
     rw[hs]
     simp
theorem E5{bd behind:List By}{parts:List (List By)}(hb:cG bd=true)(hne:parts≠[])(hP:∀ p∈parts,∀ q∈di p,aX bd q.1=0):de (jn bd parts behind) bd=(parts,0):=by
 obtain⟨t,ht,hs⟩:=C8 hb behind parts [] hne hP
 unfold de
 rw[if_neg Y612,ht,List.dropWhile_cons,if_neg (by rw[uj hb];decide),<- ht,hs]
 rfl
end gZ
namespace aq
abbrev fP:=List By × List By
def dP(n:List By)(l:List fP):List (List By):=(l.filter fun p=>bY p.1 n).map (·.2)
def dg(l:List fP):List By:=l.flatMap fun p=>ek p.1 p.2
def bJ(l:List fP)(b:List By):Nat:=if l.all (fun p=>c8 p.1&&fC p.2) then(if 200<l.length\/65536<(dg l).length+2\/2097152<(dg l).length+2+b.length then 4 else 0) else 3
def bt(l:List fP)(b:List By):List By:=if bJ l b=0 then dg l++[13,10]++b else []
theorem all_cons(n:List By)(p:fP)(l:List fP):dP n (p::l)=if bY p.1 n then p.2::dP n l else dP n l:=by
 unfold dP
 rw[List.filter_cons]
 split <;> rfl
theorem all_nil(n:List By):dP n []=[]:=rfl
end aq
namespace Tok
open aq
def Pa(c:By)(s:List By):Bool:=s.any fun d=>d==c
def spec:List By:=[40,41,60,62,64,44,59,58,92,34,47,91,93,63,61,46]
def aW(c:By):Bool:=decide (33<=c.toNat)&&decide (c.toNat<=126)&&!Pa c spec
def ck(c:By):Bool:=aW c||Pa c [46,47,58,63]
def dh(s:List By):Bool:=s.all aW&&decide (0<s.length)
def cY(s:List By):Bool:=s.all ck&&decide (0<s.length)
def aU:List By->Nat->Bool->List By->List By × Nat
 | [],d,q,o=>if 0<d\/q=true then([],3) else(o,0)
 | c::r,d,q,o=>
   if c=92/\(0<d\/q=true) then
    match r with
    | []=>([],3)
    | c2::r'=>aU r' d q (if q then o++[c,c2] else o)
   else if q then aU r d (!(c==34)) (o++[c])
   else if c=40 then(if 9<d+1 then([],5) else aU r (d+1) q o)
   else if c=41 then(if d=0 then([],3) else aU r (d-1) q (if d-1=0 then o++[32] else o))
   else if d=0 then aU r d (c==34) (o++[c])
   else aU r d q o
def dW(s:List By):List By × Nat:=aU s 0 false []
def qU:List By->By->Bool
 | [],l=>!(l==46)
 | c::r,l=>if (c=46/\l=46)\/(¬ c=46/\aW c=false) then false else qU r c
def gM(s:List By):Bool:=qU s 46
def fst(c:By)(s:List By):Nat:=(s.takeWhile fun d=>!(d==c)).length
def Q1(s:List By):List By:=(s.reverse.takeWhile fun d=>!(d==60)).reverse
def iF(s:List By):List By × Nat:=
 if fst 64 s=s.length\/gM (s.take (fst 64 s))=false\/gM (s.drop (fst 64 s+1))=false then([],3)
 else(s.take (fst 64 s+1)++(s.drop (fst 64 s+1)).map small,0)
def oy(s:List By):List By × Nat:=
 if 0<s.length/\s.getD (s.length-1) 0=62 then
  (if 60∈s then iF (trim (Q1 s.dropLast)) else([],3))
 else iF s
def cH(s:List By):List By × Nat:=if (dW s).2=0 then oy (trim (dW s).1) else([],(dW s).2)
def iC:List By->List (List By)->Option (List By)->List (List By) × Nat
 | [],o,none=>(o,0)
 | [],_,some _=>([],3)
 | c::r,o,none=>if bl c then iC r o none else if c=60 then iC r o (some []) else([],3)
 | c::r,o,some x=>if c=62 then(if x.length=0 then([],3) else iC r (o++[x]) none)
   else if c.toNat<33\/126<c.toNat\/c=60 then([],3) else iC r o (some (x++[c]))
def mQ(s:List By):List (List By) × Nat:=if (dW s).2=0 then iC (dW s).1 [] none else([],(dW s).2)
def gy(s:List By):Bool:=decide (fst 47 s<s.length)&&(dh (s.take (fst 47 s))&&dh (s.drop (fst 47 s+1)))
def gV:List By->List By->List By × List By
 | [],o=>(o,[])
 | c::r,o=>if c=34 then(o,c::r) else if c=92 then(match r with|[]=>(o,[])|c2::r'=>gV r' (o++[c2])) else gV r (o++[c])
def gz(s:List By):Option (List By × List By):=
 if fst 61 s=s.length then none
 else if dh (trim (s.take (fst 61 s)))=false then none
 else if cY (trim (s.drop (fst 61 s+1))) then some ((trim (s.take (fst 61 s))).map small,trim (s.drop (fst 61 s+1)))
 else if (trim (s.drop (fst 61 s+1))).length<2\/¬ (trim (s.drop (fst 61 s+1))).getD 0 0=34 then none
 else if (gV (trim (s.drop (fst 61 s+1))).tail []).2=[34]/\(gV (trim (s.drop (fst 61 s+1))).tail []).1.all fB=true then
  some ((trim (s.take (fst 61 s))).map small,(gV (trim (s.drop (fst 61 s+1))).tail []).1)
 else none
def dL:List By->Bool->List By->List (List By)
 | [],_,x=>[x]
 | c::r,q,x=>
   if q=true/\c=92 then
    match r with
    | []=>[x++[c]]
    | c2::r'=>dL r' q (x++[c,c2])
   else if c=34 then dL r (!q) (x++[c])
   else if c=59/\q=false then x::dL r q []
   else dL r q (x++[c])
def pN(s:List By):List (List By):=dL s false []
def nP(s:List By):List By × List (List By × List By) × Nat:=
 if gy (trim ((pN s).headD []))=false then([],[],3)
 else match (pN s).tail.mapM gz with
  | none=>([],[],3)
  | some l=>((trim ((pN s).headD [])).map small,l,0)
def eo(s:List By):List By × List (List By × List By) × Nat:=if (dW s).2=0 then nP (dW s).1 else([],[],(dW s).2)
def dQ(k:List By)(l:List (List By × List By)):Bool:=
 l.all (fun p=>dh p.1&&decide (p.1.map small=p.1)&&p.2.all fB)&&gy k&&decide (k.map small=k)
def esc(s:List By):List By:=s.flatMap fun c=>if c=34\/c=92 then [92,c] else [c]
def jR(p:List By × List By):List By:=[59,32]++p.1++[61]++(if cY p.2 then p.2 else [34]++esc p.2++[34])
def dj(k:List By)(l:List (List By × List By)):List By:=k++l.flatMap jR
theorem jI(c:aq.By)(r:List aq.By)(d:Nat)(q:Bool)(o:List aq.By)(h:¬ (c=92/\(0<d\/q=true))):aU (c::r) d q o=if q then aU r d (!(c==34)) (o++[c])
  else if c=40 then(if 9<d+1 then([],5) else aU r (d+1) q o)
  else if c=41 then(if d=0 then([],3) else aU r (d-1) q (if d-1=0 then o++[32] else o))
  else if d=0 then aU r d (c==34) (o++[c])
  else aU r d q o:=by
 conv=>lhs;rw[aU.eq_def]
 dsimp only
 rw[if_neg h]
theorem pO(c2:aq.By)(r:List aq.By)(d:Nat)(o:List aq.By):aU (92::c2::r) d true o=aU r d true (o++[92]++[c2]):=by simp[aU]
theorem qV(d:Nat)(o:List aq.By):aU [92] d true o=([],3):=by simp[aU]
theorem qW{c:aq.By}(h:¬ c=92)(r:List aq.By)(d:Nat)(o:List aq.By):aU (c::r) d true o=aU r d (!(c==34)) (o++[c]):=by rw[jI _ _ _ _ _ (fun k=>h k.1),if_pos rfl]
theorem um{d:Nat}(h:0<d)(c2:aq.By)(r:List aq.By)(o:List aq.By):aU (92::c2::r) d false o=aU r d false o:=by simp[aU,h]
theorem qX{d:Nat}(h:0<d)(o:List aq.By):aU [92] d false o=([],3):=by simp[aU,h]
theorem ko(r:List aq.By)(d:Nat)(o:List aq.By):aU (40::r) d false o=if 9<d+1 then([],5) else aU r (d+1) false o:=by
 rw[jI _ _ _ _ _ (by rintro⟨h,_⟩;revert h;decide),if_neg Y610,if_pos rfl]
theorem lQ(r:List aq.By)(d:Nat)(o:List aq.By):aU (41::r) d false o=if d=0 then([],3) else aU r (d-1) false (if d-1=0 then o++[32] else o):=by
 rw[jI _ _ _ _ _ (by rintro⟨h,_⟩;revert h;decide),if_neg Y610,if_neg Y610,if_pos rfl]
theorem lR{c:aq.By}(h1:¬ c=40)(h2:¬ c=41)(r:List aq.By)(o:List aq.By):aU (c::r) 0 false o=aU r 0 (c==34) (o++[c]):=by
 rw[jI _ _ _ _ _ (by rintro⟨_,h|h⟩;exact absurd h Y610;cases h),if_neg Y610,if_neg h1,if_neg h2,if_pos rfl]
theorem mR{c:aq.By}{d:Nat}(h0:¬ c=92)(h1:¬ c=40)(h2:¬ c=41)(hd:¬ d=0)(r:List aq.By)(o:List aq.By):aU (c::r) d false o=aU r d false o:=by
 rw[jI _ _ _ _ _ (fun k=>h0 k.1),if_neg Y610,if_neg h1,if_neg h2,if_neg hd]
theorem gW(d:Nat)(q:Bool)(o:List aq.By):aU [] d q o=if (decide ((0:Int)<(d:Int))||q)=true then([],3) else(o,0):=by
 rw[aU]
 congr 1
 rw[Bool.or_eq_true,decide_eq_true_eq]
 exact propext (or_congr Y609 Iff.rfl)
theorem AK:∀ (n:Nat) (r:List aq.By) (d:Nat) (q:Bool) (o:List aq.By),r.length<=n->(aU r d q o).1.length<=o.length+r.length:=by
 intro n
 induction n with
 | zero=>
   intro r d q o h
   obtain rfl:r=[]:=List.eq_nil_of_length_eq_zero Y609
   rw[gW]
   split <;> simp
 | succ n ih=>
   intro r d q o h
   match r,h with
   | [],_=>rw[gW];split <;> simp
   | c::r,h=>
     simp only[List.length_cons] at h⊢
     by_cases h9:c=92/\(0<d\/q=true)
     · obtain⟨rfl,hq⟩:=h9
       match r,h with
       | [],_=>
         cases q
         · rw[qX (by simpa using hq)];simp
         · rw[qV];simp
       | c2::r,h=>
         simp only[List.length_cons] at h⊢
         cases q
         · rw[um (by simpa using hq)]
           have:=ih r d false o Y609
           omega
         · rw[pO]
           have:=ih r d true (o++[92]++[c2]) Y609
           simp only[List.length_append,List.length_cons,List.length_nil] at this
           omega
     · rw[jI c r d q o h9]
       have h0:=ih r d (!(c==34)) (o++[c]) Y609
       have h1:=ih r (d+1) q o Y609
       have h2:=ih r (d-1) q (if d-1=0 then o++[32] else o) Y609
       have h3:=ih r d (c==34) (o++[c]) Y609
       have h4:=ih r d q o Y609
       have h5:(if d-1=0 then o++[32] else o).length<=o.length+1:=by split <;> simp
       simp only[List.length_append,List.length_cons,List.length_nil] at h0 h3
       generalize (if d-1=0 then o++[32] else o)=o2 at h2 h5⊢
       split
       · omega
       split
       · split
         · simp
         · omega
       split
       · split
         · simp
         · omega
       split
       · omega
       · omega
theorem kV(s:List aq.By):(dW s).1.length<=s.length:=by
 have:=AK s.length s 0 false [] (Nat.le_refl _)
 simp only[List.length_nil,Nat.zero_add] at this
 exact this
theorem C9(r o:List aq.By):gV (34::r) o=(o,34::r):=by rw[gV.eq_def];rfl
theorem Mu(o:List aq.By):gV [92] o=(o,[]):=by rw[gV.eq_def];rfl
theorem Da(c2:aq.By)(r o:List aq.By):gV (92::c2::r) o=gV r (o++[c2]):=by
 conv=>lhs;rw[gV.eq_def]
 rfl
theorem I3{c:aq.By}(h1:¬ c=34)(h2:¬ c=92)(r o:List aq.By):gV (c::r) o=gV r (o++[c]):=by
 conv=>lhs;rw[gV.eq_def]
 dsimp only
 rw[if_neg h1,if_neg h2]
theorem Ox(o:List aq.By):gV [] o=(o,[]):=rfl
end Tok
namespace Tok
open aq
def Inv(o:List By)(q:Bool):Prop:=∀ r:List By,aU (o++r) 0 false []=aU r 0 q o
theorem Inv.q{o:List By}{c:By}(h:Inv o true)(hc:¬ c=92):Inv (o++[c]) (!(c==34)):=fun r=>by
 rw[List.append_assoc,h,List.singleton_append,qW hc]
theorem Inv.n{o:List By}{c:By}(h:Inv o false)(h1:¬ c=40)(h2:¬ c=41):Inv (o++[c]) (c==34):=fun r=>by
 rw[List.append_assoc,h,List.singleton_append,lR h1 h2]
end Tok
namespace Tok
open aq
theorem ga(p:By->Bool)(h:∀ c:Fin 256,p (BitVec.ofNat 8 c.val)=true)(c:By):p c=true:=by simpa using h ⟨c.toNat,c.isLt⟩
theorem AL(c:By):aW (small c)=aW c/\((small c=46)↔(c=46))/\small (small c)=small c:=by
 have:=ga (fun c=>(aW (small c)==aW c)&&(decide (small c=46)==decide (c=46))&&decide (small (small c)=small c)) Y615 c
 simpa [Bool.and_eq_true,and_assoc] using this
def good(c:By):Bool:=c==46||aW c||c==64
theorem I4(c:By)(h:good c=true):¬ c=34/\¬ c=40/\¬ c=41/\¬ c=62/\bl c=false:=by
 have:=ga (fun c=>!good c||(!decide (c=34)&&(!decide (c=40)&&(!decide (c=41)&&(!decide (c=62)&&!bl c))))) Y615 c
 rw[h] at this
 simpa using this
theorem tD(c:By)(h:c=46\/aW c=true):good c=true/\¬ c=64:=by
 have:=ga (fun c=>!(decide (c=46)||aW c)||(good c&&!decide (c=64))) Y615 c
 rw[show(decide (c=46)||aW c)=true by simpa using h] at this
 simpa using this
theorem y7:∀ (s:List By) (l:By),qU s l=true->∀ c∈s,c=46\/aW c=true
 | [],_,_,c,hc=>by cases hc
 | d::r,l,h,c,hc=>by
   rw[qU] at h
   split at h
   · cases h
   · next hn=>
     rcases List.mem_cons.1 hc with rfl|hc
     · by_cases h4:c=46
       · exact .inl h4
       · right
         cases hp:aW c
         · exact absurd (Or.inr ⟨h4,hp⟩) hn
         · rfl
     · exact y7 r d h c hc
theorem y8{c:By}:∀ (p r:List By),(∀ d∈p,¬ d=c)->fst c (p++c::r)=p.length
 | [],r,_=>by
   unfold fst
   rw[List.nil_append,List.takeWhile_cons,if_neg Y614]
   try rfl
 | d::p,r,h=>by
   have:=y8 p r fun e he=>h e (by simp[he])
   unfold fst at this⊢
   rw[List.cons_append,List.takeWhile_cons,if_pos (by simpa using h d Y614),List.length_cons,this,List.length_cons]
theorem Mv{p r:List By}{c:By}{k:Nat}{u:List By}(hu:u=p++c::r)(hk:p.length=k):u.take (k+1)=p++[c]:=by
 subst hu hk
 rw[show p.length+1=(p++[c]).length by simp,show p++c::r=(p++[c])++r by simp,List.take_left]
theorem uo{c:By}:∀ (u:List By),fst c u<u.length->u=u.take (fst c u)++c::u.drop (fst c u+1)
 | [],h=>by simp at h
 | d::r,h=>by
   by_cases hd:d=c
   · subst hd
     have:fst d (d::r)=0:=by
      unfold fst
      rw[List.takeWhile_cons,if_neg Y614];rfl
     rw[this]
     rfl
   · have e:fst c (d::r)=fst c r+1:=by
      unfold fst
      rw[List.takeWhile_cons,if_pos (by simpa using hd)];rfl
     rw[e] at h⊢
     rw[List.take_succ_cons,List.drop_succ_cons,List.cons_append,<- uo r Y616]
end Tok
namespace Tok
open aq
def jS(c:By):Bool:=decide (33<=c.toNat)&&(decide (c.toNat<=126)&&(!(c==60)&&(!(c==62)&&(!(c==40)&&(!(c==41)&&(!(c==34)&&!(c==92)))))))
def S0(k:Nat):List By:=[[],[32],[9,40,120,41],[40,97,32,40,98,41,32,99,41,32]].getD k []
def I5(k:Nat):List By:=[[],[32],[9,32],[32,32]].getD k []
def so(ps:List (List By × Nat)):List By:=ps.flatMap fun p=>S0 p.2++60::p.1++[62]
def mS(ps:List (List By × Nat)):List By:=ps.flatMap fun p=>I5 p.2++60::p.1++[62]
theorem kW:∀ (a r o:List By),(∀ c∈a,¬ c=34/\¬ c=40/\¬ c=41)->aU (a++r) 0 false o=aU r 0 false (o++a)
 | [],r,o,_=>by rw[List.append_nil];rfl
 | c::a,r,o,h=>by
   obtain⟨h1,h2,h3⟩:=h c Y614
   rw[List.cons_append,lR h2 h3,show(c==34)=false from beq_eq_false_iff_ne.2 h1,kW a r _ fun d hd=>h d Y617,List.append_assoc]
   rfl
theorem I6(k:Nat)(r o:List By):aU (S0 k++r) 0 false o=aU r 0 false (o++I5 k):=by
 have h0:aU ([9,40,120,41]++r) 0 false o=aU r 0 false (o++[9,32]):=by
  show aU (9::40::120::41::r) 0 false o=_
  rw[lR Y610 Y610,show((9:By)==34)=false from rfl,ko,if_neg Y610,mR Y610 Y610 Y610 Y610,lQ,if_neg Y610,if_pos Y610,List.append_assoc]
  rfl
 have h1:aU ([40,97,32,40,98,41,32,99,41,32]++r) 0 false o=aU r 0 false (o++[32,32]):=by
  show aU (40::97::32::40::98::41::32::99::41::32::r) 0 false o=_
  rw[ko,if_neg Y610,mR Y610 Y610 Y610 Y610,mR Y610 Y610 Y610 Y610,ko,if_neg Y610,mR Y610 Y610 Y610 Y610,lQ,if_neg Y610,if_neg Y610,mR Y610 Y610 Y610 Y610,mR Y610 Y610 Y610 Y610,lQ,if_neg Y610,if_pos Y610,lR Y610 Y610,List.append_assoc]
  rfl
 match k with
 | 0=>show aU r 0 false o=aU r 0 false (o++[]);rw[List.append_nil]
 | 1=>exact kW [32] r o Y610
 | 2=>exact h0
 | 3=>exact h1
 | k+4=>show aU r 0 false o=aU r 0 false (o++[]);rw[List.append_nil]
theorem E6{c:By}(h:jS c=true):33<=c.toNat/\c.toNat<=126/\¬ c=60/\¬ c=62/\¬ c=40/\¬ c=41/\¬ c=34/\¬ c=92:=by
 unfold jS at h
 simpa using h
theorem xy:∀ (ps:List (List By × Nat)) (r o:List By),(∀ p∈ps,∀ c∈p.1,jS c=true)->aU (so ps++r) 0 false o=aU r 0 false (o++mS ps)
 | [],r,o,_=>by show aU r 0 false o=aU r 0 false (o++[]);rw[List.append_nil]
 | p::ps,r,o,h=>by
   have e:so (p::ps)++r=S0 p.2++((60::p.1++[62])++(so ps++r)):=by
    unfold so
    rw[List.flatMap_cons]
    simp
   have e2:o++I5 p.2++(60::p.1++[62])++mS ps=o++mS (p::ps):=by
    unfold mS
    rw[List.flatMap_cons]
    simp
   rw[e,I6,kW (60::p.1++[62]),xy ps r _ (fun q hq=>h q Y618),e2]
   intro c hc
   rcases List.mem_append.1 hc with hc|hc
   · rcases List.mem_cons.1 hc with rfl|hc
     · decide
     · obtain⟨_,_,_,_,h5,h6,h7,_⟩:=E6 (h p Y614 c hc)
       exact⟨h7,h5,h6⟩
   · rw[List.mem_singleton] at hc
     subst hc
     decide
theorem I7:∀ (a r:List By) (o:List (List By)) (x:List By),(∀ c∈a,jS c=true)->iC (a++r) o (some x)=iC r o (some (x++a))
 | [],r,o,x,_=>by rw[List.append_nil];rfl
 | c::a,r,o,x,h=>by
   obtain⟨h1,h2,h3,h4,_⟩:=E6 (h c Y614)
   rw[List.cons_append,iC,if_neg h4,if_neg (by rintro(k|k|k);omega;omega;exact h3 k),I7 a r o _ fun d hd=>h d Y617,List.append_assoc]
   rfl
theorem Mw(k:Nat)(r:List By)(o:List (List By)):iC (I5 k++r) o none=iC r o none:=by
 match k with
 | 0=>rfl
 | 1=>rfl
 | 2=>rfl
 | 3=>rfl
 | k+4=>rfl
theorem xz:∀ (ps:List (List By × Nat)) (o:List (List By)),(∀ p∈ps,0<p.1.length/\∀ c∈p.1,jS c=true)->iC (mS ps) o none=(o++ps.map (·.1),0)
 | [],o,_=>by show(o,0)=_;simp
 | p::ps,o,h=>by
   obtain⟨hl,hc⟩:=h p Y614
   have e:mS (p::ps)=I5 p.2++(60::(p.1++(62::mS ps))):=by
    unfold mS
    rw[List.flatMap_cons]
    simp
   rw[e,Mw]
   show(if bl 60 then _ else if (60:By)=60 then iC (p.1++(62::mS ps)) o (some []) else _)=_
   rw[if_neg Y610,if_pos rfl,I7 _ _ _ _ hc,List.nil_append]
   show(if (62:By)=62 then(if p.1.length=0 then _ else iC (mS ps) (o++[p.1]) none) else _)=_
   rw[if_pos rfl,if_neg Y609,xz ps _ fun q hq=>h q Y618]
   simp
theorem I8{ps:List (List By × Nat)}(h:∀ p∈ps,0<p.1.length/\∀ c∈p.1,jS c=true):mQ (so ps)=(ps.map (·.1),0):=by
 have hb:dW (so ps)=(mS ps,0):=by
  have:=xy ps [] [] fun p hp=>(h p hp).2
  rw[List.append_nil] at this
  exact this
 unfold mQ
 rw[hb]
 dsimp only
 rw[if_pos rfl,xz ps [] h]
 rfl
end Tok
namespace Tok
open aq
theorem qY{c:By}(h:aW c=true):¬ c=34/\¬ c=40/\¬ c=41:=by
 have:=I4 c (tD c (.inr h)).1
 exact⟨this.1,this.2.1,this.2.2.1⟩
theorem Gv{c:By}(h:ck c=true):¬ c=34/\¬ c=40/\¬ c=41:=by
 have:=ga (fun c=>!ck c||(!decide (c=34)&&(!decide (c=40)&&!decide (c=41)))) Y615 c
 rw[h] at this
 simpa using this
theorem er{s:List By}(h:dh s=true):∀ c∈s,aW c=true:=by
 unfold dh at h
 rw[Bool.and_eq_true,List.all_eq_true] at h
 exact h.1
theorem fm{s:List By}(h:cY s=true):∀ c∈s,ck c=true:=by
 unfold cY at h
 rw[Bool.and_eq_true,List.all_eq_true] at h
 exact h.1
theorem y9{k:List By}(h:gy k=true):∃ a b,k=a++47::b/\dh a=true/\dh b=true:=by
 unfold gy at h
 simp only[Bool.and_eq_true,decide_eq_true_eq] at h
 exact⟨_,_,uo k h.1,h.2.1,h.2.2⟩
theorem uq:∀ (v r o:List By),aU (esc v++34::r) 0 true o=aU r 0 false (o++esc v++[34])
 | [],r,o=>by
   show aU (34::r) 0 true o=_
   rw[qW Y610,show esc []=[] from rfl,List.append_nil]
   rfl
 | c::v,r,o=>by
   have e:esc (c::v)=(if c=34\/c=92 then [92,c] else [c])++esc v:=by unfold esc;rw[List.flatMap_cons]
   rw[e]
   by_cases h:c=34\/c=92
   · rw[if_pos h]
     show aU (92::c::(esc v++34::r)) 0 true o=_
     rw[pO,uq v r]
     congr 1
     simp
   · rw[if_neg h]
     show aU (c::(esc v++34::r)) 0 true o=_
     rw[qW (fun k=>h (.inr k)),show(!(c==34))=true from by simpa using fun k=>h (.inl k),uq v r]
     congr 1
     simp
theorem I9{p:List By × List By}(h:dh p.1=true)(r o:List By):aU (jR p++r) 0 false o=aU r 0 false (o++jR p):=by
 have h1:∀ c∈[59,32]++p.1++[61],¬ c=34/\¬ c=40/\¬ c=(41:By):=by
  intro c hc
  rcases List.mem_append.1 hc with hc|hc
  · rcases List.mem_append.1 hc with hc|hc
    · exact(by decide:∀ c∈([59,32]:List By),¬ c=34/\¬ c=40/\¬ c=41) c hc
    · exact qY (er h c hc)
  · rw[List.mem_singleton] at hc
    subst hc
    decide
 unfold jR
 rw[List.append_assoc,kW _ _ _ h1]
 cases hs:cY p.2
 · rw[if_neg Y610]
   show aU (34::(esc p.2++[34]++r)) 0 false _=_
   rw[lR Y610 Y610,show((34:By)==34)=true from rfl,List.append_assoc,List.singleton_append,uq]
   congr 1
   simp
 · rw[if_pos rfl,kW _ _ _ fun c hc=>Gv (fm hs c hc),List.append_assoc]
theorem xA:∀ (l:List (List By × List By)) (r o:List By),(∀ p∈l,dh p.1=true)->aU (l.flatMap jR++r) 0 false o=aU r 0 false (o++l.flatMap jR)
 | [],r,o,_=>by show aU r 0 false o=aU r 0 false (o++[]);rw[List.append_nil]
 | p::l,r,o,h=>by
   rw[List.flatMap_cons,List.append_assoc,I9 (h p Y614),xA l r _ fun q hq=>h q Y618,List.append_assoc]
theorem AM{k:List By}{l:List (List By × List By)}(h:dQ k l=true):gy k=true/\k.map small=k/\∀ p∈l,dh p.1=true/\p.1.map small=p.1/\p.2.all fB=true:=by
 unfold dQ at h
 simp only[Bool.and_eq_true,decide_eq_true_eq,List.all_eq_true] at h
 exact⟨h.1.2,h.2,fun p hp=>⟨(h.1.1 p hp).1.1,(h.1.1 p hp).1.2,by rw[List.all_eq_true];exact(h.1.1 p hp).2⟩⟩
theorem Db{k:List By}{l:List (List By × List By)}(h:dQ k l=true)(r o:List By):aU (dj k l++r) 0 false o=aU r 0 false (o++dj k l):=by
 obtain⟨hk,_,hl⟩:=AM h
 obtain⟨a,b,rfl,ha,hb⟩:=y9 hk
 unfold dj
 rw[List.append_assoc,kW,xA l r _ fun p hp=>(hl p hp).1,List.append_assoc]
 intro c hc
 rcases List.mem_append.1 hc with hc|hc
 · exact qY (er ha c hc)
 · rcases List.mem_cons.1 hc with rfl|hc
   · decide
   · exact qY (er hb c hc)
theorem za{k:List By}{l:List (List By × List By)}(h:dQ k l=true):dW (dj k l)=(dj k l,0):=by
 have:=Db h [] []
 rw[List.append_nil] at this
 exact this
end Tok
namespace Tok
open aq
theorem zb:∀ (v r o:List By),gV (esc v++34::r) o=(o++v,34::r)
 | [],r,o=>by
   show gV (34::r) o=_
   rw[C9,List.append_nil]
 | c::v,r,o=>by
   have e:esc (c::v)=(if c=34\/c=92 then [92,c] else [c])++esc v:=by unfold esc;rw[List.flatMap_cons]
   rw[e]
   by_cases h:c=34\/c=92
   · rw[if_pos h]
     show gV (92::c::(esc v++34::r)) o=_
     rw[Da,zb v r,List.append_assoc]
     rfl
   · rw[if_neg h]
     show gV (c::(esc v++34::r)) o=_
     rw[I3 (fun k=>h (.inl k)) (fun k=>h (.inr k)),zb v r,List.append_assoc]
     rfl
theorem gb(c:By)(r:List By)(q:Bool)(x:List By)(h:¬ (q=true/\c=92)):dL (c::r) q x=if c=34 then dL r (!q) (x++[c]) else if c=59/\q=false then x::dL r q [] else dL r q (x++[c]):=by
 conv=>lhs;rw[dL.eq_def]
 dsimp only
 rw[if_neg h]
theorem jc:∀ (a r x:List By),(∀ c∈a,¬ c=34/\¬ c=59)->dL (a++r) false x=dL r false (x++a)
 | [],r,x,_=>by rw[List.append_nil];rfl
 | c::a,r,x,h=>by
   obtain⟨h1,h2⟩:=h c Y614
   rw[List.cons_append,gb _ _ _ _ Y619,if_neg h1,if_neg (fun k=>h2 k.1),jc a r _ fun d hd=>h d Y617,List.append_assoc]
   rfl
theorem ze(c2:By)(r x:List By):dL (92::c2::r) true x=dL r true (x++[92,c2]):=by
 conv=>lhs;rw[dL.eq_def]
 rfl
theorem zg:∀ (v r x:List By),dL (esc v++34::r) true x=dL r false (x++esc v++[34])
 | [],r,x=>by
   show dL (34::r) true x=_
   rw[gb _ _ _ _ (by rintro⟨_,k⟩;revert k;decide),if_pos rfl,show esc []=[] from rfl,List.append_nil]
   rfl
 | c::v,r,x=>by
   have e:esc (c::v)=(if c=34\/c=92 then [92,c] else [c])++esc v:=by unfold esc;rw[List.flatMap_cons]
   rw[e]
   by_cases h:c=34\/c=92
   · rw[if_pos h]
     show dL (92::c::(esc v++34::r)) true x=_
     rw[ze,zg v r]
     congr 1
     simp
   · rw[if_neg h]
     show dL (c::(esc v++34::r)) true x=_
     rw[gb _ _ _ _ (fun k=>h (.inr k.2)),if_neg (fun k=>h (.inl k)),if_neg Y620,zg v r]
     congr 1
     simp
theorem gA{c:By}(h:aW c=true):¬ c=34/\¬ c=59/\¬ c=61/\¬ c=47/\bl c=false:=by
 have:=ga (fun c=>!aW c||(!decide (c=34)&&(!decide (c=59)&&(!decide (c=61)&&(!decide (c=47)&&!bl c))))) Y615 c
 rw[h] at this
 simpa using this
theorem jU{c:By}(h:ck c=true):¬ c=34/\¬ c=59/\bl c=false:=by
 have:=ga (fun c=>!ck c||(!decide (c=34)&&(!decide (c=59)&&!bl c))) Y615 c
 rw[h] at this
 simpa using this
def qZ(p:List By × List By):List By:=[32]++p.1++[61]++(if cY p.2 then p.2 else [34]++esc p.2++[34])
theorem My(p:List By × List By):jR p=59::qZ p:=by simp[jR,qZ]
theorem Mz{p:List By × List By}(h:dh p.1=true)(r x:List By):dL (jR p++r) false x=x::dL r false (qZ p):=by
 have h1:∀ c∈[32]++p.1++[61],¬ c=34/\¬ c=(59:By):=by
  intro c hc
  rcases List.mem_append.1 hc with hc|hc
  · rcases List.mem_append.1 hc with hc|hc
    · exact(by decide:∀ c∈([32]:List By),¬ c=34/\¬ c=59) c hc
    · exact⟨(gA (er h c hc)).1,(gA (er h c hc)).2.1⟩
  · exact(by decide:∀ c∈([61]:List By),¬ c=34/\¬ c=59) c hc
 rw[My,List.cons_append,gb _ _ _ _ Y619,if_neg Y610,if_pos ⟨rfl,rfl⟩]
 congr 1
 unfold qZ
 rw[List.append_assoc,jc _ _ _ h1,List.nil_append]
 cases hs:cY p.2
 · rw[if_neg Y610]
   show dL (34::(esc p.2++[34]++r)) false _=_
   rw[gb _ _ _ _ Y619,if_pos rfl,List.append_assoc,List.singleton_append]
   show dL (esc p.2++34::r) true _=_
   rw[zg]
   congr 1
   simp
 · rw[if_pos rfl,jc _ _ _ fun c hc=>⟨(jU (fm hs c hc)).1,(jU (fm hs c hc)).2.1⟩]
def glue(x:List By):List (List By × List By)->List By->List (List By)
 | [],r=>[x++r]
 | p::l,r=>x::glue (qZ p) l r
theorem AN:∀ (l:List (List By × List By)) (r x:List By),(∀ p∈l,dh p.1=true)->(∀ c∈r,¬ c=34/\¬ c=59)->dL (l.flatMap jR++r) false x=glue x l r
 | [],r,x,_,hr=>by
   show dL r false x=[x++r]
   have:=jc r [] x hr
   rw[List.append_nil] at this
   rw[this]
   rfl
 | p::l,r,x,h,hr=>by
   rw[List.flatMap_cons,List.append_assoc,Mz (h p Y614),AN l r _ (fun q hq=>h q Y618) hr]
   rfl
theorem AO(r:List By):∀ (l:List (List By × List By)) (p:List By × List By),(∀ q∈p::l,∀ post:List By,(∀ c∈post,c∈r)->gz (qZ q++post)=some q)->(glue (qZ p) l r).mapM gz=some (p::l)
 | [],p,h=>by
   show [qZ p++r].mapM gz=_
   simp[h p Y614 r fun _ hc=>hc]
 | q::l,p,h=>by
   show(qZ p::glue (qZ q) l r).mapM gz=_
   have h0:=h p Y614 [] Y614
   rw[List.append_nil] at h0
   have h1:=AO r l q fun q' hq=>h q' (by simp at hq⊢;right;exact hq)
   simp[List.mapM_cons,h0,h1]
theorem iR:∀ (pre v:List By),(∀ c∈pre,bl c=true)->aO (pre++v)=aO v
 | [],v,_=>rfl
 | c::pre,v,h=>by
   show List.dropWhile bl (c::(pre++v))=_
   rw[List.dropWhile_cons,if_pos (h c Y614)]
   exact iR pre v fun d hd=>h d Y617
theorem jV{v:List By}(h:∀ c∈v.head?,bl c=false):aO v=v:=by
 cases v with
 | nil=>rfl
 | cons c r=>
   show List.dropWhile bl (c::r)=_
   rw[List.dropWhile_cons,if_neg (by rw[h c rfl];decide)]
theorem jW{pre v post:List By}(h1:∀ c∈pre,bl c=true)(h2:∀ c∈post,bl c=true)(hv:¬ v=[])(hh:∀ c∈v.head?,bl c=false)(ht:∀ c∈v.reverse.head?,bl c=false):trim (pre++v++post)=v:=by
 unfold trim
 rw[List.append_assoc,iR pre _ h1,jV (v:=v++post) (by
  intro c hc
  cases v with
  | nil=>exact absurd rfl hv
  | cons d r=>exact hh c hc),List.reverse_append,iR _ _ (by simpa using h2),jV ht,List.reverse_reverse]
theorem sr{v:List By}{q:By->Bool}(h:∀ c∈v,q c=false):∀ c∈v.head?,q c=false:=fun c hc=>h c (List.mem_of_mem_head? hc)
theorem Ja{p:List By × List By}(h:dh p.1=true)(hs:p.1.map small=p.1)(hv:p.2.all fB=true)(post:List By)(hp:∀ c∈post,bl c=true):gz (qZ p++post)=some p:=by
 obtain⟨n,v⟩:=p
 dsimp only at h hs hv
 have hn0:¬ n=[]:=fun k=>by subst k;revert h;decide
 have hpl:=er h
 generalize hV:(if cY v then v else [34]++esc v++[34])=V
 have hsplit:qZ (n,v)++post=(32::n)++61::(V++post):=by
  rw[<- hV]
  unfold qZ
  simp
 have hf:fst 61 ((32::n)++61::(V++post))=(32::n).length:=y8 _ _ (by
  intro d hd
  rcases List.mem_cons.1 hd with rfl|hd
  · decide
  · exact(gA (hpl d hd)).2.2.1)
 have e1:((32::n)++61::(V++post)).take (32::n).length=32::n:=List.take_left
 have e2:((32::n)++61::(V++post)).drop ((32::n).length+1)=V++post:=by
  rw[show(32::n).length+1=((32::n)++[61]).length by simp,show(32::n)++61::(V++post)=((32::n)++[61])++(V++post) by simp,List.drop_left]
 have nb:∀ c∈n,bl c=false:=fun c hc=>(gA (hpl c hc)).2.2.2.2
 have t1:trim (32::n)=n:=by
  have:=jW (pre:=[32]) (v:=n) (post:=[]) Y610 Y614 hn0 (sr nb) (sr (by simpa using nb))
  simpa using this
 have vb:¬ V=[]/\(∀ c∈V.head?,bl c=false)/\(∀ c∈V.reverse.head?,bl c=false):=by
  cases hsv:cY v
  · rw[hsv,if_neg Y610] at hV
    subst hV
    refine⟨by simp,?_,?_⟩
    · intro c hc
      simp at hc
      subst hc
      decide
    · intro c hc
      simp at hc
      subst hc
      decide
  · rw[hsv,if_pos rfl] at hV
    subst hV
    have lb:∀ c∈v,bl c=false:=fun c hc=>(jU (fm hsv c hc)).2.2
    exact⟨fun k=>by subst k;revert hsv;decide,sr lb,sr (by simpa using lb)⟩
 have t2:trim (V++post)=V:=by
  have:=jW (pre:=[]) (v:=V) (post:=post) Y614 hp vb.1 vb.2.1 vb.2.2
  simpa using this
 rw[hsplit]
 unfold gz
 rw[hf,e1,e2,t1,t2,if_neg Y614,h,if_neg Y610,hs]
 cases hsv:cY v
 · rw[hsv,if_neg Y610] at hV
   subst hV
   have hns:cY ([34]++esc v++[34])=false:=by
    cases e:cY ([34]++esc v++[34])
    · rfl
    · have:=fm e 34 Y614
      revert this
      decide
   have hu:gV ([34]++esc v++[34]).tail []=(v,[34]):=by
    show gV (esc v++34::[]) []=_
    rw[zb]
    rfl
   rw[hns,if_neg Y610,if_neg (by
    rintro(k|k)
    · simp only[List.length_append,List.length_cons,List.length_nil] at k;omega
    · exact k rfl),hu,if_pos ⟨rfl,hv⟩]
 · rw[hsv,if_pos rfl] at hV
   subst hV
   rw[hsv,if_pos rfl]
theorem Oy{c:By}(h:bl c=true):¬ c=34/\¬ c=59:=by
 have:=ga (fun c=>!bl c||(!decide (c=34)&&!decide (c=59))) Y615 c
 rw[h] at this
 simpa using this
theorem zh{k:List By}{l:List (List By × List By)}(h:dQ k l=true){pre post:List By}(h1:∀ c∈pre,bl c=true)(h2:∀ c∈post,bl c=true):nP (pre++dj k l++post)=(k,l,0):=by
 obtain⟨hk,hks,hl⟩:=AM h
 obtain⟨a,b,e,ha,hb⟩:=y9 hk
 have kc:∀ c∈k,¬ c=34/\¬ c=59/\bl c=false:=by
  subst e
  intro c hc
  rcases List.mem_append.1 hc with hc|hc
  · have:=gA (er ha c hc);exact⟨this.1,this.2.1,this.2.2.2.2⟩
  · rcases List.mem_cons.1 hc with rfl|hc
    · decide
    · have:=gA (er hb c hc);exact⟨this.1,this.2.1,this.2.2.2.2⟩
 have k0:¬ k=[]:=fun h=>by subst e;simp at h
 have kb:∀ c∈k,bl c=false:=fun c hc=>(kc c hc).2.2
 have hsem:pN (pre++dj k l++post)=glue (pre++k) l post:=by
  unfold pN dj
  rw[show pre++(k++l.flatMap jR)++post=(pre++k)++(l.flatMap jR++post) by simp,jc,List.nil_append,AN l post _ (fun p hp=>(hl p hp).1) fun c hc=>Oy (h2 c hc)]
  intro c hc
  rcases List.mem_append.1 hc with hc|hc
  · exact Oy (h1 c hc)
  · exact⟨(kc c hc).1,(kc c hc).2.1⟩
 have htrim:trim ((glue (pre++k) l post).headD [])=k:=by
  cases l with
  | nil=>exact jW h1 h2 k0 (sr kb) (sr (by simpa using kb))
  | cons p l=>
    have:=jW (post:=[]) h1 Y614 k0 (sr kb) (sr (by simpa using kb))
    rw[List.append_nil] at this
    exact this
 have htail:(glue (pre++k) l post).tail.mapM gz=some l:=by
  cases l with
  | nil=>rfl
  | cons p l=>exact AO post l p fun q hq po hpo=>Ja (hl q hq).1 (hl q hq).2.1 (hl q hq).2.2 po fun c hc=>h2 c (hpo c hc)
 unfold nP
 rw[hsem,htrim,htail,hk,if_neg Y610,hks]
end Tok
namespace aq
theorem mT{b:List By}(h:b=[]\/bl (b.getD 0 0)=false):gR b=some ([],b):=by
 rw[gR,if_neg]
 rintro⟨h1,h2⟩
 rcases h with h|h
 · exact h2 h
 · rw[h] at h1;cases h1
theorem lS{b l r:List By}(hb:bl (b.getD 0 0)=true/\b≠[])(h:cut b=some (l,r)):gR b=(gR r).map fun q=>(l++q.1,q.2):=by
 rw[gR,if_pos hb]
 split
 · next h'=>rw[h] at h';cases h'
 · next l' r' h'=>rw[h] at h';cases h';rfl
theorem ur{b:List By}(hb:bl (b.getD 0 0)=true/\b≠[])(h:cut b=none):gR b=none:=by
 rw[gR,if_pos hb]
 split
 · rfl
 · next l' r' h'=>rw[h] at h';cases h'
theorem kX{b:List By}(h:cut b=none):hend b=none:=by
 rw[hend]
 split
 · rfl
 · next l' r' h'=>rw[h] at h';cases h'
theorem mU{b r:List By}(h:cut b=some ([],r)):hend b=some (b.length-r.length):=by
 rw[hend]
 split
 · next h'=>rw[h] at h';cases h'
 · next l' r' h'=>rw[h] at h';cases h';rw[if_pos rfl]
theorem nQ{b l r:List By}(h:cut b=some (l,r))(hl:l≠[]):hend b=(hend r).map (·+(b.length-r.length)):=by
 rw[hend]
 split
 · next h'=>rw[h] at h';cases h'
 · next l' r' h'=>rw[h] at h';cases h';rw[if_neg hl]
theorem zi{k:Nat}{b:List By}(h:cut b=none):rd k b=.error 3:=by
 rw[rd]
 split
 · rfl
 · next l' r' h'=>rw[h] at h';cases h'
theorem Jb{k:Nat}{b r:List By}(h:cut b=some ([],r)):rd k b=.ok ([],r):=by
 rw[rd]
 split
 · next h'=>rw[h] at h';cases h'
 · next l' r' h'=>rw[h] at h';cases h';rw[if_pos rfl]
theorem uu{n:List By}(h:n.all wS=true)(l:List By):(n++58::l).takeWhile (· != 58)=n:=by
 rw[List.takeWhile_append_of_pos]
 · simp
 · intro c hc
   have:=List.all_eq_true.1 h c hc
   simp only[wS,Bool.and_eq_true] at this
   simpa using this.2
theorem MA{k:Nat}{b n l r:List By}(h:cut b=some (n++58::l,r))(hn:c8 n=true)(hk:k≠200) :
  rd k b=(match gR r with
   | none=>.error 3
   | some (vs,r')=>if 8192<(trim (l++vs)).length then .error 4 else if ¬ (trim (l++vs)).all fB=true then .error 3 else if r'.length<b.length then(rd (k+1) r').map fun q=>((n,trim (l++vs))::q.1,q.2) else .error 3):=by
 have hn1:n.all wS=true:=by simp only[c8,Bool.and_eq_true] at hn;exact hn.1.1
 rw[rd]
 split
 · next h'=>rw[h] at h';cases h'
 · next l' r2 h'=>
   rw[h] at h'
   cases h'
   have e2:(n++58::l).drop (n.length+1)=l:=by rw[List.drop_append,List.drop_of_length_le Y609];simp
   rw[if_neg Y614,uu hn1,if_neg (by simp[hn]),if_neg hk,e2]
   split
   · next hc=>simp only[hc]
   · next vs r' hc=>
     simp only[hc]
     split
     · rfl
     · split
       · rfl
       · split
         · rfl
         · rfl
theorem Jc{u L:List By}(h:Fo u L):∀ p e T,clean p->Ml e->(T=[]\/bl (T.getD 0 0)=false)->∃ l' r vs,cut (p++L++e++T)=some (p++l',r)/\gR r=some (vs,T)/\l'++vs=u:=by
 induction h with
 | nil=>
   intro p e T hp he hT
   refine⟨[],T,[],?_,mT hT,rfl⟩
   rw[List.append_nil,kU hp he]
 | byte c v L hc _ ih=>
   intro p e T hp he hT
   obtain⟨l',r,vs,h1,h2,h3⟩:=ih (p++[c]) e T (hp.app (nN hc)) he hT
   refine⟨c::l',r,vs,?_,h2,by rw[<- h3];rfl⟩
   simpa using h1
 | fold c e1 v L hc he1 _ ih=>
   intro p e T hp he hT
   obtain⟨l',r,vs,h1,h2,h3⟩:=ih [c] e T (nN (IZ hc)) he hT
   refine⟨[],c::L++e++T,c::v,?_,?_,rfl⟩
   · have:=kU (b:=c::L++e++T) hp he1
     simpa using this
   · have e2:c::L++e++T=[c]++L++e++T:=by simp
     rw[e2,lS ⟨by simpa using hc,by simp⟩ h1,h2,<- h3]
     simp
theorem MB{u L:List By}(h:Fo u L):∀ p e T,clean p->p≠[]->Ml e->hend (p++L++e++T)=(hend T).map (·+(p++L++e).length):=by
 induction h with
 | nil=>
   intro p e T hp h0 he
   rw[List.append_nil,nQ (kU hp he) h0]
   congr 1
   funext x
   simp only[List.length_append]
   omega
 | byte c v L hc _ ih=>
   intro p e T hp h0 he
   have:=ih (p++[c]) e T (hp.app (nN hc)) Y614 he
   simpa [Nat.add_assoc,Nat.add_comm,Nat.add_left_comm] using this
 | fold c e1 v L hc he1 _ ih=>
   intro p e T hp h0 he
   have h1:=kU (b:=[c]++L++e++T) hp he1
   have e2:p++(e1++c::L)++e++T=p++e1++([c]++L++e++T):=by simp
   rw[e2,nQ h1 h0,ih [c] e T (nN (IZ hc)) Y614 he,Option.map_map]
   congr 1
   funext x
   simp only[Function.comp,List.length_append,List.length_cons,List.length_nil]
   omega
theorem gB{v:List By}(h:v=[]\/bl (v.getD 0 0)=false):aO v=v:=by
 unfold aO
 cases v with
 | nil=>rfl
 | cons c v=>
   rcases h with h|h
   · cases h
   · simp only[List.getD_cons_zero] at h
     rw[List.dropWhile_cons,h];rfl
theorem hU{v:List By}(h:fC v=true):v.all fB=true/\v.length<=8192/\(v=[]\/(bl (v.getD 0 0)=false/\bl (v.getD (v.length-1) 0)=false)):=by
 simp only[fC,Bool.and_eq_true,decide_eq_true_eq,Bool.or_eq_true,Bool.not_eq_true',List.length_eq_zero_iff] at h
 exact⟨h.1.1,h.1.2,h.2⟩
theorem Jd{v:List By}(h:fC v=true):trim (32::v)=v:=by
 obtain⟨_,_,h3⟩:=hU h
 have e1:aO (32::v)=v:=by
  show(32::v).dropWhile bl=v
  rw[List.dropWhile_cons,if_pos Y610]
  exact gB (h3.imp_right (·.1))
 unfold trim
 rw[e1,gB,List.reverse_reverse]
 rcases h3 with rfl|⟨_,h4⟩
 · exact .inl rfl
 · refine .inr ?_
   by_cases h0:v=[]
   · subst h0;exact h4
   · have hp:=List.length_pos_iff.2 h0
     rw[List.getD_eq_getElem?_getD] at h4⊢
     rw[List.getElem?_reverse hp]
     exact h4
theorem iS{n:List By}(h:c8 n=true):n.all wS=true/\n≠[]/\n.length<=64:=by
 simp only[c8,Bool.and_eq_true,decide_eq_true_eq] at h
 exact⟨h.1.1,List.length_pos_iff.1 Y609,h.2⟩
theorem Je{n v L e T:List By}{k:Nat}(hn:c8 n=true)(hv:fC v=true)(hf:Fo (32::v) L)(he:Ml e)(hT:T=[]\/bl (T.getD 0 0)=false)(hk:k<200) :
  rd k (n++58::L++e++T)=(rd (k+1) T).map fun q=>((n,v)::q.1,q.2):=by
 obtain⟨h1,h2,h3⟩:=hU hv
 have hp:clean (n++[58]):=(xu (iS hn).1).app Y621
 obtain⟨l',r,vs,c1,c2,c3⟩:=Jc hf (n++[58]) e T hp he hT
 have e1:n++58::L++e++T=n++[58]++L++e++T:=by simp
 rw[e1,MA (l:=l') (r:=r) (by rw[c1];simp) hn Y609,c2]
 simp only[c3,Jd hv]
 rw[if_neg Y609,if_neg (by simp[h1]),if_pos Y622]
inductive Hd:List (List By × List By)->List By->Prop
 | nil:Hd [] []
 | cons (n v L e:List By) (fs:List (List By × List By)) (H:List By):c8 n=true->fC v=true->Fo (32::v) L->Ml e->Hd fs H->Hd ((n,v)::fs) (n++58::L++e++H)
theorem Pb{c:By}(h:wS c=true):bl c=false:=by
 cases hb:bl c with
 | false=>rfl
 | true=>
   simp only[bl,Bool.or_eq_true,beq_iff_eq] at hb
   rcases hb with rfl|rfl <;> exact absurd h Y610
theorem Gw{n:List By}(h:c8 n=true)(X:List By):bl ((n++X).getD 0 0)=false:=by
 obtain⟨h1,h2,_⟩:=iS h
 cases n with
 | nil=>exact absurd rfl h2
 | cons c n=>
   simp only[List.cons_append,List.getD_cons_zero]
   exact Pb (List.all_eq_true.1 h1 c Y614)
theorem Jf{e:List By}(h:Ml e)(X:List By):bl ((e++X).getD 0 0)=false:=by
 rcases h with rfl|rfl <;> rfl
theorem MC{fs:List (List By × List By)}{H e:List By}(h:Hd fs H)(he:Ml e)(R:List By):bl ((H++e++R).getD 0 0)=false:=by
 cases h with
 | nil=>simpa using Jf he R
 | cons n v L e1 fs H hn hv hf he1 hh=>
   have:=Gw hn (58::L++e1++H++e++R)
   simpa using this
theorem MD{fs:List (List By × List By)}{H e:List By}(h:Hd fs H)(he:Ml e)(R:List By):∀ k,k+fs.length<=200->rd k (H++e++R)=.ok (fs,R):=by
 induction h with
 | nil=>
   intro k _
   have:=kU (p:=[]) (b:=R) (fun _ h=>by cases h) he
   exact Jb (by simpa using this)
 | cons n v L e1 fs H hn hv hf he1 hh ih=>
   intro k hk
   simp only[List.length_cons] at hk
   have:=Je (T:=H++e++R) (k:=k) hn hv hf he1 (.inr (MC hh he R)) Y609
   rw[show n++58::L++e1++H++e++R=n++58::L++e1++(H++e++R) by simp,this,ih (k+1) Y609]
   rfl
theorem Gx{fs:List (List By × List By)}{H e:List By}(h:Hd fs H)(he:Ml e)(R:List By):hend (H++e++R)=some (H.length+e.length):=by
 induction h with
 | nil=>
   have:=kU (p:=[]) (b:=R) (fun _ h=>by cases h) he
   rw[mU (r:=R) (by simpa using this)]
   simp
 | cons n v L e1 fs H hn hv hf he1 hh ih=>
   have hp:clean (n++[58]):=(xu (iS hn).1).app Y621
   have:=MB hf (n++[58]) e1 (H++e++R) hp Y614 he1
   rw[show n++58::L++e1++H++e++R=n++[58]++L++e1++(H++e++R) by simp,this,ih]
   simp only[Option.map_some,List.length_append,List.length_cons,List.length_nil]
   congr 1
   omega
theorem Gy{fs:List (List By × List By)}{H e:List By}(h:Hd fs H)(he:Ml e)(R:List By)(h1:fs.length<=200)(h2:H.length+e.length<=65536):jQ (H++e++R)=.ok (fs,R):=by
 unfold jQ
 rw[Gx h he R,Option.getD_some,if_neg Y609,MD h he R 0 Y609]
end aq
namespace bQ
abbrev By:=BitVec 8
def AP:List By:=[65,66,67,68,69,70,71,72,73,74,75,76,77,78,79,80,81,82,83,84,85,86,87,88,89,90,97,98,99,100,101,102,103,104,105,106,107,108,109,110,111,112,113,114,115,116,117,118,119,120,121,122,48,49,50,51,52,53,54,55,56,57,43,47]
def sg(n:Nat):By:=AP.getD n 0
def bC:List By->List By
 | []=>[]
 | [a]=>[sg (a.toNat / 4),sg (a.toNat%4*16),61,61]
 | [a,b]=>[sg (a.toNat / 4),sg (a.toNat%4*16+b.toNat / 16),sg (b.toNat%16*4),61]
 | a::b::c::r=>sg (a.toNat / 4)::sg (a.toNat%4*16+b.toNat / 16)::sg (b.toNat%16*4+c.toNat / 64)::sg (c.toNat%64)::bC r
theorem pP(a b c:By)(r:List By):bC (a::b::c::r)=sg (a.toNat / 4)::sg (a.toNat%4*16+b.toNat / 16)::sg (b.toNat%16*4+c.toNat / 64)::sg (c.toNat%64)::bC r:=by rw[bC]
theorem ME{p:List By->Prop}(h0:p [])(h1:∀ a,p [a])(h2:∀ a b,p [a,b])(h3:∀ a b c r,p r->p (a::b::c::r)):∀ l,p l
 | []=>h0
 | [a]=>h1 a
 | [a,b]=>h2 a b
 | a::b::c::r=>h3 a b c r (ME h0 h1 h2 h3 r)
theorem jX(l:List By):(bC l).length=(l.length+2) / 3*4:=by
 refine ME (p:=fun l=>(bC l).length=(l.length+2) / 3*4) (by simp[bC]) (fun _=>by simp[bC]) (fun _ _=>by simp[bC]) (fun a b c r h=>?_) l
 rw[pP]
 show(bC r).length+4=(r.length+3+2) / 3*4
 omega
def b8(x:Nat):List Nat:=[x / 128%2,x / 64%2,x / 32%2,x / 16%2,x / 8%2,x / 4%2,x / 2%2,x%2]
def b6(x:Nat):List Nat:=[x / 32%2,x / 16%2,x / 8%2,x / 4%2,x / 2%2,x%2]
def qS(l:List By):List Nat:=l.flatMap fun b=>b8 b.toNat
def val:List Nat->Nat:=List.foldl (fun n b=>2*n+b) 0
def sx:List Nat->List By
 | a::b::c::d::e::f::r=>sg (val [a,b,c,d,e,f])::sx r
 | _=>[]
def oc:List Nat->List By
 | a::b::c::d::e::f::g::h::r=>BitVec.ofNat 8 (val [a,b,c,d,e,f,g,h])::oc r
 | _=>[]
theorem GA(a b c d e f:Nat)(r:List Nat):sx (a::b::c::d::e::f::r)=sg (val [a,b,c,d,e,f])::sx r:=by rw[sx]
theorem Ri:sx []=[]:=by rw[sx];intros;contradiction
theorem Q2(a b c d e f g h:Nat)(r:List Nat):oc (a::b::c::d::e::f::g::h::r)=BitVec.ofNat 8 (val [a,b,c,d,e,f,g,h])::oc r:=by rw[oc]
theorem q5:∀ (n:Nat) (l r:List Nat),l.length=6*n->sx (l++r)=sx l++sx r
 | 0,l,r,h=>by
   have:l=[]:=List.eq_nil_of_length_eq_zero Y609
   subst this;rfl
 | n+1,l,r,h=>by
   match l,h with
   | a::b::c::d::e::f::s,h=>
     have:=q5 n s r Y623
     show sx (a::b::c::d::e::f::(s++r))=_
     rw[GA,GA,this];rfl
theorem Jg:∀ l,(sx l).length=l.length / 6
 | a::b::c::d::e::f::r=>by
   rw[GA]
   show(sx r).length+1=(r.length+6) / 6
   rw[Jg r];omega
 | []|[_]|[_,_]|[_,_,_]|[_,_,_,_]|[_,_,_,_,_]=>by simp[sx]
theorem zj(l:List By):(qS l).length=8*l.length:=by
 induction l with
 | nil=>rfl
 | cons a l ih=>
   show(b8 a.toNat++qS l).length=8*(l.length+1)
   rw[List.length_append,ih]
   show 8+8*l.length=_
   omega
theorem pQ(a:By)(l:List By):qS (a::l)=b8 a.toNat++qS l:=rfl
def q7(n:Nat):Nat:=(6-n%6)%6
def kY(l:List Nat):List Nat:=l++List.replicate (q7 l.length) 0
def zk(l:List By):List By:=sx (kY (qS l))++List.replicate ((4-(sx (kY (qS l))).length%4)%4) 61
theorem MG(l:List By):zk l=bC l:=by
 refine ME (p:=fun l=>zk l=bC l) (by simp[zk,kY,qS,q7,sx,bC]) (fun a=>?_) (fun a b=>?_) (fun a b c r h=>?_) l
 · have ha:=a.isLt
   have e:kY (qS [a])=[a.toNat / 128%2,a.toNat / 64%2,a.toNat / 32%2,a.toNat / 16%2,a.toNat / 8%2,a.toNat / 4%2,a.toNat / 2%2,a.toNat%2,0,0,0,0]:=by simp[kY,qS,b8,q7,List.replicate]
   rw[zk,e,GA,GA,Ri,bC]
   show [sg (val [a.toNat / 128%2,a.toNat / 64%2,a.toNat / 32%2,a.toNat / 16%2,a.toNat / 8%2,a.toNat / 4%2]),sg (val [a.toNat / 2%2,a.toNat%2,0,0,0,0]),61,61]=_
   rw[show val [a.toNat / 128%2,a.toNat / 64%2,a.toNat / 32%2,a.toNat / 16%2,a.toNat / 8%2,a.toNat / 4%2]=a.toNat / 4 by simp only[val,List.foldl];omega,
    show val [a.toNat / 2%2,a.toNat%2,0,0,0,0]=a.toNat%4*16 by simp only[val,List.foldl];omega]
 · have ha:=a.isLt
   have hb:=b.isLt
   have e:kY (qS [a,b])=[a.toNat / 128%2,a.toNat / 64%2,a.toNat / 32%2,a.toNat / 16%2,a.toNat / 8%2,a.toNat / 4%2,a.toNat / 2%2,a.toNat%2,b.toNat / 128%2,b.toNat / 64%2,b.toNat / 32%2,b.toNat / 16%2,b.toNat / 8%2,b.toNat / 4%2,b.toNat / 2%2,b.toNat%2,0,0]:=by simp[kY,qS,b8,q7,List.replicate]
   rw[zk,e,GA,GA,GA,Ri,bC]
   show [sg (val [a.toNat / 128%2,a.toNat / 64%2,a.toNat / 32%2,a.toNat / 16%2,a.toNat / 8%2,a.toNat / 4%2]),sg (val [a.toNat / 2%2,a.toNat%2,b.toNat / 128%2,b.toNat / 64%2,b.toNat / 32%2,b.toNat / 16%2]),sg (val [b.toNat / 8%2,b.toNat / 4%2,b.toNat / 2%2,b.toNat%2,0,0]),61]=_
   rw[show val [a.toNat / 128%2,a.toNat / 64%2,a.toNat / 32%2,a.toNat / 16%2,a.toNat / 8%2,a.toNat / 4%2]=a.toNat / 4 by simp only[val,List.foldl];omega,
    show val [a.toNat / 2%2,a.toNat%2,b.toNat / 128%2,b.toNat / 64%2,b.toNat / 32%2,b.toNat / 16%2]=a.toNat%4*16+b.toNat / 16 by simp only[val,List.foldl];omega,
    show val [b.toNat / 8%2,b.toNat / 4%2,b.toNat / 2%2,b.toNat%2,0,0]=b.toNat%16*4 by simp only[val,List.foldl];omega]
 · have ha:=a.isLt
   have hb:=b.isLt
   have hc:=c.isLt
   have e0:qS (a::b::c::r)=(b8 a.toNat++b8 b.toNat++b8 c.toNat)++qS r:=by
    rw[pQ,pQ,pQ]
    simp only[List.append_assoc]
   have e1:kY (qS (a::b::c::r))=(b8 a.toNat++b8 b.toNat++b8 c.toNat)++kY (qS r):=by
    unfold kY
    rw[e0,List.append_assoc]
    congr 3
    rw[List.length_append]
    show q7 (24+_)=q7 _
    unfold q7
    omega
   have e2:sx (kY (qS (a::b::c::r)))=sx (b8 a.toNat++b8 b.toNat++b8 c.toNat)++sx (kY (qS r)):=by
    rw[e1,q5 4 _ _ rfl]
   have e3:sx (b8 a.toNat++b8 b.toNat++b8 c.toNat)=[sg (a.toNat / 4),sg (a.toNat%4*16+b.toNat / 16),sg (b.toNat%16*4+c.toNat / 64),sg (c.toNat%64)]:=by
    simp only[b8,List.cons_append,List.nil_append]
    rw[GA,GA,GA,GA,Ri]
    rw[show val [a.toNat / 128%2,a.toNat / 64%2,a.toNat / 32%2,a.toNat / 16%2,a.toNat / 8%2,a.toNat / 4%2]=a.toNat / 4 by simp only[val,List.foldl];omega,
     show val [a.toNat / 2%2,a.toNat%2,b.toNat / 128%2,b.toNat / 64%2,b.toNat / 32%2,b.toNat / 16%2]=a.toNat%4*16+b.toNat / 16 by simp only[val,List.foldl];omega,
     show val [b.toNat / 8%2,b.toNat / 4%2,b.toNat / 2%2,b.toNat%2,c.toNat / 128%2,c.toNat / 64%2]=b.toNat%16*4+c.toNat / 64 by simp only[val,List.foldl];omega,
     show val [c.toNat / 32%2,c.toNat / 16%2,c.toNat / 8%2,c.toNat / 4%2,c.toNat / 2%2,c.toNat%2]=c.toNat%64 by simp only[val,List.foldl];omega]
   rw[pP]
   show zk (a::b::c::r)=[sg (a.toNat / 4),sg (a.toNat%4*16+b.toNat / 16),sg (b.toNat%16*4+c.toNat / 64),sg (c.toNat%64)]++bC r
   rw[<- h,<- e3]
   unfold zk
   rw[e2,List.append_assoc]
   congr 3
   rw[List.length_append,e3]
   simp only[List.length_cons,List.length_nil]
   omega
def dx(c:By)(n:Nat):List Nat:=(List.range n).flatMap fun m=>if sg m=c then b6 m else []
def d6(s:List By):List Nat:=s.flatMap fun c=>dx c 64
theorem Rj:∀ m:Fin 64,dx (sg m.val) 64=b6 m.val:=by decide +kernel
theorem Rk:dx 61 64=[]:=by decide +kernel
theorem E7(c:By)(s:List By):d6 (c::s)=dx c 64++d6 s:=rfl
theorem pR{m:Nat}(h:m<64)(s:List By):d6 (sg m::s)=b6 m++d6 s:=by
 rw[E7,Rj ⟨m,h⟩]
theorem Jh(s:List By):d6 (61::s)=d6 s:=by rw[E7,Rk];rfl
theorem v1{p x:Nat}(hp:p<64)(hx:x<64):val [p / 32%2,p / 16%2,p / 8%2,p / 4%2,p / 2%2,p%2,x / 32%2,x / 16%2]=p*4+x / 16:=by
 simp only[val,List.foldl];omega
theorem v2{x y:Nat}(_hx:x<64)(hy:y<64):val [x / 8%2,x / 4%2,x / 2%2,x%2,y / 32%2,y / 16%2,y / 8%2,y / 4%2]=x%16*16+y / 4:=by
 simp only[val,List.foldl];omega
theorem v3{y z:Nat}(_hy:y<64)(hz:z<64):val [y / 2%2,y%2,z / 32%2,z / 16%2,z / 8%2,z / 4%2,z / 2%2,z%2]=y%4*64+z:=by
 simp only[val,List.foldl];omega
theorem IU{n:Nat}{a:By}(h:n=a.toNat):BitVec.ofNat 8 n=a:=by rw[h,BitVec.ofNat_toNat,BitVec.setWidth_eq]
theorem Pc(l:List By):oc (d6 (bC l))=l:=by
 refine ME (p:=fun l=>oc (d6 (bC l))=l) (by simp[bC,d6,oc]) (fun a=>?_) (fun a b=>?_) (fun a b c r h=>?_) l
 · have ha:=a.isLt
   rw[bC,pR Y609,pR Y609,Jh,Jh]
   generalize hp:a.toNat / 4=p
   generalize hx:a.toNat%4*16=x
   show oc [p / 32%2,p / 16%2,p / 8%2,p / 4%2,p / 2%2,p%2,x / 32%2,x / 16%2,x / 8%2,x / 4%2,x / 2%2,x%2]=_
   rw[Q2,show ∀ x y z w:Nat,oc [x,y,z,w]=[] from fun _ _ _ _=>by simp[oc],v1 Y609 Y609,IU (a:=a) Y609]
 · have ha:=a.isLt
   have hb:=b.isLt
   rw[bC,pR Y609,pR Y609,pR Y609,Jh]
   generalize hp:a.toNat / 4=p
   generalize hx:a.toNat%4*16+b.toNat / 16=x
   generalize hy:b.toNat%16*4=y
   show oc [p / 32%2,p / 16%2,p / 8%2,p / 4%2,p / 2%2,p%2,x / 32%2,x / 16%2,x / 8%2,x / 4%2,x / 2%2,x%2,y / 32%2,y / 16%2,y / 8%2,y / 4%2,y / 2%2,y%2]=_
   rw[Q2,Q2,show ∀ x y:Nat,oc [x,y]=[] from fun _ _=>by simp[oc],v1 Y609 Y609,v2 Y609 Y609,IU (a:=a) Y609,IU (a:=b) Y609]
 · have ha:=a.isLt
   have hb:=b.isLt
   have hc:=c.isLt
   rw[pP,pR Y609,pR Y609,pR Y609,pR Y609]
   generalize hp:a.toNat / 4=p
   generalize hx:a.toNat%4*16+b.toNat / 16=x
   generalize hy:b.toNat%16*4+c.toNat / 64=y
   generalize hz:c.toNat%64=z
   simp only[b6,List.cons_append,List.nil_append]
   rw[Q2,Q2,Q2,v1 Y609 Y609,v2 Y609 Y609,v3 Y609 Y609,IU (a:=a) Y609,IU (a:=b) Y609,IU (a:=c) Y609,h]
def fE(s:List By):Option (List By):=if bC (oc (d6 s))=s then some (oc (d6 s)) else none
theorem uv(l:List By):fE (bC l)=some l:=by
 unfold fE
 rw[Pc,if_pos rfl]
theorem xB{s l:List By}(h:fE s=some l):bC l=s:=by
 unfold fE at h
 split at h
 · next e=>cases h;exact e
 · cases h
theorem Ji{s l:List By}:fE s=some l↔bC l=s:=⟨xB,fun h=>h▸uv l⟩
theorem GB{s:List By}(h:∀ l,bC l≠s):fE s=none:=by
 cases e:fE s with
 | none=>rfl
 | some l=>exact absurd (xB e) (h l)
def ou(s:List By):Nat->List By
 | 0=>[]
 | i+1=>ou s i++s.getD i 0::(if i%76=75\/i+1=s.length then [13,10] else [])
def e6(l:List By):List By:=ou (bC l) (bC l).length
def blank(c:By):Bool:=c==32||c==9||c==13||c==10
def bare(l:List By):List By:=l.filter fun c=>!blank c
theorem MH:∀ m:Fin 64,blank (sg m.val)=false:=by decide +kernel
theorem GC(l:List By):∀ c∈bC l,blank c=false:=by
 have s:∀ m,m<64->blank (sg m)=false:=fun m h=>MH ⟨m,h⟩
 refine ME (p:=fun l=>∀ c∈bC l,blank c=false) (by simp[bC]) (fun a=>?_) (fun a b=>?_) (fun a b c r h=>?_) l
 · have ha:=a.isLt
   simp only[bC,List.mem_cons,List.not_mem_nil,or_false,forall_eq_or_imp,forall_eq]
   exact⟨s _ Y609,s _ Y609,rfl,rfl⟩
 · have ha:=a.isLt
   have hb:=b.isLt
   simp only[bC,List.mem_cons,List.not_mem_nil,or_false,forall_eq_or_imp,forall_eq]
   exact⟨s _ Y609,s _ Y609,s _ Y609,rfl⟩
 · have ha:=a.isLt
   have hb:=b.isLt
   have hc:=c.isLt
   simp only[bC,List.mem_cons,forall_eq_or_imp]
   exact⟨s _ Y609,s _ Y609,s _ Y609,s _ Y609,h⟩
theorem su(l r:List By):bare (l++r)=bare l++bare r:=List.filter_append ..
theorem AQ{s:List By}(hs:∀ c∈s,blank c=false):∀ i,i<=s.length->bare (ou s i)=s.take i
 | 0,_=>rfl
 | i+1,hi=>by
   have e:s[i]?=some (s.getD i 0):=by rw[List.getD_eq_getElem?_getD,List.getElem?_eq_getElem Y609];rfl
   have hb:blank (s.getD i 0)=false:=hs _ (List.mem_of_getElem? e)
   rw[ou,su,AQ hs i Y609,List.take_add_one,e]
   congr 1
   show(s.getD i 0::(if i%76=75\/i+1=s.length then [13,10] else [])).filter _=_
   rw[List.filter_cons,hb]
   simp only[Bool.not_false,if_true]
   split <;> rfl
theorem AR(l:List By):bare (e6 l)=bC l:=by
 unfold e6
 rw[AQ (GC l) _ (Nat.le_refl _),List.take_length]
def Rm(n:Nat)(c:By):Nat:=if c=10 then 0 else n+1
theorem tE(s:List By):∀ i,(ou s i).length<=3*i
 | 0=>Nat.le_refl _
 | i+1=>by
   have:=tE s i
   rw[ou,List.length_append]
   split <;> simp only[List.length_cons,List.length_nil] <;> omega
end bQ
namespace gZ
open aq Tok
inductive Part where
 | mk (kind:List By) (ps:List fP) (code:Int) (body:List By) (parts:List Part)
instance:Inhabited Part:=⟨.mk [] [] 0 [] []⟩
def Part.kind:Part->List By|.mk k _ _ _ _=>k
def Part.ps:Part->List fP|.mk _ l _ _ _=>l
def Part.code:Part->Int|.mk _ _ c _ _=>c
def Part.body:Part->List By|.mk _ _ _ b _=>b
def Part.parts:Part->List Part|.mk _ _ _ _ l=>l
def cJ(l:List fP)(n:List By):List By:=((l.find? fun p=>decide (p.1=n)).map (·.2)).getD []
def lU:List By:=[109,117,108,116,105,112,97,114,116,47]
def fo(k:List By):Bool:=decide (k.take 10=lU)
def fF:List By:=[98,111,117,110,100,97,114,121]
def xC:List By:=[99,111,110,116,101,110,116,45,116,121,112,101]
def wT:List By:=[99,111,110,116,101,110,116,45,116,114,97,110,115,102,101,114,45,101,110,99,111,100,105,110,103]
def cF:List By:=[67,111,110,116,101,110,116,45,84,121,112,101]
def fu:List By:=[67,111,110,116,101,110,116,45,84,114,97,110,115,102,101,114,45,69,110,99,111,100,105,110,103]
def mL:List By:=[116,101,120,116,47,112,108,97,105,110]
def b7:List By:=[55,98,105,116]
def b8:List By:=[56,98,105,116]
def bin:List By:=[98,105,110,97,114,121]
def E8:List By:=[98,97,115,101,54,52]
def GD:List By:=[113,117,111,116,101,100,45,112,114,105,110,116,97,98,108,101]
def kL(c:List By):Option Int:=if c=E8 then some 1 else if c=GD then some 2 else if c=[]\/c=b7\/c=b8\/c=bin then some 0 else none
def xD(f:List fP):List By:=match dP wT f with
 | []=>[]
 | v::_=>(trim v).map small
def e7(f:List fP):List By × List fP × Nat:=match dP xC f with
 | []=>(mL,[],0)
 | v::_=>eo v
def wX(b:List By):Except Nat (List By):=match bQ.fE (bQ.bare b) with
 | some l=>.ok l
 | none=>.error 3
def fc{α β:Type}(f:α->Except Nat β):List α->Except Nat (List β)
 | []=>.ok []
 | x::l=>match f x with
   | .error e=>.error e
   | .ok y=>match fc f l with
     | .error e=>.error e
     | .ok ys=>.ok (y::ys)
def ir(m:List By):Except Nat (List fP × List By):=if 2097152<m.length then .error 4 else jQ m
section
variable (Qd:List By->Except Nat (List By)) (Qe:List By->List By)
def jY(c:Int)(b:List By):Except Nat (List By):=if c=1 then wX b else if c=2 then Qd b else .ok b
def mD(sub:Option (List By->Except Nat Part))(f:List fP)(b:List By):Except Nat Part:=
 if (e7 f).2.2≠0 then .error (e7 f).2.2
 else if fo (e7 f).1 then
  if cG (cJ (e7 f).2.1 fF)=false then .error 3
  else match sub with
   | none=>.error 5
   | some g=>
     if (de b (cJ (e7 f).2.1 fF)).2≠0 then .error (de b (cJ (e7 f).2.1 fF)).2
     else match fc g (de b (cJ (e7 f).2.1 fF)).1 with
      | .error e=>.error e
      | .ok l=>.ok (.mk (e7 f).1 (e7 f).2.1 0 [] l)
 else match kL (xD f) with
  | none=>.error 3
  | some c=>match jY Qd c b with
    | .error e=>.error e
    | .ok x=>.ok (.mk (e7 f).1 (e7 f).2.1 c x [])
def tf(r:List fP->List By->Except Nat Part)(m:List By):Except Nat Part:=match ir m with
 | .error e=>.error e
 | .ok x=>r x.1 x.2
def dK:Nat->List fP->List By->Except Nat Part
 | 0=>mD Qd none
 | k+1=>mD Qd (some (tf (dK k)))
def C2(c:Int):List By:=if c=1 then E8 else if c=2 then GD else b8
def gd(c:Int)(b:List By):List By:=if c=1 then bQ.e6 b else if c=2 then Qe b else b
def mV(f:List fP)(b:List By):Except Nat (List fP × List By):=if bJ f b=0 then .ok (f,b) else .error (bJ f b)
def mW(sub:Option (Part->Except Nat (List fP × List By)))(kind:List By)(ps:List fP)(code:Int)(body:List By)(parts:List Part):Except Nat (List fP × List By):=
 if dQ kind ps=false then .error 3
 else if fo kind then
  if parts=[]\/cG (cJ ps fF)=false\/code≠0\/body≠[] then .error 3
  else match sub with
   | none=>.error 5
   | some g=>match fc g parts with
     | .error e=>.error e
     | .ok xs=>
       if de (jn (cJ ps fF) (xs.map fun x=>bt x.1 x.2) []) (cJ ps fF)=(xs.map (fun x=>bt x.1 x.2),0) then mV [(cF,dj kind ps)] (jn (cJ ps fF) (xs.map fun x=>bt x.1 x.2) [])
       else .error 3
 else if code<0\/2<code\/parts≠[] then .error 3
 else mV [(cF,dj kind ps),(fu,C2 code)] (gd Qe code body)
def E9(sub:Option (Part->Except Nat (List fP × List By)))(p:Part):Except Nat (List fP × List By):=mW Qe sub p.kind p.ps p.code p.body p.parts
def cu:Nat->Part->Except Nat (List fP × List By)
 | 0=>E9 Qe none
 | k+1=>E9 Qe (some (cu k))
end
theorem AS:∀ (l:List fP),(∀ p∈l,c8 p.1=true/\fC p.2=true)->Hd l (dg l)
 | [],_=>.nil
 | (n,v)::l,h=>by
   obtain⟨h1,h2⟩:=h (n,v) Y614
   obtain⟨L,e,hf⟩:=Mr n v (hU h2).1
   have:=Hd.cons n v L [13,10] l _ h1 h2 hf (.inr rfl) (AS l fun p hp=>h p (by simp[hp]))
   show Hd _ (ek n v++dg l)
   rw[e]
   exact this
theorem lV{f:List fP}{b:List By}(h:bJ f b=0):ir (bt f b)=.ok (f,b):=by
 have ho:bt f b=dg f++[13,10]++b:=by unfold bt;rw[if_pos h]
 unfold bJ at h
 split at h
 · next ha=>
   split at h
   · cases h
   · next hn=>
     have h1:f.length<=200:=by omega
     have h2:(dg f).length+2<=65536:=by omega
     have h3:(dg f).length+2+b.length<=2097152:=by omega
     have hl:(bt f b).length=(dg f).length+2+b.length:=by rw[ho];simp;omega
     have hh:∀ p∈f,c8 p.1=true/\fC p.2=true:=fun p hp=>by
      have:=List.all_eq_true.1 ha p hp
      rwa [Bool.and_eq_true] at this
     unfold ir
     rw[if_neg (by rw[hl];omega),ho]
     exact Gy (AS f hh) (.inr rfl) b h1 h2
 · cases h
theorem Dc{f g:List fP}{b c:List By}(h:mV f b=.ok (g,c)):f=g/\b=c/\bJ g c=0:=by
 unfold mV at h
 split at h
 · next hk=>cases h;exact⟨rfl,rfl,hk⟩
 · cases h
theorem sw{k:List By}{l:List fP}(h:dQ k l=true):eo (dj k l)=(k,l,0):=by
 unfold eo
 rw[za h]
 simp only[if_true]
 have:=zh h (pre:=[]) (post:=[]) Y614 Y614
 simpa using this
theorem Jj(b:List By):wX (bQ.e6 b)=.ok b:=by
 unfold wX
 rw[bQ.AR,bQ.uv]
theorem Fa{α β γ:Type}{g:α->Except Nat β}{r:γ->Except Nat α}{m:β->γ}:∀ {l:List α} {xs:List β},fc g l=.ok xs->(∀ a∈l,∀ x,g a=.ok x->r (m x)=.ok a)->fc r (xs.map m)=.ok l
 | [],xs,h,_=>by cases h;rfl
 | a::l,xs,h,hr=>by
   unfold fc at h
   cases e1:g a with
   | error e=>rw[e1] at h;cases h
   | ok x=>
     rw[e1] at h
     cases e2:fc g l with
     | error e=>rw[e2] at h;cases h
     | ok ys=>
       rw[e2] at h
       cases h
       rw[List.map_cons,fc,hr a List.mem_cons_self x e1,Fa e2 fun a ha=>hr a (List.mem_cons_of_mem _ ha)]
theorem Fb{v:List By}(r:List fP):e7 ((cF,v)::r)=eo v:=by
 have e:dP xC ((cF,v)::r)=v::dP xC r:=by
  rw[all_cons,if_pos (by show bY cF xC=true;decide)]
 unfold e7
 rw[e]
theorem Pe{v c:List By}(hc:c=b8\/c=E8\/c=GD):xD [(cF,v),(fu,c)]=c:=by
 have e:dP wT [(cF,v),(fu,c)]=[c]:=by
  rw[all_cons,if_neg (by show ¬ bY cF wT=true;decide),all_cons,if_pos (by show bY fu wT=true;decide),all_nil]
 unfold xD
 rw[e]
 rcases hc with rfl|rfl|rfl <;> decide
def Jk:Nat->Part->Prop
 | 0,p=>p.code≠2
 | k+1,p=>p.code≠2/\∀ q∈p.parts,Jk k q
theorem zm{Qd:List By->Except Nat (List By)}{Qe:List By->List By}:∀ (k:Nat) {p:Part} {f:List fP} {b:List By},((∀ x,Qd (Qe x)=.ok x)\/Jk k p)->cu Qe k p=.ok (f,b)->dK Qd k f b=.ok p:=by
 have key:∀ (sub:Option (Part->Except Nat (List fP × List By))) (rub:Option (List By->Except Nat Part)) (N:Part->Prop),(∀ g,sub=some g->∃ r,rub=some r/\∀ a x,N a->g a=.ok x->r (bt x.1 x.2)=.ok a)->
   ∀ (p:Part) (f:List fP) (b:List By),((∀ x,Qd (Qe x)=.ok x)\/p.code≠2)->(∀ a∈p.parts,N a)->E9 Qe sub p=.ok (f,b)->mD Qd rub f b=.ok p/\bJ f b=0:=by
  intro sub rub N hs ⟨kind,ps,code,body,parts⟩ f b hQ hN h
  replace hQ:(∀ x,Qd (Qe x)=.ok x)\/code≠2:=hQ
  replace hN:∀ a∈parts,N a:=hN
  replace h:mW Qe sub kind ps code body parts=.ok (f,b):=h
  unfold mW at h
  have hr:dQ kind ps=true:=by
   cases e:dQ kind ps with
   | true=>rfl
   | false=>rw[e,if_pos rfl] at h;cases h
  rw[if_neg (by rw[hr];decide)] at h
  by_cases hm:fo kind=true
  · rw[if_pos hm] at h
    by_cases hc:parts=[]\/cG (cJ ps fF)=false\/code≠0\/body≠[]
    · rw[if_pos hc] at h;cases h
    · rw[if_neg hc] at h
      have hb:cG (cJ ps fF)=true:=by
       cases e:cG (cJ ps fF) with
       | true=>rfl
       | false=>exact absurd (Or.inr (Or.inl e)) hc
      have hc0:code=0:=Decidable.byContradiction fun e=>hc (Or.inr (Or.inr (Or.inl e)))
      have hb0:body=[]:=Decidable.byContradiction fun e=>hc (Or.inr (Or.inr (Or.inr e)))
      subst hc0 hb0
      cases sub with
      | none=>cases h
      | some g=>
        obtain⟨r,rfl,hgr⟩:=hs g rfl
        dsimp only at h
        cases e1:fc g parts with
        | error e=>rw[e1] at h;cases h
        | ok xs=>
          rw[e1] at h
          dsimp only at h
          by_cases hsp:de (jn (cJ ps fF) (xs.map fun x=>bt x.1 x.2) []) (cJ ps fF)=(xs.map (fun x=>bt x.1 x.2),0)
          · rw[if_pos hsp] at h
            obtain⟨rfl,rfl,hk⟩:=Dc h
            refine⟨?_,hk⟩
            unfold mD
            rw[Fb,sw hr]
            dsimp only
            rw[if_neg Y614,if_pos hm,if_neg Y612,hsp]
            dsimp only
            rw[if_neg Y614,Fa e1 fun a ha x hx=>hgr a x (hN a ha) hx]
          · rw[if_neg hsp] at h;cases h
  · rw[if_neg hm] at h
    by_cases hc:code<0\/2<code\/parts≠[]
    · rw[if_pos hc] at h;cases h
    · rw[if_neg hc] at h
      have hp0:parts=[]:=Decidable.byContradiction fun e=>hc (Or.inr (Or.inr e))
      have h1:¬ code<0:=fun e=>hc (Or.inl e)
      have h2:¬ 2<code:=fun e=>hc (Or.inr (Or.inl e))
      subst hp0
      obtain⟨rfl,rfl,hk⟩:=Dc h
      refine⟨?_,hk⟩
      unfold mD
      rw[Fb,sw hr]
      dsimp only
      have hcv:C2 code=b8\/C2 code=E8\/C2 code=GD:=by
       unfold C2
       by_cases e1:code=1
       · rw[if_pos e1];exact .inr (.inl rfl)
       · rw[if_neg e1]
         by_cases e2:code=2
         · rw[if_pos e2];exact .inr (.inr rfl)
         · rw[if_neg e2];exact .inl rfl
      rw[if_neg Y614,if_neg hm,Pe hcv]
      have hco:code=0\/code=1\/code=2:=by omega
      rcases hco with rfl|rfl|rfl
      · rfl
      · have e:kL (C2 1)=some 1:=by decide
        rw[e]
        dsimp only
        unfold jY gd
        rw[if_pos rfl,if_pos rfl,Jj]
      · have e:kL (C2 2)=some 2:=by decide
        rw[e]
        dsimp only
        unfold jY gd
        rw[if_neg Y610,if_pos rfl,if_neg Y610,if_pos rfl,hQ.resolve_right (fun h=>h rfl)]
 have key2:∀ (k:Nat) (p:Part),((∀ x,Qd (Qe x)=.ok x)\/Jk k p)->∀ (f:List fP) (b:List By),cu Qe k p=.ok (f,b)->dK Qd k f b=.ok p/\bJ f b=0:=by
  intro k
  induction k with
  | zero=>
    intro p hQ f b h
    exact key none none (fun _=>True) nofun p f b (hQ.elim .inl fun h=>.inr h) (fun _ _=>trivial) h
  | succ k ih=>
    intro p hQ f b h
    refine key (some (cu Qe k)) (some (tf (dK Qd k))) (fun a=>(∀ x,Qd (Qe x)=.ok x)\/Jk k a) (fun g hg=>?_) p f b (hQ.elim .inl fun h=>.inr h.1) (fun a ha=>hQ.elim .inl fun h=>.inr (h.2 a ha)) h
    cases hg
    refine⟨_,rfl,fun a x hN hx=>?_⟩
    obtain⟨h1,h2⟩:=ih a hN x.1 x.2 hx
    unfold tf
    rw[lV h2]
    exact h1
 exact fun k p f b hQ h=>(key2 k p hQ f b h).1
end gZ
end
section
namespace gZ
open aq Tok
def S2(i:Nat):List By:=[98,BitVec.ofNat 8 (48+i)]
def Ud:List By:=[109,117,108,116,105,112,97,114,116,47,109,105,120,101,100]
def Ue:List By:=[97,47,98]
def AU:Nat->List fP
 | 0=>[(cF,dj Ue []),(fu,E8)]
 | n+1=>[(cF,dj Ud [(fF,S2 n)])]
def Rm(n:Nat)(m:List By):Prop:=∀ q∈di m,∀ i,n<=i->i<10->aX (S2 i) q.1=0
theorem uw:∀ (l x:List By),(∀ c∈l,c≠45)->(∀ c∈x,c≠45)->∀ q∈fk l x,∀ c∈q.1,c≠45
 | [],x,_,hx=>by
   intro q hq
   unfold fk at hq
   split at hq
   · cases hq
   · rw[List.mem_singleton.1 hq];exact hx
 | d::l,x,hl,hx=>by
   intro q hq
   unfold fk at hq
   split at hq
   · rcases List.mem_cons.1 hq with rfl|hq
     · split
       · exact fun c hc=>hx c ((List.dropLast_prefix x).subset hc)
       · exact hx
     · exact uw l [] (fun c hc=>hl c (List.mem_cons_of_mem _ hc)) Y614 q hq
   · refine uw l (x++[d]) (fun c hc=>hl c (List.mem_cons_of_mem _ hc)) (fun c hc=>?_) q hq
     rcases List.mem_append.1 hc with hc|hc
     · exact hx c hc
     · rw[List.mem_singleton.1 hc];exact hl d List.mem_cons_self
theorem MI{l:List By}(h:∀ c∈l,c≠45):nd l:=by
 intro e
 cases l with
 | nil=>cases e
 | cons c l=>
   have:c=45:=by
    cases l with
    | nil=>simp at e
    | cons d l=>simp only[List.take_succ_cons,List.take_zero,List.cons.injEq] at e;exact e.1
   exact h c List.mem_cons_self this
theorem S3:∀ m:Fin 64,bQ.sg m.val≠45:=by decide +kernel
theorem Rn:∀ (l:List By),∀ c∈bQ.bC l,c≠45:=by
 have hs:∀ n,n<64->bQ.sg n≠45:=fun n hn=>S3 ⟨n,hn⟩
 intro l
 induction l using bQ.ME with
 | h0=>simp[bQ.bC]
 | h1 a=>
   intro c hc
   have:=a.isLt
   simp only[bQ.bC,List.mem_cons,List.not_mem_nil,or_false] at hc
   rcases hc with rfl|rfl|rfl|rfl
   · exact Y233
   · exact Y233
   · decide
   · decide
 | h2 a b=>
   intro c hc
   have:=a.isLt
   have:=b.isLt
   simp only[bQ.bC,List.mem_cons,List.not_mem_nil,or_false] at hc
   rcases hc with rfl|rfl|rfl|rfl
   · exact Y233
   · exact Y233
   · exact Y233
   · decide
 | h3 a b c r ih=>
   intro x hx
   have:=a.isLt
   have:=b.isLt
   have:=c.isLt
   rw[bQ.pP] at hx
   simp only[List.mem_cons] at hx
   rcases hx with rfl|rfl|rfl|rfl|hx
   · exact Y233
   · exact Y233
   · exact Y233
   · exact Y233
   · exact ih x hx
theorem Ro{s:List By}(hs:∀ c∈s,c≠45):∀ i,∀ c∈bQ.ou s i,c≠45
 | 0=>by simp[bQ.ou]
 | i+1=>by
   have ih:=Ro hs i
   intro c hc
   unfold bQ.ou at hc
   have h1:s.getD i 0≠45:=by
    by_cases hi:i<s.length
    · rw[List.getD_eq_getElem?_getD,List.getElem?_eq_getElem hi]
      exact hs _ (List.getElem_mem hi)
    · rw[List.getD_eq_getElem?_getD,List.getElem?_eq_none Y609]
      decide
   rcases List.mem_append.1 hc with hc|hc
   · exact ih c hc
   rcases List.mem_cons.1 hc with hc|hc
   · rw[hc];exact h1
   split at hc
   · simp only[List.mem_cons,List.not_mem_nil,or_false] at hc
     rcases hc with rfl|rfl <;> decide
   · cases hc
theorem MJ{a:List By}(r:List By)(h:a.getLast?=some 10):di (a++r)=di a++di r:=by
 obtain⟨x,rfl⟩:=List.getLast?_eq_some_iff.1 h
 unfold di
 rw[List.append_assoc,List.singleton_append,tC]
def xE(n:Nat):List By:=dg (AU n)++[13,10]
def Rp(n:Nat)(m:List By):Bool:=(di m).all fun q=>(List.range 10).all fun i=>decide (i<n)||decide (aX (S2 i) q.1=0)
theorem Pf{n:Nat}{m:List By}(h:Rp n m=true):Rm n m:=fun q hq i hi hi'=>by
 have h1:=List.all_eq_true.1 h q hq
 have h2:=List.all_eq_true.1 h1 i (List.mem_range.2 hi')
 simp only[Bool.or_eq_true,decide_eq_true_eq] at h2
 omega
def AV(n:Nat):Bool:=Rp 0 (xE n)&&(decide ((xE n).getLast?=some 10)&&(decide ((xE n).length<=100)&&(decide ((AU n).length<=2)&&(AU n).all fun p=>c8 p.1&&fC p.2)))
theorem GF:∀ n:Fin 10,AV n.val=true:=by decide +kernel
theorem Fc{n:Nat}(h:n<10):Rm 0 (xE n)/\(xE n).getLast?=some 10/\(xE n).length<=100/\(AU n).length<=2/\(AU n).all (fun p=>c8 p.1&&fC p.2)=true:=by
 have:=GF ⟨n,h⟩
 unfold AV at this
 simp only[Bool.and_eq_true,decide_eq_true_eq] at this
 exact⟨Pf this.1,this.2.1,this.2.2.1,this.2.2.2.1,this.2.2.2.2⟩
end gZ
namespace zo
open aq Tok gZ
structure jo where
 fr:List By
 to:List By
 id:List By
 th:List By
 pl:Bool
 bu:List By
 ci:List By
def mX(s:List By):Bool:=s.all jS&&(decide (1<=s.length)&&decide (s.length<=200))
def ux(s:List By):Bool:=decide ((cH s).2=0)&&decide ((cH s).1=s)
def gC(e:jo):Bool:=ux e.fr&&(ux e.to&&(mX e.id&&mX e.th))
def uy:List By:=[70,114,111,109]
def uz:List By:=[84,111]
def xF:List By:=[77,101,115,115,97,103,101,45,73,68]
def xG:List By:=[88,45,84,104,114,101,97,100]
def oz:List By:=[88,45,75,101,121,115]
def C3:List By:=[102,114,111,109]
def C4:List By:=[116,111]
def Fe:List By:=[109,101,115,115,97,103,101,45,105,100]
def Ff:List By:=[120,45,116,104,114,101,97,100]
def wY:List By:=[120,45,107,101,121,115]
def eE:List By:=[109,117,108,116,105,112,97,114,116,47,101,110,99,114,121,112,116,101,100]
def eW:List By:=[97,112,112,108,105,99,97,116,105,111,110,47,120,45,100,101,115,112,97,116,99,104]
def fQ:List By:=[97,112,112,108,105,99,97,116,105,111,110,47,111,99,116,101,116,45,115,116,114,101,97,109]
def gS:List By:=[100,101,115,112,97,116,99,104,45,112,97,114,116]
def C5:List By:=[112,114,111,116,111,99,111,108]
def kq:List By:=[86,101,114,115,105,111,110,58,32,49]
def aG(e:jo):List fP:=[(uy,e.fr),(uz,e.to),(xF,60::e.id++[62]),(xG,60::e.th++[62])]++(if e.bu=[] then [] else [(oz,bQ.bC e.bu)])
def iO:List fP:=[(fF,gS),(C5,eW)]
def fT(e:jo):Part:=if e.pl then .mk mL [] 1 e.ci [] else .mk eE iO 0 [] [.mk eW [] 0 kq [],.mk fQ [] 1 e.ci []]
def qT(Qe:List By->List By)(e:jo):Except Nat (List fP × List By):=
 if 1049600<e.ci.length\/3000<e.bu.length then .error 4
 else if gC e=false then .error 3
 else match cu Qe 8 (fT e) with
  | .error k=>.error k
  | .ok x=>.ok (aG e++x.1,x.2)
def bW(n:List By)(f:List fP):List By:=(dP n f).headD []
def gN(v:List By):List By × Bool:=if (mQ v).2=0/\(mQ v).1.length=1 then((mQ v).1.headD [],mX ((mQ v).1.headD [])) else([],false)
def tg(v:List By):Option (List By):=match wX v with
 | .error _=>none
 | .ok b=>if b.length<=3000 then some b else none
def MK(f:List fP):Option jo:=
 if (cH (bW C3 f)).2=0/\(cH (bW C4 f)).2=0/\(gN (bW Fe f)).2=true/\(gN (bW Ff f)).2=true then
  match tg (bW wY f) with
  | none=>none
  | some b=>some ⟨(cH (bW C3 f)).1,(cH (bW C4 f)).1,(gN (bW Fe f)).1,(gN (bW Ff f)).1,false,b,[]⟩
 else none
def fe(p:Part):Option (List By):=
 if cJ p.ps C5=eW/\p.parts.length=2/\(p.parts.getD 0 default).kind=eW/\(p.parts.getD 1 default).kind=fQ/\(p.parts.getD 0 default).body.take 10=kq then some (p.parts.getD 1 default).body else none
def oG(p:Part):Option (List By):=if p.kind=mL then some p.body else if p.kind=eE then fe p else none
def wZ(Qd:List By->Except Nat (List By))(f:List fP)(b:List By):Except Nat jo:=match MK f with
 | none=>.error 3
 | some e=>match dK Qd 8 f b with
   | .error k=>.error k
   | .ok p=>match oG p with
     | none=>.error 3
     | some c=>if 1049600<c.length then .error 4 else .ok { e with pl:=decide (p.kind=mL),ci:=c }
def kZ(e:jo):List By:=e.fr++[10]++(e.to++[10])++(e.id++[10])++(e.th++[10])
theorem zq{s:List By}(h:mX s=true):(∀ c∈s,jS c=true)/\1<=s.length/\s.length<=200:=by
 unfold mX at h
 simp only[Bool.and_eq_true,decide_eq_true_eq,List.all_eq_true] at h
 exact h
theorem AW{s:List By}(h:ux s=true):(cH s).2=0/\(cH s).1=s:=by
 unfold ux at h
 simpa only[Bool.and_eq_true,decide_eq_true_eq] using h
theorem AX{s:List By}(h:mX s=true):gN (60::s++[62])=(s,true):=by
 obtain⟨h1,h2,_⟩:=zq h
 have e:=I8 (ps:=[(s,0)]) (fun p hp=>by rw[List.mem_singleton.1 hp];exact⟨by show 0<s.length;omega,h1⟩)
 have e2:so [(s,0)]=60::s++[62]:=by
  unfold so
  rw[List.flatMap_cons,List.flatMap_nil,List.append_nil]
  rfl
 rw[e2] at e
 unfold gN
 rw[e,if_pos ⟨rfl,rfl⟩]
 show(s,mX s)=_
 rw[h]
theorem Dd{s:List By}(h:(cH s).2=0):∀ c∈(cH s).1,good c=true:=by
 have key:∀ u:List By,(iF u).2=0->∀ c∈(iF u).1,good c=true:=by
  intro u hu
  unfold iF at hu⊢
  split at hu
  · cases hu
  · next hn=>
    rw[if_neg hn]
    have h1:¬ fst 64 u=u.length:=fun k=>hn (.inl k)
    have h2:gM (u.take (fst 64 u))=true:=by
     cases e:gM (u.take (fst 64 u))
     · exact absurd (.inr (.inl e)) hn
     · rfl
    have h3:gM (u.drop (fst 64 u+1))=true:=by
     cases e:gM (u.drop (fst 64 u+1))
     · exact absurd (.inr (.inr e)) hn
     · rfl
    have hlt:fst 64 u<u.length:=by
     have:fst 64 u<=u.length:=(List.takeWhile_sublist _).length_le
     omega
    have hs:=uo u hlt
    have e:u.take (fst 64 u+1)=u.take (fst 64 u)++[64]:=Mv hs (by rw[List.length_take];exact Nat.min_eq_left (Nat.le_of_lt hlt))
    rw[e,List.append_assoc]
    intro c hc
    rcases List.mem_append.1 hc with hc|hc
    · exact(tD c (y7 _ _ h2 c hc)).1
    rcases List.mem_append.1 hc with hc|hc
    · rw[List.mem_singleton.1 hc];decide
    · obtain⟨d,hd,rfl⟩:=List.mem_map.1 hc
      have hp:=AL d
      rcases y7 _ _ h3 d hd with k|k
      · exact(tD _ (.inl (hp.2.1.2 k))).1
      · exact(tD _ (.inr (by rw[hp.1];exact k))).1
 have key2:∀ t:List By,(oy t).2=0->∀ c∈(oy t).1,good c=true:=by
  intro t ht
  unfold oy at ht⊢
  split at ht
  · next hh=>
    rw[if_pos hh]
    split at ht
    · next hm=>rw[if_pos hm];exact key _ ht
    · cases ht
  · next hh=>rw[if_neg hh];exact key _ ht
 unfold cH at h⊢
 split at h
 · next hh=>rw[if_pos hh];exact key2 _ h
 · next hh=>exact absurd h hh
theorem Jl(c:By)(h:good c=true):fB c=true/\bl c=false/\¬ c=10:=by
 have:=ga (fun c=>!good c||(fB c&&(!bl c&&!(c==10)))) Y615 c
 rw[h] at this
 simpa using this
theorem Jm(c:By)(h:jS c=true):fB c=true/\bl c=false/\¬ c=10:=by
 have:=ga (fun c=>!jS c||(fB c&&(!bl c&&!(c==10)))) Y615 c
 rw[h] at this
 simpa using this
theorem uA{v:List By}(h:∀ c∈v,fB c=true/\bl c=false)(hl:v.length<=8192):fC v=true:=by
 unfold fC
 rw[show v.all fB=true from List.all_eq_true.2 fun c hc=>(h c hc).1,decide_eq_true hl,Bool.true_and,Bool.true_and]
 cases v with
 | nil=>rfl
 | cons c r=>
   have h1:=(h c Y614).2
   have h2:bl ((c::r).getD ((c::r).length-1) 0)=false:=by
    rw[List.getD_eq_getElem?_getD,List.getElem?_eq_getElem Y614]
    exact(h _ (List.getElem_mem _)).2
   rw[h2]
   show(_||(!bl c&&!false))=true
   rw[h1]
   simp
theorem Fg:∀ (l:List By),∀ c∈bQ.bC l,fB c=true/\bl c=false:=by
 have hs0:∀ m:Fin 64,fB (bQ.sg m.val)=true/\bl (bQ.sg m.val)=false:=by decide +kernel
 have hs:∀ n,n<64->fB (bQ.sg n)=true/\bl (bQ.sg n)=false:=fun n hn=>hs0 ⟨n,hn⟩
 have h61:fB (61:By)=true/\bl (61:By)=false:=by decide
 intro l
 induction l using bQ.ME with
 | h0=>simp[bQ.bC]
 | h1 a=>
   intro c hc
   have:=a.isLt
   simp only[bQ.bC,List.mem_cons,List.not_mem_nil,or_false] at hc
   rcases hc with rfl|rfl|rfl|rfl
   · exact Y233
   · exact Y233
   · exact h61
   · exact h61
 | h2 a b=>
   intro c hc
   have:=a.isLt
   have:=b.isLt
   simp only[bQ.bC,List.mem_cons,List.not_mem_nil,or_false] at hc
   rcases hc with rfl|rfl|rfl|rfl
   · exact Y233
   · exact Y233
   · exact Y233
   · exact h61
 | h3 a b c r ih=>
   intro x hx
   have:=a.isLt
   have:=b.isLt
   have:=c.isLt
   rw[bQ.pP] at hx
   simp only[List.mem_cons] at hx
   rcases hx with rfl|rfl|rfl|rfl|hx
   · exact Y233
   · exact Y233
   · exact Y233
   · exact Y233
   · exact ih x hx
theorem Jn(l:List By):bQ.bare (bQ.bC l)=bQ.bC l:=by
 unfold bQ.bare
 refine List.filter_eq_self.2 fun c hc=>?_
 have h1:=Fg l c hc
 have:=ga (fun c=>!(fB c&&!bl c)||!bQ.blank c) Y615 c
 rw[h1.1,h1.2] at this
 simpa using this
theorem Jo{b:List By}(h:b.length<=3000):tg (bQ.bC b)=some b:=by
 unfold tg wX
 rw[Jn,bQ.uv]
 exact if_pos h
theorem GG(Qd:List By->Except Nat (List By)):∀ (k:Nat) {F f:List fP} {b:List By},dP xC F=[]->dP wT F=[]->dK Qd k (F++f) b=dK Qd k f b:=by
 have key:∀ (sub:Option (List By->Except Nat Part)) {F f:List fP} {b:List By},dP xC F=[]->dP wT F=[]->mD Qd sub (F++f) b=mD Qd sub f b:=by
  intro sub F f b h1 h2
  have e1:e7 (F++f)=e7 f:=by
   unfold e7
   rw[show dP xC (F++f)=dP xC f by unfold dP at h1⊢;rw[List.filter_append,List.map_append,h1];rfl]
  have e2:xD (F++f)=xD f:=by
   unfold xD
   rw[show dP wT (F++f)=dP wT f by unfold dP at h2⊢;rw[List.filter_append,List.map_append,h2];rfl]
  unfold mD
  rw[e1,e2]
 intro k
 cases k with
 | zero=>exact key _
 | succ k=>exact key _
theorem all_none{n:List By}:∀ {F:List fP},(∀ p∈F,bY p.1 n=false)->dP n F=[]:=by
 intro F h
 unfold dP
 rw[List.filter_eq_nil_iff.2 fun p hp=>by rw[h p hp];decide]
 rfl
theorem pS{e:jo}{n:List By}(h:bY uy n=false/\bY uz n=false/\bY xF n=false/\bY xG n=false/\bY oz n=false):dP n (aG e)=[]:=by
 refine all_none fun p hp=>?_
 obtain⟨h1,h2,h3,h4,h5⟩:=h
 unfold aG at hp
 rcases List.mem_append.1 hp with hp|hp
 · simp only[List.mem_cons,List.not_mem_nil,or_false] at hp
   rcases hp with rfl|rfl|rfl|rfl
   · exact h1
   · exact h2
   · exact h3
   · exact h4
 · split at hp
   · cases hp
   · rw[List.mem_singleton.1 hp];exact h5
theorem Rq(e:jo)(f:List fP):bW C3 (aG e++f)=e.fr:=rfl
theorem Rr(e:jo)(f:List fP):bW C4 (aG e++f)=e.to:=rfl
theorem Rs(e:jo)(f:List fP):bW Fe (aG e++f)=60::e.id++[62]:=rfl
theorem Rt(e:jo)(f:List fP):bW Ff (aG e++f)=60::e.th++[62]:=rfl
theorem Ru(e:jo){f:List fP}(h:dP wY f=[]):bW wY (aG e++f)=bQ.bC e.bu:=by
 by_cases hb:e.bu=[]
 · have:aG e=[(uy,e.fr),(uz,e.to),(xF,60::e.id++[62]),(xG,60::e.th++[62])]:=by unfold aG;rw[if_pos hb];rfl
   rw[this,hb]
   show(dP wY f).headD []=_
   rw[h]
   rfl
 · have:aG e=[(uy,e.fr),(uz,e.to),(xF,60::e.id++[62]),(xG,60::e.th++[62]),(oz,bQ.bC e.bu)]:=by unfold aG;rw[if_neg hb];rfl
   rw[this]
   rfl
theorem mY{e:jo}(h:gC e=true):ux e.fr=true/\ux e.to=true/\mX e.id=true/\mX e.th=true:=by
 unfold gC at h
 simpa only[Bool.and_eq_true] using h
theorem ML{e:jo}{f:List fP}(h:gC e=true)(hb:e.bu.length<=3000)(hf:dP wY f=[]):MK (aG e++f)=some ⟨e.fr,e.to,e.id,e.th,false,e.bu,[]⟩:=by
 obtain⟨h1,h2,h3,h4⟩:=mY h
 unfold MK
 rw[Rq,Rr,Rs,Rt,Ru e hf,AX h3,AX h4,Jo hb,(AW h1).1,(AW h1).2,(AW h2).1,(AW h2).2,if_pos ⟨rfl,rfl,rfl,rfl⟩]
def eG(k:List By)(c:Int):List fP:=[(cF,dj k []),(fu,C2 c)]
def mZ(k:List By)(c:Int):Bool:=dQ k []&&(!fo k&&(decide (0<=c)&&(decide (c<=2)&&((eG k c).all (fun p=>c8 p.1&&fC p.2)&&(decide ((dg (eG k c)).length<=1000)&&((di (dg (eG k c)++[13,10])).all (fun q=>decide (aX gS q.1=0))&&decide ((dg (eG k c)++[13,10]).getLast?=some 10)))))))
theorem tF:mZ mL 1=true:=by decide +kernel
theorem pT:mZ eW 0=true:=by decide +kernel
theorem ld:mZ fQ 1=true:=by decide +kernel
structure zu (k:List By) (c:Int):Prop where
 right:dQ k []=true
 Oz:fo k=false
 lo:0<=c
 hi:c<=2
 all:(eG k c).all (fun p=>c8 p.1&&fC p.2)=true
 len:(dg (eG k c)).length<=1000
 Rm:∀ q∈di (dg (eG k c)++[13,10]),aX gS q.1=0
 last:(dg (eG k c)++[13,10]).getLast?=some 10
theorem gr{k:List By}{c:Int}(h:mZ k c=true):zu k c:=by
 unfold mZ at h
 simp only[Bool.and_eq_true,decide_eq_true_eq,Bool.not_eq_true',List.all_eq_true] at h
 obtain⟨h1,h2,h3,h4,h5,h6,h7,h8⟩:=h
 exact⟨h1,h2,h3,h4,List.all_eq_true.2 fun p hp=>by rw[Bool.and_eq_true];exact h5 p hp,h6,h7,h8⟩
theorem lg{k:List By}{c:Int}(h:zu k c){b:List By}(hb:b.length<=100000):bJ (eG k c) b=0/\bt (eG k c) b=dg (eG k c)++[13,10]++b:=by
 have h1:=h.len
 have hk:bJ (eG k c) b=0:=by
  unfold bJ
  rw[if_pos h.all,if_neg]
  rintro(h|h|h)
  · have h:200<2:=h
    omega
  · omega
  · omega
 refine⟨hk,?_⟩
 unfold bt
 rw[if_pos hk]
theorem oH(Qe:List By->List By){k:List By}{c:Int}(h:zu k c){b:List By}(hb:(gd Qe c b).length<=100000)(d:Nat):cu Qe d (.mk k [] c b [])=.ok (eG k c,gd Qe c b):=by
 have key:∀ sub,E9 Qe sub (.mk k [] c b [])=.ok (eG k c,gd Qe c b):=by
  intro sub
  show mW Qe sub k [] c b []=_
  have:=h.lo
  have:=h.hi
  unfold mW
  rw[if_neg (by rw[h.right];decide),if_neg (by rw[h.Oz];decide),if_neg (by rintro(k|k|k);omega;omega;exact k rfl)]
  show mV (eG k c) _=_
  unfold mV
  rw[if_pos (lg h hb).1]
 cases d with
 | zero=>exact key _
 | succ d=>exact key _
theorem jJ(b:List By):(bQ.e6 b).length<=4*b.length+12:=by
 have h1:=bQ.tE (bQ.bC b) (bQ.bC b).length
 have h2:=bQ.jX b
 unfold bQ.e6
 omega
def oA:List fP:=[(cF,dj eE iO)]
def m3:Bool:=dQ eE iO&&(fo eE&&(cG gS&&(decide (cJ iO fF=gS)&&(oA.all (fun p=>c8 p.1&&fC p.2)&&(decide ((dg oA).length<=1000)&&(di (dg (eG eW 0)++[13,10]++kq)).all (fun q=>decide (aX gS q.1=0)))))))
theorem nR:m3=true:=by decide +kernel
def uB:List By:=dg (eG eW 0)++[13,10]++kq
def pU(c:List By):List By:=dg (eG fQ 1)++[13,10]++bQ.e6 c
def eY(e:jo):List By:=if e.pl then bQ.e6 e.ci else jn gS [uB,pU e.ci] []
def bB(e:jo):List fP:=if e.pl then eG mL 1 else oA
theorem nS:uB.length<=1100:=by decide +kernel
theorem nU(c:List By):(pU c).length<=4*c.length+1014:=by
 have h1:=jJ c
 have h2:=(gr ld).len
 unfold pU
 simp only[List.length_append,List.length_cons,List.length_nil]
 omega
theorem xH(e:jo):(eY e).length<=4*e.ci.length+2300:=by
 unfold eY
 split
 · have:=jJ e.ci
   omega
 · have h1:=nS
   have h2:=nU e.ci
   simp only[jn,List.flatMap_cons,List.flatMap_nil,List.length_append,List.length_cons,List.length_nil,gS]
   omega
theorem Jp:∀ q∈di uB,aX gS q.1=0:=by
 have h:=nR
 unfold m3 at h
 simp only[Bool.and_eq_true,decide_eq_true_eq,List.all_eq_true] at h
 exact h.2.2.2.2.2.2
theorem Jq(c:List By):∀ q∈di (pU c),aX gS q.1=0:=by
 have hl:=gr ld
 intro q hq
 unfold pU at hq
 rw[MJ _ hl.last] at hq
 rcases List.mem_append.1 hq with hq|hq
 · exact hl.Rm q hq
 · exact EZ (MI (uw _ [] (Ro (Rn c) _) Y614 q hq))
theorem lW(Qe:List By->List By)(e:jo)(hc:e.ci.length<=10000):cu Qe 8 (fT e)=.ok (bB e,eY e):=by
 have hl:=jJ e.ci
 have b1:∀ b:List By,gd Qe 1 b=bQ.e6 b:=fun b=>rfl
 unfold fT bB eY
 cases e.pl with
 | true=>
   have:=oH Qe (gr tF) (b:=e.ci) (by rw[b1];omega) 8
   rw[b1] at this
   exact this
 | false=>
   have h:=nR
   unfold m3 at h
   simp only[Bool.and_eq_true,decide_eq_true_eq] at h
   obtain⟨h1,h2,h3,h4,h5,h6,_⟩:=h
   have w1:=oH Qe (gr pT) (b:=kq) (by show kq.length<=_;decide) 7
   have w2:=oH Qe (gr ld) (b:=e.ci) (by rw[b1];omega) 7
   have o1:bt (eG eW 0) kq=uB:=(lg (gr pT) Y610).2
   have o2:bt (eG fQ 1) (bQ.e6 e.ci)=pU e.ci:=(lg (gr ld) Y609).2
   have e1:fc (cu Qe 7) [.mk eW [] 0 kq [],.mk fQ [] 1 e.ci []]=.ok [(eG eW 0,kq),(eG fQ 1,bQ.e6 e.ci)]:=by
    rw[fc,w1]
    dsimp only
    rw[fc,w2]
    rfl
   have hN:cu Qe 8 (.mk eE iO 0 [] [.mk eW [] 0 kq [],.mk fQ [] 1 e.ci []])=mW Qe (some (cu Qe 7)) eE iO 0 [] [.mk eW [] 0 kq [],.mk fQ [] 1 e.ci []]:=by rw[cu];rfl
   rw[if_neg Y610,if_neg Y610,if_neg Y610,hN]
   unfold mW
   rw[h4,if_neg (by rw[h1];decide),if_pos h2,if_neg (by rw[h3];simp)]
   dsimp only
   rw[e1]
   dsimp only
   rw[List.map_cons,List.map_cons,List.map_nil]
   dsimp only
   rw[o1,o2,if_pos (E5 h3 Y614 fun p hp=>by
    simp only[List.mem_cons,List.not_mem_nil,or_false] at hp
    rcases hp with rfl|rfl
    · exact Jp
    · exact Jq _)]
   show mV oA _=_
   unfold mV
   have hlen:(jn gS [uB,pU e.ci] []).length<=4*e.ci.length+2300:=by
    have:=xH { e with pl:=false }
    exact this
   rw[if_pos (by
    unfold bJ
    rw[if_pos h5,if_neg]
    rintro(h|h|h)
    · have h:200<1:=h
      omega
    · omega
    · omega)]
theorem AY(e:jo):Jk 9 (fT e):=by
 unfold fT
 cases e.pl with
 | true=>exact⟨by show(1:Int)≠2;decide,by intro q hq;cases hq⟩
 | false=>
   refine⟨by show(0:Int)≠2;decide,fun q hq=>?_⟩
   have hq:q∈([.mk eW [] 0 kq [],.mk fQ [] 1 e.ci []]:List Part):=hq
   simp only[List.mem_cons,List.not_mem_nil,or_false] at hq
   rcases hq with rfl|rfl
   · exact⟨by show(0:Int)≠2;decide,by intro q hq;cases hq⟩
   · exact⟨by show(1:Int)≠2;decide,by intro q hq;cases hq⟩
theorem OA(Qe:List By->List By){e:jo}(hr:gC e=true)(hc:e.ci.length<=10000)(hb:e.bu.length<=3000):qT Qe e=.ok (aG e++bB e,eY e):=by
 unfold qT
 rw[if_neg Y609,if_neg (by rw[hr];decide),lW Qe e hc]
theorem m4(e:jo):(bB e).all (fun p=>c8 p.1&&fC p.2)=true/\(dg (bB e)).length<=1000/\(bB e).length<=2/\dP wY (bB e)=[]:=by
 unfold bB
 cases e.pl with
 | true=>exact⟨(gr tF).all,(gr tF).len,by show 2<=2;omega,rfl⟩
 | false=>
   have h:=nR
   unfold m3 at h
   simp only[Bool.and_eq_true,decide_eq_true_eq] at h
   obtain⟨h1,h2,h3,h4,h5,h6,_⟩:=h
   exact⟨h5,h6,by show 1<=2;omega,rfl⟩
theorem Jr:c8 uy=true/\c8 uz=true/\c8 xF=true/\c8 xG=true/\c8 oz=true:=by decide +kernel
theorem Jt{s:List By}(h:ux s=true)(hl:s.length<=8192):fC s=true:=
 uA (fun c hc=>by
  obtain⟨h1,h2⟩:=AW h
  rw[<- h2] at hc
  have:=Jl c (Dd h1 c hc)
  exact⟨this.1,this.2.1⟩) hl
theorem Ju{s:List By}(h:mX s=true):fC (60::s++[62])=true:=by
 obtain⟨h1,_,h3⟩:=zq h
 refine uA (fun c hc=>?_) Y611
 rcases List.mem_append.1 hc with hc|hc
 · rcases List.mem_cons.1 hc with rfl|hc
   · decide
   · have:=Jm c (h1 c hc)
     exact⟨this.1,this.2.1⟩
 · rw[List.mem_singleton.1 hc];decide
theorem Pg{b:List By}(h:b.length<=3000):fC (bQ.bC b)=true:=uA (Fg b) (by rw[bQ.jX];omega)
theorem De{e:jo}(hr:gC e=true)(hb:e.bu.length<=3000)(h1:e.fr.length<=8192)(h2:e.to.length<=8192):∀ p∈aG e,c8 p.1=true/\fC p.2=true:=by
 obtain⟨r1,r2,r3,r4⟩:=mY hr
 obtain⟨n1,n2,n3,n4,n5⟩:=Jr
 intro p hp
 unfold aG at hp
 rcases List.mem_append.1 hp with hp|hp
 · simp only[List.mem_cons,List.not_mem_nil,or_false] at hp
   rcases hp with rfl|rfl|rfl|rfl
   · exact⟨n1,Jt r1 h1⟩
   · exact⟨n2,Jt r2 h2⟩
   · exact⟨n3,Ju r3⟩
   · exact⟨n4,Ju r4⟩
 · split at hp
   · cases hp
   · rw[List.mem_singleton.1 hp];exact⟨n5,Pg hb⟩
theorem Fh(n v:List aq.By):∀ i,(st n v i).1.length<=n.length+2+3*i
 | 0=>by simp[st]
 | i+1=>by
   have h1:=Fh n v i
   unfold st
   split
   · simp only[List.length_append,List.length_cons,List.length_nil];omega
   · simp only[List.length_append,List.length_cons,List.length_nil];omega
theorem AZ:∀ {k:Nat} {p:Part},Jk (k+1) p->Jk k p
 | 0,_,h=>h.1
 | _+1,_,h=>⟨h.1,fun q hq=>AZ (h.2 q hq)⟩
theorem lq(n v:List By):(ek n v).length<=n.length+4+3*v.length:=by
 have:=Fh n v v.length
 unfold ek
 rw[List.length_append]
 simp only[List.length_cons,List.length_nil]
 omega
theorem GH(a b:List fP):dg (a++b)=dg a++dg b:=List.flatMap_append ..
theorem oI{e:jo}(hr:gC e=true)(hb:e.bu.length<=3000)(h1:e.fr.length<=300)(h2:e.to.length<=300):(dg (aG e)).length<=16000/\(aG e).length<=5:=by
 obtain⟨_,_,r3,r4⟩:=mY hr
 have i3:=(zq r3).2.2
 have i4:=(zq r4).2.2
 have k1:=lq uy e.fr
 have k2:=lq uz e.to
 have k3:=lq xF (60::e.id++[62])
 have k4:=lq xG (60::e.th++[62])
 have k5:=lq oz (bQ.bC e.bu)
 rw[bQ.jX] at k5
 simp only[uy,uz,xF,xG,oz,List.length_append,List.length_cons,List.length_nil] at k1 k2 k3 k4 k5
 by_cases hbu:e.bu=[]
 · have ef:aG e=[(uy,e.fr),(uz,e.to),(xF,60::e.id++[62]),(xG,60::e.th++[62])]:=by unfold aG;rw[if_pos hbu];rfl
   rw[ef]
   refine⟨?_,by show 4<=5;omega⟩
   simp only[dg,List.flatMap_cons,List.flatMap_nil,List.length_append,List.length_nil,uy,uz,xF,xG]
   simp only[List.cons_append] at k3 k4⊢
   omega
 · have ef:aG e=[(uy,e.fr),(uz,e.to),(xF,60::e.id++[62]),(xG,60::e.th++[62]),(oz,bQ.bC e.bu)]:=by unfold aG;rw[if_neg hbu];rfl
   rw[ef]
   refine⟨?_,by show 5<=5;omega⟩
   simp only[dg,List.flatMap_cons,List.flatMap_nil,List.length_append,List.length_nil,uy,uz,xF,xG,oz]
   simp only[List.cons_append] at k3 k4⊢
   omega
structure S4 (e:jo):Prop where
 k:bJ (aG e++bB e) (eY e)=0
 len:(bt (aG e++bB e) (eY e)).length<=40000
 pos:bt (aG e++bB e) (eY e)≠[]
 body:(eY e).length<=15000
 Rv:(aG e++bB e).length<=7
 vals:∀ p∈aG e++bB e,p.1.length<=64/\p.2.length<=8192
 read:∀ Qd,wZ Qd (aG e++bB e) (eY e)=.ok e
theorem OB{e:jo}(hr:gC e=true)(hc:e.ci.length<=3000)(hb:e.bu.length<=3000)(h1:e.fr.length<=300)(h2:e.to.length<=300):S4 e:=by
 obtain⟨a1,a2,a3,a4⟩:=m4 e
 obtain⟨f1,f2⟩:=oI hr hb h1 h2
 have b1:=xH e
 have hfa:=De hr hb Y609 Y609
 have hall:∀ p∈aG e++bB e,c8 p.1=true/\fC p.2=true:=fun p hp=>by
  rcases List.mem_append.1 hp with hp|hp
  · exact hfa p hp
  · have:=List.all_eq_true.1 a1 p hp
    rwa [Bool.and_eq_true] at this
 have hl:(dg (aG e++bB e)).length<=17000:=by rw[GH,List.length_append];omega
 have hn:(aG e++bB e).length<=7:=by rw[List.length_append];omega
 have hk:bJ (aG e++bB e) (eY e)=0:=by
  unfold bJ
  rw[if_pos (List.all_eq_true.2 fun p hp=>by rw[Bool.and_eq_true];exact hall p hp),if_neg]
  rintro(h|h|h) <;> omega
 have ho:bt (aG e++bB e) (eY e)=dg (aG e++bB e)++[13,10]++eY e:=by unfold bt;rw[if_pos hk]
 refine⟨hk,?_,?_,by omega,hn,fun p hp=>⟨(iS (hall p hp).1).2.2,(hU (hall p hp).2).2.1⟩,fun Qd=>?_⟩
 · rw[ho]
   simp only[List.length_append,List.length_cons,List.length_nil]
   omega
 · rw[ho];simp
 · have hp:dK Qd 8 (bB e) (eY e)=.ok (fT e):=zm (Qe:=fun b=>b) 8 (.inr (by
    have:=AY e
    exact AZ this)) (lW _ e Y609)
   unfold wZ
   rw[ML hr hb a4]
   dsimp only
   rw[GG Qd 8 (pS Y610) (pS Y610),hp]
   dsimp only
   have hcip:oG (fT e)=some e.ci:=by
    unfold fT oG
    cases e.pl with
    | true=>rfl
    | false=>
      show(if eE=mL then _ else if eE=eE then fe _ else none)=_
      rw[if_neg Y610,if_pos rfl]
      rfl
   rw[hcip]
   dsimp only
   rw[if_neg Y609]
   have hpl:decide ((fT e).kind=mL)=e.pl:=by
    unfold fT
    cases e.pl with
    | true=>rfl
    | false=>exact decide_eq_false (show ¬ eE=mL by decide)
   rw[hpl]
end zo
namespace zo
open aq Tok gZ
end zo
namespace Sl
abbrev Env:=List (Nat × Value)
def lk:Env->Nat->Option Value
 | [],_=>none
 | (d,v)::E,t=>cond (Nat.beq d t) (some v) (lk E t)
structure bF (n:Nat) (E:Env) (a:Act):Prop where
 size:a.tmps.size=n
 defers:a.defers=[]
 all:∀ t v,lk E t=some v->a.tmps.getD t undef=v
theorem bF.put{n:Nat}{E:Env}{a:Act}(h:bF n E a)(d:Nat)(v:Value)(hd:Nat.blt d n=true):bF n ((d,v)::E) (a.put (some d) v):=by
 have hd':d<n:=by simpa using hd
 refine⟨by simp[Act.put,h.size],h.defers,fun t u hu=>?_⟩
 simp only[lk] at hu
 by_cases e:d=t
 · subst e
   simp at hu
   subst hu
   simp[Act.put,h.size,hd']
 · have:Nat.beq d t=false:=Bool.eq_false_iff.2 fun h=>e (Nat.eq_of_beq_eq_true h)
   rw[this] at hu
   have:=h.all t u hu
   simpa [Act.put,Array.getElem?_setIfInBounds,e] using this
theorem bF.A2{n:Nat}{E:Env}{a:Act}(h:bF n E a)(v:Value):bF n E (a.put none v):=h
inductive af (E:Env):Env->Prop where
 | nil:af E []
 | cons (d:Nat) (v:Value) (E':Env):lk E d=some v->af E E'->af E ((d,v)::E')
theorem af.all{E E':Env}(h:af E E'):∀ p∈E',lk E p.1=some p.2:=by
 induction h with
 | nil=>simp
 | cons d v E' h _ ih=>
   intro p hp
   simp only[List.mem_cons] at hp
   rcases hp with rfl|hp
   · exact h
   · exact ih p hp
theorem bF.sub{n:Nat}{E E':Env}{a:Act}(h:bF n E a)(hs':af E E'):bF n E' a:=by
 have hs:=hs'.all
 clear hs'
 refine⟨h.size,h.defers,fun t u hu=>h.all t u ?_⟩
 induction E' with
 | nil=>simp[lk] at hu
 | cons p E' ih=>
   simp only[lk] at hu
   by_cases e:p.1=t
   · subst e
     simp at hu
     subst hu
     exact hs p Y614
   · have:Nat.beq p.1 t=false:=Bool.eq_false_iff.2 fun h=>e (Nat.eq_of_beq_eq_true h)
     rw[this] at hu
     exact ih (fun q hq=>hs q Y618) hu
def ev(E:Env):Operand->Option Value
 | .tmp t=>lk E t
 | .const v=>some v
 | .global g=>some (.pointer (some ⟨g,0,none⟩))
 | .func f=>some (.func (.func f) #[] #[])
theorem bF.eval{n:Nat}{E:Env}{a:Act}(h:bF n E a){x:Operand}{v:Value}(hx:ev E x=some v):a.eval x=v:=by
 cases x with
 | tmp t=>exact h.all t v hx
 | const u=>exact Option.some.inj hx
 | global g=>exact Option.some.inj hx
 | func f=>exact Option.some.inj hx
structure pV (S:List Nat) (w w':World):Prop where
 os:w'.os=w.os
 tape:w'.tape=w.tape
 output:w'.output=w.output
 size:w.heap.size<=w'.heap.size
 block:∀ k,k<w.heap.size->k ∉ S->w'.heap[k]?=w.heap[k]?
theorem pV.refl(S:List Nat)(w:World):pV S w w:=⟨rfl,rfl,rfl,Nat.le_refl _,fun _ _ _=>rfl⟩
theorem pV.trans{S:List Nat}{a b c:World}(h:pV S a b)(k:pV S b c):pV S a c:=
 ⟨k.os.trans h.os,k.tape.trans h.tape,k.output.trans h.output,Nat.le_trans h.size k.size,
  fun i hi hS=>(k.block i (Nat.lt_of_lt_of_le hi h.size) hS).trans (h.block i hi hS)⟩
theorem pV.mono{S S':List Nat}{a b:World}(h:pV S a b)(hs:∀ k∈S,k∈S'):pV S' a b:=
 ⟨h.os,h.tape,h.output,h.size,fun i hi hS=>h.block i hi fun hk=>hS (hs i hk)⟩
abbrev Ext:=pV []
theorem pV.below{w w':World}(h:Ext w w'):RowKit.Below w.heap.size w w':=⟨h.os,h.tape,h.output,h.size,fun k hk=>h.block k hk Y614⟩
structure aL where
 b:Nat
 A:Obj->Prop
 wr:Bool
structure aa (w0:World) (S:List Nat) (M:List aL) (w:World):Prop where
 aH:pV S w0 w
 nodup:(M.map aL.b).Nodup
 all:∀ e∈M,(∃ o,w.heap[e.b]?=some o/\e.A o)/\(e.wr=true->e.b∈S\/w0.heap.size<=e.b)
inductive Has:List aL->Nat->(Obj->Prop)->Bool->Prop where
 | here {b A wr M}:Has (⟨b,A,wr⟩::M) b A wr
 | there {e M b A wr}:Has M b A wr->Has (e::M) b A wr
theorem Has.mem{M:List aL}{b:Nat}{A:Obj->Prop}{wr:Bool}(h:Has M b A wr):⟨b,A,wr⟩∈M:=by
 induction h with
 | here=>simp
 | there _ ih=>simp[ih]
inductive ki:List aL->Nat->(Obj->Prop)->(Obj->Prop)->List aL->Prop where
 | here {b A A' M}:ki (⟨b,A,true⟩::M) b A A' (⟨b,A',true⟩::M)
 | there {e M b A A' M'}:ki M b A A' M'->ki (e::M) b A A' (e::M')
theorem ki.has{M M':List aL}{b:Nat}{A A':Obj->Prop}(h:ki M b A A' M'):Has M b A true:=by
 induction h with
 | here=>exact .here
 | there _ ih=>exact .there ih
theorem ki.keys{M M':List aL}{b:Nat}{A A':Obj->Prop}(h:ki M b A A' M'):M'.map aL.b=M.map aL.b:=by
 induction h with
 | here=>rfl
 | there _ ih=>simp[ih]
theorem ki.old{M M':List aL}{b:Nat}{A A':Obj->Prop}(h:ki M b A A' M')(hn:(M.map aL.b).Nodup) :
  ∀ e∈M',e=⟨b,A',true⟩\/(e∈M/\e.b≠b):=by
 induction h with
 | @here b A A' M=>
   intro e he
   simp only[List.mem_cons] at he
   simp only[List.map_cons,List.nodup_cons] at hn
   rcases he with rfl|he
   · exact .inl rfl
   · exact Y234
 | @there x M b A A' M' hu ih=>
   intro e he
   simp only[List.map_cons,List.nodup_cons] at hn
   simp only[List.mem_cons] at he
   rcases he with rfl|he
   · refine .inr ⟨by simp,fun h=>hn.1 ?_⟩
     rw[h]
     exact List.mem_map_of_mem hu.has.mem (f:=aL.b)
   · rcases ih hn.2 e he with h|⟨h1,h2⟩
     · exact .inl h
     · exact .inr ⟨by simp[h1],h2⟩
section
variable {w0:World} {S:List Nat} {M M':List aL} {w w':World}
theorem aa.lt(h:aa w0 S M w){e:aL}(he:e∈M):e.b<w.heap.size:=by
 obtain⟨⟨o,ho,_⟩,_⟩:=h.all e he
 by_cases hl:e.b<w.heap.size
 · exact hl
 · simp[Array.getElem?_eq_none (by omega:w.heap.size<=e.b)] at ho
theorem aa.get(h:aa w0 S M w){b:Nat}{A:Obj->Prop}{wr:Bool}(hf:Has M b A wr):∃ o,w.heap[b]?=some o/\A o:=(h.all _ hf.mem).1
theorem aa.start(w0:World)(S:List Nat):aa w0 S [] w0:=⟨pV.refl _ _,by simp,by simp⟩
theorem aa.ext(h:aa w0 S M w)(k:Ext w w'):aa w0 S M w':=by
 refine⟨h.aH.trans (k.mono Y614),h.nodup,fun e he=>⟨?_,(h.all e he).2⟩⟩
 obtain⟨o,ho,hA⟩:=(h.all e he).1
 exact⟨o,(k.block e.b (h.lt he) Y614).trans ho,hA⟩
theorem aa.drawn(h:aa w0 S M w)(n:Nat):aa w0 S M { w with drawn:=n }:=
 h.ext ⟨rfl,rfl,rfl,Nat.le_refl _,fun _ _ _=>rfl⟩
theorem aa.old(h:aa w0 S M w){k:Nat}(hk:k<w0.heap.size)(hS:k ∉ S):w.heap[k]?=w0.heap[k]?:=h.aH.block k hk hS
theorem aa.sub(h:aa w0 S M w)(hn:(M'.map aL.b).Nodup)(hs:∀ e∈M',e∈M):aa w0 S M' w:=⟨h.aH,hn,fun e he=>h.all e (hs e he)⟩
inductive aj:List aL->List aL->Prop where
 | nil (N:List aL):aj [] N
 | keep (b:Nat) (A A':Obj->Prop) (wr:Bool) (N N':List aL):(∀ o,A o->A' o)->aj N' N->aj (⟨b,A',wr⟩::N') (⟨b,A,wr⟩::N)
 | drop (e:aL) (N N':List aL):aj N' N->aj N' (e::N)
theorem aj.refl:∀ N,aj N N
 | []=>.nil _
 | ⟨_,_,_⟩::N=>.keep _ _ _ _ _ _ (fun _ h=>h) (aj.refl N)
theorem aj.keys(h:aj M' M):(M'.map aL.b).Sublist (M.map aL.b):=by
 induction h with
 | nil=>exact List.nil_sublist _
 | keep _ _ _ _ _ _ _ _ ih=>exact ih.cons_cons _
 | drop _ _ _ _ ih=>exact ih.cons _
theorem aj.old(h:aj M' M):∀ e∈M',∃ e'∈M,e'.b=e.b/\e'.wr=e.wr/\∀ o,e'.A o->e.A o:=by
 induction h with
 | nil=>simp
 | keep b A A' wr M M' hA _ ih=>
   intro e he
   simp only[List.mem_cons] at he
   rcases he with rfl|he
   · exact⟨⟨b,A,wr⟩,by simp,rfl,rfl,hA⟩
   · obtain⟨e',h1,h2⟩:=ih e he
     exact Y235
 | drop _ _ _ _ ih=>
   intro e he
   obtain⟨e',h1,h2⟩:=ih e he
   exact Y235
theorem aa.weak(h:aa w0 S M w)(hs:aj M' M):aa w0 S M' w:=by
 refine⟨h.aH,h.nodup.sublist hs.keys,fun e he=>?_⟩
 obtain⟨e',h1,h2,h3,h4⟩:=hs.old e he
 obtain⟨⟨o,ho,hA⟩,h5⟩:=h.all e' h1
 exact⟨⟨o,h2▸ho,h4 o hA⟩,fun hw=>h2▸h5 (h3.trans hw)⟩
theorem aa.push(h:aa w0 S M w)(o:Obj){A:Obj->Prop}(hA:A o)(hw:w'.heap=w.heap.push o)(h1:w'.os=w.os)(h2:w'.tape=w.tape)(h3:w'.output=w.output) :
  aa w0 S (⟨w.heap.size,A,true⟩::M) w':=by
 have hx:Ext w w':=⟨h1,h2,h3,by rw[hw];simp,fun k hk _=>by rw[hw,Array.getElem?_push,if_neg (Nat.ne_of_lt hk)]⟩
 have h':=h.ext hx
 refine⟨h'.aH,?_,fun e he=>?_⟩
 · simp only[List.map_cons,List.nodup_cons,h.nodup,and_true]
   intro hm
   obtain⟨e,he,hb⟩:=List.mem_map.1 hm
   have:=h.lt he
   omega
 · simp only[List.mem_cons] at he
   rcases he with rfl|he
   · exact⟨⟨o,by simp[hw],hA⟩,fun _=>.inr h.aH.size⟩
   · exact h'.all e he
theorem aa.write(h:aa w0 S M w){b:Nat}{A A':Obj->Prop}(hu:ki M b A A' M'){o':Obj}(hA:A' o')
  (hb:w'.heap[b]?=some o') (hz:w'.heap.size=w.heap.size) (hk:∀ k,k≠b->w'.heap[k]?=w.heap[k]?) (h1:w'.os=w.os) (h2:w'.tape=w.tape) (h3:w'.output=w.output) :
  aa w0 S M' w':=by
 have hin:=(h.all _ hu.has.mem).2 rfl
 refine⟨⟨h1.trans h.aH.os,h2.trans h.aH.tape,h3.trans h.aH.output,by rw[hz];exact h.aH.size,fun k hk' hS=>?_⟩,by rw[hu.keys];exact h.nodup,fun e he=>?_⟩
 · refine(hk k fun e=>?_).trans (h.aH.block k hk' hS)
   subst e
   rcases hin with h4|h4
   · exact hS h4
   · simp only[] at h4;omega
 · rcases hu.old h.nodup e he with rfl|⟨h4,h5⟩
   · exact⟨⟨o',hb,hA⟩,fun _=>hin⟩
   · obtain⟨⟨o,ho,hA'⟩,h6⟩:=h.all e h4
     exact⟨⟨o,(hk _ h5).trans ho,hA'⟩,h6⟩
end
def Mm{α:Type}(P:Program):Sem α->Option α
 | .pure a=>some a
 | .program k=>Mm P (k P)
 | .mark _ k=>Mm P k
 | _=>none
theorem tG{α:Type}{P:Program}{a:α}:∀ {s:Sem α} {w:World},Mm P s=some a->s.run P w=.ok a w
 | .pure _,w,h=>by simp only[Mm,Option.some.injEq] at h;subst h;rfl
 | .program k,w,h=>by simp only[Mm] at h;exact tG (s:=k P) h
 | .mark _ k,w,h=>by simp only[Mm] at h;exact tG (s:=k) h
 | .load ..,_,h|.store ..,_,h|.new ..,_,h|.shape ..,_,h|.freeze ..,_,h|.frozen ..,_,h|.getObj ..,_,h|.setObj ..,_,h|.choose ..,_,h|.sys ..,_,h|.halt ..,_,h=>by simp[Mm] at h
structure OQ (P:Program) (n:Nat) (E:Env) (C:World->Prop) (o:Oper) (v:Value):Prop where
 go:∀ a,bF n E a->∀ w,C w->o.quietAt P a C w v
section
variable {P:Program} {n:Nat} {E:Env} {C:World->Prop} {dst:Option Tmp} {ty:TypeId} {pos:String} {aft:Array Edge} {g:Option (Nat × Bool)} {v:Value}
def Q3(E:Env)(x:Operand):Value:=(ev E x).getD undef
def known(E:Env)(op:Op):Bool:=op.operands.toList.all fun x=>(ev E x).isSome
def A3:Op->Bool
 | .select ..=>false
 | _=>true
theorem OQ.pure{op:Op}(hs:A3 op=true)(hk:known E op=true)(h:Mm P (execOp (Q3 E) ⟨dst,op,ty,pos,aft,g⟩)=some (.value v)):OQ P n E C ⟨dst,op,ty,pos,aft,g⟩ v:=by
 refine⟨fun a ha w hw=>?_⟩
 have e:execOp a.eval ⟨dst,op,ty,pos,aft,g⟩=execOp (Q3 E) ⟨dst,op,ty,pos,aft,g⟩:=by
  refine execOp_congr _ (fun cs b hh=>?_) fun x hx=>?_
  · simp only[] at hh;subst hh;simp[A3] at hs
  · simp only[known,List.all_eq_true] at hk
    have:=hk x (by simpa using hx)
    obtain⟨u,hu⟩:=Option.isSome_iff_exists.1 this
    rw[ha.eval hu,Q3,hu];rfl
 unfold Oper.quietAt
 rw[e,tG h]
 exact⟨rfl,rfl⟩
theorem OQ.move{x:Operand}(hx:ev E x=some v):OQ P n E C ⟨dst,.move x,ty,pos,aft,g⟩ v:=by
 refine⟨fun a ha w hw=>?_⟩
 have:=ha.eval hx
 exact⟨rfl,this⟩
theorem OQ.assign{x:Operand}(hx:ev E x=some v):OQ P n E C ⟨dst,.assign x,ty,pos,aft,g⟩ v:=by
 refine⟨fun a ha w hw=>?_⟩
 have:=ha.eval hx
 exact⟨rfl,this⟩
theorem OQ.run{op:Op}(h:∀ a,bF n E a->∀ w,C w->(execOp a.eval ⟨dst,op,ty,pos,aft,g⟩).run P w=.ok (.value v) w):OQ P n E C ⟨dst,op,ty,pos,aft,g⟩ v:=by
 refine⟨fun a ha w hw=>?_⟩
 unfold Oper.quietAt
 rw[h a ha w hw]
 exact⟨rfl,rfl⟩
end
end Sl
end
section
namespace Sl
section
variable {P:Program} {md:Region.Mode} {ops:Array Oper} {C:World->Prop} {n:Nat}
def Jv(P:Program)(md:Region.Mode)(ops:Array Oper)(C:World->Prop)(n:Nat)(L:Array Bool->Act->Prop):Nat->Array Bool->Act->Prop
 | 0,done,a=>L done a
 | f+1,done,a=>Region.ready md ops done≠[]/\∀ i∈Region.ready md ops done,i<n/\qOp P ops C i (Jv P md ops C n L f (done.setIfInBounds i true)) a
theorem sy{g:Nat}{L:Array Bool->Act->Prop}{Q:Exit->Act->World->Prop}(hL:∀ done a w,C w->L done a->wpAny P md ops Q g done a w) :
  ∀ (f:Nat) (done:Array Bool) (a:Act) (w:World),C w->Jv P md ops C n L f done a->wpAny P md ops Q (f+g) done a w
 | 0,done,a,w,hw,h=>by rw[Nat.zero_add];exact hL _ _ _ hw h
 | f+1,done,a,w,hw,h=>by
   rw[show f+1+g=(f+g)+1 by omega]
   exact⟨fun h0=>absurd h0 h.1,fun i hi=>wpOp_of_qOp hw (fun a' w' hw' h'=>sy hL f _ a' w' hw' h') (h.2 i hi).2⟩
theorem Df{i:Nat}{oi:Oper}{v:Value}{L:Array Bool->Act->Prop}(hi:ops[i]?=some oi)(hsel:∀ (j:Nat) (o:Oper) cs b,ops[j]?=some o->o.op≠.select cs b)
  (hs:Region.sinkB md ops n=true) (hc:Region.chainB md ops n=true) (hn:n<ops.size) (hin:i<n)
  (hend:∀ done a,L done a->∀ j∈Region.ready md ops done,n<=j) :
  ∀ (f:Nat) (done:Array Bool) (a:Act),HeadInv md ops n done->
    (∀ j oj,ops[j]?=some oj->j≠i->done.getD j true=false->(∀ e∈oj.after,Region.binds md e=true->e.on≠i)->oi.apart ops oj=true)->
    i∈Region.ready md ops done->YieldsIn P ops C oi v a->
    Jv P md ops C n L f (done.setIfInBounds i true) (a.put oi.dst v)->Jv P md ops C n L (f+1) done a:=by
 intro f
 induction f with
 | zero=>
   intro done a inv _ hr hy H
   have hun:=(mem_ready.1 hr).1
   refine⟨fun h=>(by rw[h] at hr;cases hr),fun j hj=>?_⟩
   have hjn:j<n:=Nat.lt_of_not_le fun h=>tail_waits hs hc hn inv _ i rfl hin hun j h hj
   refine⟨hjn,?_⟩
   by_cases hji:j=i
   · subst hji;exact hy.qOp hi H
   · exact absurd (hend _ _ H j (ready_mono hj hji)) Y609
 | succ f ih=>
   intro done a inv hfree hr hy H
   have hun:=(mem_ready.1 hr).1
   refine⟨fun h=>(by rw[h] at hr;cases hr),fun j hj=>?_⟩
   have hjn:j<n:=Nat.lt_of_not_le fun h=>tail_waits hs hc hn inv _ i rfl hin hun j h hj
   refine⟨hjn,?_⟩
   by_cases hji:j=i
   · subst hji;exact hy.qOp hi H
   · obtain⟨hjun,oj,hoj,hall⟩:=mem_ready.1 hj
     have hnot:∀ e∈oj.after,Region.binds md e=true->e.on≠i:=fun e he hb heq=>by
      have h1:=hall e he hb
      rw[heq,getD_both hun] at h1
      cases h1
     have h2:=qOp_put hoj (hfree j oj hoj hji hjun hnot) (fun cs b=>hsel i oi cs b hi) (fun cs b=>hsel j oj cs b hoj) hy (H.2 j (ready_mono hj hji)).2
     refine qOp_mono (fun a' h3=>ih (done.setIfInBounds j true) a' (inv.set hj hjn) (fun k ok hk hki hkun hno=>hfree k ok hk hki ?_ hno) (ready_mono hr (Ne.symm hji)) h3.1 ?_) h2
     · by_cases hjk:j=k
       · subst hjk;exact hjun
       · rwa [getD_set_ne true hjk] at hkun
     · rw[Array.setIfInBounds_comm _ _ hji]
       exact h3.2
theorem A4{g:Nat}{Φ:Act->Prop}(hsel:Region.noSelect ops=true)(hs:Region.sinkB md ops n=true)(hc:Region.chainB md ops n=true)(hn:n<ops.size) :
  ∀ (l:List Oper) (k:Nat) (done:Array Bool) (a:Act),(∀ j,j<l.length->l[j]?=ops[k+j]?)->k+l.length=n->HeadInv md ops n done->
  Region.lexHead md ops g l.length k done=true->wpQuiet P ops C Φ l a->
  Jv P md ops C n (fun done' a'=>Region.seqB md ops g n done'=true/\Φ a') l.length done a
 | [],k,done,a,_,hk,_,hB,h=>by
   have:k=n:=by simpa using hk
   subst this
   exact⟨by simpa [Region.lexHead] using hB,h⟩
 | o::l,k,done,a,hl,hk,inv,hB,h=>by
   have h0:ops[k]?=some o:=by simpa using (hl 0 Y614).symm
   simp only[List.length_cons,Region.lexHead,Bool.and_eq_true] at hB
   obtain⟨⟨hr,hf⟩,hB'⟩:=hB
   have hkn:k<n:=by simp only[List.length_cons] at hk;omega
   have hr':k∈Region.ready md ops done:=by simpa using hr
   have hst:qOp P ops C k (wpQuiet P ops C Φ l) a:=by unfold qOp;simp only[h0];exact h
   obtain⟨v,hy,hK⟩:=yieldsIn_of_qOp h0 hst
   exact Df h0 (Region.noSelect_spec hsel) hs hc hn hkn (fun done' a' hL=>seqB_ready hL.1) l.length done a inv (Region.free_spec h0 hf) hr' hy
    (A4 hsel hs hc hn l (k+1) _ _ (fun j hj=>by have:=hl (j+1) Y624;simpa [Nat.add_assoc,Nat.add_comm 1 j] using this) (by simp only[List.length_cons] at hk;omega) (inv.set hr' hkn) hB' hK)
theorem m5{id:Nat}{Q:Exit->Act->World->Prop}{a:Act}{w:World}{l:List Oper}(n:Nat)(hm:P.follows .mixedOrders=true)(hB:Region.lexTailB .any l.toArray n=true)
  (hC:C { w with drawn:=w.drawn+1 })
  (h:wpQuiet P l.toArray C (fun a'=>∀ w',C w'->wpList P l.toArray Q (l.drop n) a' w') (l.take n) a):(Code.region id l.toArray true).wp P Q a w:=by
 simp only[Region.lexTailB,Bool.and_eq_true,decide_eq_true_eq] at hB
 obtain⟨⟨⟨⟨hsel,hn⟩,hs⟩,hc⟩,hlex⟩:=hB
 have hn':n<l.length:=by simpa using hn
 have htl:(l.take n).length=n:=by simp;omega
 have hdl:(l.drop n).length=l.toArray.size-n:=by simp
 have inv0:HeadInv .any l.toArray n (Array.replicate l.toArray.size false):=
  ⟨by simp,fun j oj _ hl=>(by rw[getD_replicate_false] at hl;cases hl),fun t _ ht=>getD_in (by simpa using ht) (getD_replicate_false _ _)⟩
 have H:=A4 (P:=P) (C:=C) (md:=.any) (g:=l.toArray.size-n) hsel hs hc hn (l.take n) 0 _ a (fun j hj=>by
  have hj':j<n:=by rw[htl] at hj;exact hj
  simp[hj']) (by simpa using htl) inv0 (by rw[htl];exact hlex) h
 refine wp_region_any hm ?_
 have:=sy (Q:=Q) (g:=l.toArray.size-n) (fun done a' w' hw' hL=>by
  have:=wpAny_of_seq (md:=.any) (Q':=Q) (l.drop n) n done a' w' (fun j=>by simp[List.getElem?_drop]) (by rw[hdl];exact hL.1) (hL.2 w' hw')
  rwa [hdl] at this) _ _ _ _ hC H
 rw[htl,show n+(l.toArray.size-n)=l.toArray.size by omega] at this
 exact this
end
section
variable {P:Program} {n:Nat} {w0:World} {S:List Nat} {ops:Array Oper} {Q Q':Exit->Act->World->Prop} {l:List Oper} {E E':Env} {M M':List aL}
structure JL (P:Program) (n:Nat) (w0:World) (S:List Nat) (ops:Array Oper) (Q:Exit->Act->World->Prop) (l:List Oper) (E:Env) (M:List aL):Prop where
 go:∀ a w,bF n E a->aa w0 S M w->wpList P ops Q l a w
structure JE (n:Nat) (w0:World) (S:List Nat) (Q:Exit->Act->World->Prop) (e:Exit) (E:Env) (M:List aL):Prop where
 go:∀ a w,bF n E a->aa w0 S M w->Q e a w
structure JC (P:Program) (n:Nat) (w0:World) (S:List Nat) (Q:Exit->Act->World->Prop) (c:Code) (E:Env) (M:List aL):Prop where
 go:∀ a w,bF n E a->aa w0 S M w->c.wp P Q a w
structure JQ (P:Program) (n:Nat) (w0:World) (S:List Nat) (ops:Array Oper) (M:List aL) (Φ:Act->Prop) (l:List Oper) (E:Env):Prop where
 go:∀ a,bF n E a->wpQuiet P ops (aa w0 S M) Φ l a
theorem JC.seq{x y:Code}(h:JC P n w0 S (Exit.then (y.wp P Q) Q) x E M):JC P n w0 S Q (.seq x y) E M:=⟨fun a w ha hw=>wp_seq (h.go a w ha hw)⟩
theorem JC.skip(h:JE n w0 S Q .normal E M):JC P n w0 S Q .skip E M:=⟨fun a w ha hw=>wp_skip (h.go a w ha hw)⟩
theorem JC.label{k:Nat}(h:JE n w0 S Q .normal E M):JC P n w0 S Q (.label k) E M:=⟨fun a w ha hw=>wp_label (h.go a w ha hw)⟩
theorem JC.exit{id:Nat}(h:JE n w0 S Q (.exit id) E M):JC P n w0 S Q (.exit id) E M:=⟨fun a w ha hw=>wp_exit (h.go a w ha hw)⟩
theorem JC.ret(h:JE n w0 S Q .ret E M):JC P n w0 S Q .ret E M:=⟨fun a w ha hw=>wp_ret (h.go a w ha hw)⟩
theorem JC.block{id:Nat}{c:Code}(h:JC P n w0 S (Exit.inBlock id Q) c E M):JC P n w0 S Q (.block id c) E M:=⟨fun a w ha hw=>wp_block (h.go a w ha hw)⟩
theorem JC.cond{c:Operand}{x y:Code}{t:Bool}(hc:ev E c=some (.bool t))(ht:t=true->JC P n w0 S Q x E M)(hf:t=false->JC P n w0 S Q y E M):JC P n w0 S Q (.cond c x y) E M:=
 ⟨fun a w ha hw=>wp_cond_split (ha.eval hc) (fun h=>(ht h).go a w ha hw) (fun h=>(hf h).go a w ha hw)⟩
theorem JC.cond_true{c:Operand}{x y:Code}{t:Bool}(hc:ev E c=some (.bool t))(h:t=true)(ht:JC P n w0 S Q x E M):JC P n w0 S Q (.cond c x y) E M:=
 JC.cond hc (fun _=>ht) (fun h'=>by rw[h] at h';cases h')
theorem JC.cond_false{c:Operand}{x y:Code}{t:Bool}(hc:ev E c=some (.bool t))(h:t=false)(hf:JC P n w0 S Q y E M):JC P n w0 S Q (.cond c x y) E M:=
 JC.cond hc (fun h'=>by rw[h] at h';cases h') (fun _=>hf)
theorem JC.region{id:Nat}{l:List Oper}(h:JL P n w0 S l.toArray Q l E M):JC P n w0 S Q (.region id l.toArray false) E M:=⟨fun a w ha hw=>wp_region_lit (h.go a w ha hw)⟩
theorem JC.quiet{id:Nat}{l:List Oper}(hm:P.follows .mixedOrders=true)(hB:Region.lexB .any l.toArray=true)
  (h:JQ P n w0 S l.toArray M (fun a'=>∀ w',aa w0 S M w'->Q .normal a' w') l E):JC P n w0 S Q (.region id l.toArray true) E M:=
 ⟨fun a _ ha hw=>wp_region_quiet hm hB (hw.drawn _) (by simpa using h.go a ha)⟩
theorem JC.tail{id:Nat}{l:List Oper}(m:Nat)(hm:P.follows .mixedOrders=true)(hB:Region.lexTailB .any l.toArray m=true)
  (h:JQ P n w0 S l.toArray M (fun a'=>∀ w',aa w0 S M w'->wpList P l.toArray Q (l.drop m) a' w') (l.take m) E):JC P n w0 S Q (.region id l.toArray true) E M:=
 ⟨fun a _ ha hw=>m5 m hm hB (hw.drawn _) (h.go a ha)⟩
theorem JC.weak{c:Code}(h:JC P n w0 S Q c E' M')(hE:af E E')(hM:aj M' M):JC P n w0 S Q c E M:=
 ⟨fun a w ha hw=>h.go a w (ha.sub hE) (hw.weak hM)⟩
theorem JE.weak{e:Exit}(h:JE n w0 S Q e E' M')(hE:af E E')(hM:aj M' M):JE n w0 S Q e E M:=
 ⟨fun a w ha hw=>h.go a w (ha.sub hE) (hw.weak hM)⟩
theorem JC.loop{ι:Type}(Ei:ι->Env)(Mi:ι->List aL)(μ:ι->Nat)(I:ι->Prop){c:Code}(i:ι)(hi:I i)(hE:af E (Ei i))(hM:aj (Mi i) M)
  (h:∀ i,I i->JC P n w0 S (Exit.then (fun a' w'=>∃ j,I j/\μ j<μ i/\bF n (Ei j) a'/\aa w0 S (Mi j) w') Q) c (Ei i) (Mi i)):JC P n w0 S Q (.loop c) E M:=by
 refine⟨fun a w ha hw=>?_⟩
 have ha':=ha.sub hE
 have hw':=hw.weak hM
 clear ha hw hE hM
 have key:∀ m i,μ i=m->I i->∀ a w,bF n (Ei i) a->aa w0 S (Mi i) w->∀ (b:Frame) (k:List Item) (cs:List Frame),
   ∃ e a' w',Q e a' w'/\Arrives P (lone (b.at a (.code c::.inLoop c::k)) cs w) b k cs e a' w':=by
  intro m
  induction m using Nat.strongRecOn with
  | _ m ih=>
    intro i hm hI a w ha hw b k cs
    obtain⟨e,a₁,w₁,hq,harr⟩:=(h i hI).go a w ha hw b (.inLoop c::k) cs
    cases e with
    | normal=>
      obtain⟨j,hj,hlt,ha₁,hw₁⟩:=hq
      obtain⟨e₂,a₂,w₂,hq₂,harr₂⟩:=ih (μ j) (hm▸hlt) j rfl hj a₁ w₁ ha₁ hw₁ b k cs
      exact Y236
    | exit id=>exact⟨_,a₁,w₁,hq,.pass (x:=.inLoop c) rfl (fun _ _=>.inl Y614) harr⟩
    | goto l=>exact⟨_,a₁,w₁,hq,.pass (x:=.inLoop c) rfl (fun _ _=>.inl Y614) harr⟩
    | ret=>exact⟨_,a₁,w₁,hq,.pass (x:=.inLoop c) rfl (fun _ _=>.inl Y614) harr⟩
    | panic ch=>exact⟨_,a₁,w₁,hq,.pass (x:=.inLoop c) rfl (fun _ _=>.inl Y614) harr⟩
    | outgrown=>exact⟨_,a₁,w₁,hq,.pass (x:=.inLoop c) rfl (fun _ _=>.inl Y614) harr⟩
 intro b k cs
 obtain⟨e,a',w',hq,harr⟩:=key _ i rfl hi a w ha' hw' b k cs
 exact⟨e,a',w',hq,.of_steps (.one step_loop) harr⟩
theorem JE.next{y:Code}(h:JC P n w0 S Q' y E M):JE n w0 S (Exit.then (y.wp P Q') Q) .normal E M:=⟨h.go⟩
theorem JE.again{ι:Type}{Ei:ι->Env}{Mi:ι->List aL}{μ:ι->Nat}{I:ι->Prop}{i:ι}(j:ι)(hj:I j)(hμ:μ j<μ i)(hE:af E (Ei j))(hM:aj (Mi j) M) :
  JE n w0 S (Exit.then (fun a' w'=>∃ j,I j/\μ j<μ i/\bF n (Ei j) a'/\aa w0 S (Mi j) w') Q) .normal E M:=
 ⟨fun _ _ ha hw=>⟨j,hj,hμ,ha.sub hE,hw.weak hM⟩⟩
theorem JE.ak{K:Act->World->Prop}{id:Nat}(h:JE n w0 S Q (.exit id) E M):JE n w0 S (Exit.then K Q) (.exit id) E M:=⟨h.go⟩
theorem JE.ag{K:Act->World->Prop}(h:JE n w0 S Q .ret E M):JE n w0 S (Exit.then K Q) .ret E M:=⟨h.go⟩
theorem JE.ah{id:Nat}(h:JE n w0 S Q .normal E M):JE n w0 S (Exit.inBlock id Q) .normal E M:=⟨h.go⟩
theorem JE.aQ{id:Nat}(h:JE n w0 S Q .ret E M):JE n w0 S (Exit.inBlock id Q) .ret E M:=⟨h.go⟩
theorem JE.aC{id:Nat}(h:JE n w0 S Q .normal E M):JE n w0 S (Exit.inBlock id Q) (.exit id) E M:=⟨fun a w ha hw=>by
 show(if id=id then Q .normal a w else _)
 rw[if_pos rfl];exact h.go a w ha hw⟩
theorem JE.uC{id id':Nat}(hne:(id==id')=false)(h:JE n w0 S Q (.exit id) E M):JE n w0 S (Exit.inBlock id' Q) (.exit id) E M:=⟨fun a w ha hw=>by
 show(if id=id' then _ else Q (.exit id) a w)
 rw[if_neg (by simpa using hne)];exact h.go a w ha hw⟩
theorem JL.nil(h:JE n w0 S Q .normal E M):JL P n w0 S ops Q [] E M:=⟨h.go⟩
theorem JQ.nil(h:JE n w0 S Q .normal E M):JQ P n w0 S ops M (fun a'=>∀ w',aa w0 S M w'->Q .normal a' w') [] E:=⟨fun a ha w hw=>h.go a w ha hw⟩
theorem JQ.Jw{l':List Oper}(h:JL P n w0 S ops Q l' E M):JQ P n w0 S ops M (fun a'=>∀ w',aa w0 S M w'->wpList P ops Q l' a' w') [] E:=⟨fun a ha w hw=>h.go a w ha hw⟩
variable {d:Nat} {op:Op} {ty:TypeId} {pos:String} {aft:Array Edge} {v:Value}
theorem JL.q(h:OQ P n E (aa w0 S M) ⟨some d,op,ty,pos,aft,none⟩ v)(hd:Nat.blt d n=true)(k:JL P n w0 S ops Q l ((d,v)::E) M):JL P n w0 S ops Q (⟨some d,op,ty,pos,aft,none⟩::l) E M:=
 ⟨fun a _ ha hw=>wpList_plain rfl fun _ hK=>Oper.wp_of_quiet (C:=aa w0 S M) (K:=fun a'=>a'=a.put (some d) v) hw (fun _ _ hw' e=>hK _ _ (e▸k.go _ _ (ha.put d v hd) hw')) ⟨v,h.go a ha,rfl⟩⟩
theorem JQ.q{Φ:Act->Prop}(h:OQ P n E (aa w0 S M) ⟨some d,op,ty,pos,aft,none⟩ v)(hd:Nat.blt d n=true)(k:JQ P n w0 S ops M Φ l ((d,v)::E)):JQ P n w0 S ops M Φ (⟨some d,op,ty,pos,aft,none⟩::l) E:=
 ⟨fun a ha=>wpQuiet_step fun _ hK=>by
  simp only[Region.wanted,if_true]
  exact⟨v,h.go a ha,hK _ (k.go _ (ha.put d v hd))⟩⟩
def kr(ops:Array Oper)(E:Env)(j:Nat):Option Bool:=
 match (ops[j]?).bind (·.dst) with
 | some s=>match lk E s with
   | some (.bool b)=>some b
   | _=>none
 | none=>none
theorem uD{j:Nat}{b:Bool}(h:kr ops E j=some b){a:Act}(ha:bF n E a)(hn:∀ s,(ops[j]?).bind (·.dst)=some s->Nat.blt s n=true):yielded ops a.tmps j=some b:=by
 unfold kr at h
 unfold yielded
 cases hs:(ops[j]?).bind (·.dst) with
 | none=>simp[hs] at h
 | some s=>
   simp only[hs] at h
   have hlt:s<n:=by simpa using hn s hs
   cases hv:lk E s with
   | none=>simp[hv] at h
   | some u=>
     have h1:=ha.all s u hv
     have h2:a.tmps[s]?=some u:=by
      have:s<a.tmps.size:=by rw[ha.size];exact hlt
      rw[Array.getElem?_eq_getElem this]
      simpa [Array.getD,this] using h1
     simp only[hv] at h
     cases u <;> simp at h
     subst h
     simp[h2]
def iu(ops:Array Oper)(n j:Nat):Bool:=match (ops[j]?).bind (·.dst) with|some s=>Nat.blt s n|none=>false
theorem m6{j:Nat}(h:iu ops n j=true):∀ s,(ops[j]?).bind (·.dst)=some s->Nat.blt s n=true:=by
 intro s hs
 simpa [iu,hs] using h
variable {j:Nat} {want b:Bool}
theorem xI(h:kr ops E j=some b)(hf:iu ops n j=true){a:Act}(ha:bF n E a):Region.wanted ⟨some d,op,ty,pos,aft,some (j,want)⟩ (yielded ops a.tmps)=(b==want):=by
 simp only[Region.wanted,uD h ha (m6 hf)]
 cases b <;> cases want <;> rfl
theorem JL.aM(hg:kr ops E j=some b)(hf:iu ops n j=true)(hne:(b==want)=false)(hd:Nat.blt d n=true)
  (k:JL P n w0 S ops Q l ((d,undef)::E) M):JL P n w0 S ops Q (⟨some d,op,ty,pos,aft,some (j,want)⟩::l) E M:=
 ⟨fun a w ha hw=>wpList_skip (by rw[xI hg hf ha];exact hne) (k.go _ _ (ha.put d undef hd) hw)⟩
theorem JQ.aM{Φ:Act->Prop}(hg:kr ops E j=some b)(hf:iu ops n j=true)(hne:(b==want)=false)(hd:Nat.blt d n=true)
  (k:JQ P n w0 S ops M Φ l ((d,undef)::E)):JQ P n w0 S ops M Φ (⟨some d,op,ty,pos,aft,some (j,want)⟩::l) E:=
 ⟨fun a ha=>wpQuiet_step fun _ hK=>by
  rw[xI hg hf ha,hne]
  simp only[Bool.false_eq_true,if_false]
  exact hK _ (k.go _ (ha.put d undef hd))⟩
end
end Sl
end
section
namespace Sl
def cellAt:Obj->Nat->Option Value
 | .cells c _ _,j=>c[j]?
 | _,_=>none
def Row(e:TypeId)(l:List Value):Obj->Prop:=fun o=>o=.cells l.toArray e (0,0)
def TP(e:TypeId)(l:List Value):Obj->Prop:=fun o=>∃ sp:List Value,o=.cells (l++sp).toArray e (0,0)
def dy(o:Obj)(j:Nat)(cs:List Value):Prop:=∃ c e fr,o=.cells c e fr/\∀ i,i<cs.length->c[j+i]?=cs[i]?
theorem Row.cell{e:TypeId}{l:List Value}{j:Nat}{v:Value}(h:l[j]?=some v):∀ o,Row e l o->cellAt o j=some v:=by
 rintro o rfl
 simpa [cellAt] using h
theorem TP.cell{e:TypeId}{l:List Value}{j:Nat}{v:Value}(h:l[j]?=some v):∀ o,TP e l o->cellAt o j=some v:=by
 rintro o ⟨sp,rfl⟩
 have hj:j<l.length:=(List.getElem?_eq_some_iff.1 h).1
 simpa [cellAt,List.getElem?_append_left hj] using h
theorem Row.cells{e:TypeId}{l cs:List Value}{j:Nat}(h:(l.drop j).take cs.length=cs):∀ o,Row e l o->dy o j cs:=by
 rintro o rfl
 refine⟨_,_,_,rfl,fun i hi=>?_⟩
 rw[<- h]
 simp[hi]
theorem Row.all{e:TypeId}{l:List Value}:∀ o,Row e l o->dy o 0 l:=Row.cells Y614
def kM(P:Program)(t:TypeId):Bool:=
 match P.underlying t with
 | some (.struct _)|some (.array _ _)=>true
 | _=>false
def gD(P:Program)(t:TypeId):Bool:=
 match P.underlying t with
 | some (.struct _)|some (.array _ _)|none=>false
 | _=>true
def gX(P:Program)(t:TypeId):Option Nat:=(P.info? t).map (·.size)
section
variable {P:Program} {t:TypeId} {w w':World} {b j:Nat} {v:Value} {cs:List Value}
theorem iT(h:gD P t=true)(w:World):(isAgg t).run P w=.ok false w:=by
 unfold gD at h
 cases hu:P.underlying t with
 | none=>simp[hu] at h
 | some d=>
   unfold isAgg
   rw[Sem.run_bind,run_underlying hu w]
   cases d <;> simp_all
theorem xJ(h:kM P t=true)(w:World):(isAgg t).run P w=.ok true w:=by
 unfold kM at h
 cases hu:P.underlying t with
 | none=>simp[hu] at h
 | some d=>
   unfold isAgg
   rw[Sem.run_bind,run_underlying hu w]
   cases d <;> simp_all
theorem bR{k:Nat}(h:gX P t=some k)(w:World):(sizeOf t).run P w=.ok k w:=by
 unfold gX at h
 cases hq:P.info? t with
 | none=>simp[hq] at h
 | some i=>
   have hs:i.size=k:=by simpa [hq] using h
   simp[sizeOf,typeInfo,hq,hs]
theorem dH(b j i:Nat):(⟨b,j,none⟩:Addr).add i=⟨b,j+i,none⟩:=by
 unfold Addr.add
 split <;> simp_all
theorem ju(hs:gD P t=true)(hc:w.cell? ⟨b,j,none⟩=some v):(loadVar t ⟨b,j,none⟩).run P w=.ok v w:=by
 simp[loadVar,Sem.run_bind,iT hs,load,Sem.run,hc]
theorem m7(ha:kM P t=true)(hz:gX P t=some cs.length)(hc:∀ i u,cs[i]?=some u->w.cell? ⟨b,j+i,none⟩=some u):(loadVar t ⟨b,j,none⟩).run P w=.ok (.agg cs.toArray) w:=by
 have hl:(loadCells ⟨b,j,none⟩ cs.length).run P w=.ok cs.toArray w:=run_loadCells_list (P:=P) w ⟨b,j,none⟩ cs (fun i u hu=>by rw[dH];exact hc i u hu)
 simp[loadVar,Sem.run_bind,xJ ha,bR hz,hl]
theorem cell_of{o:Obj}(ho:w.heap[b]?=some o)(h:cellAt o j=some v):w.cell? ⟨b,j,none⟩=some v:=by
 unfold World.cell?
 simp only[ho]
 cases o <;> simp_all [cellAt]
theorem uE{o:Obj}(ho:w.heap[b]?=some o)(h:dy o j cs):∀ i u,cs[i]?=some u->w.cell? ⟨b,j+i,none⟩=some u:=by
 intro i u hu
 obtain⟨c,e,fr,rfl,hc⟩:=h
 have hi:i<cs.length:=(List.getElem?_eq_some_iff.1 hu).1
 exact cell_of ho (by simp[cellAt,hc i hi,hu])
end
section
variable {P:Program} {n:Nat} {w0:World} {S:List Nat} {ops:Array Oper} {Q:Exit->Act->World->Prop} {l:List Oper} {E:Env} {M M':List aL} {C:World->Prop}
variable {dst:Option Tmp} {d b j:Nat} {op:Op} {t ty:TypeId} {pos:String} {aft:Array Edge} {g:Option (Nat × Bool)} {v:Value} {x y:Operand} {A A':Obj->Prop} {wr:Bool} {cs:List Value}
theorem OQ.pW(ha:∀ w,C w->(loadVar t ⟨b,j,none⟩).run P w=.ok v w)(hx:ev E x=some (.pointer (some ⟨b,j,none⟩))):OQ P n E C ⟨dst,.load t x,ty,pos,aft,g⟩ v:=
 OQ.run fun a hk w hw=>by
  have:=hk.eval hx
  simp[execOp,this,Instr.loadAt,Instr.sureAddr,ha w hw]
theorem OQ.load(hs:gD P t=true)(hx:ev E x=some (.pointer (some ⟨b,j,none⟩)))(hM:Has M b A wr)(hA:∀ o,A o->cellAt o j=some v):OQ P n E (aa w0 S M) ⟨dst,.load t x,ty,pos,aft,g⟩ v:=
 OQ.pW (fun _ hw=>let ⟨_,ho,hAo⟩:=hw.get hM;ju hs (cell_of ho (hA _ hAo))) hx
theorem OQ.aI(hs:gD P t=true)(hx:ev E x=some (.pointer (some ⟨b,j,none⟩)))(hb:b<w0.heap.size)(hS:b ∉ S)(hc:w0.cell? ⟨b,j,none⟩=some v):OQ P n E (aa w0 S M) ⟨dst,.load t x,ty,pos,aft,g⟩ v:=
 OQ.pW (fun w hw=>ju hs (by simpa [World.cell?,hw.old hb hS] using hc)) hx
theorem OQ.aF{k:Nat}(ha:kM P t=true)(hz':gX P t=some k)(hx:ev E x=some (.pointer (some ⟨b,j,none⟩)))(hM:Has M b A wr)(hl:cs.length=k)(hA:∀ o,A o->dy o j cs):OQ P n E (aa w0 S M) ⟨dst,.load t x,ty,pos,aft,g⟩ (.agg cs.toArray):=
 OQ.pW (fun _ hw=>let ⟨_,ho,hAo⟩:=hw.get hM;m7 ha (hl▸hz') (uE ho (hA _ hAo))) hx
theorem OQ.bE(ha:kM P t=true)(hx:ev E x=some (.pointer (some ⟨b,j,none⟩)))(hz:gX P t=some cs.length)(hb:b<w0.heap.size)(hS:b ∉ S)(hc:∀ i u,cs[i]?=some u->w0.cell? ⟨b,j+i,none⟩=some u):OQ P n E (aa w0 S M) ⟨dst,.load t x,ty,pos,aft,g⟩ (.agg cs.toArray):=
 OQ.pW (fun w hw=>m7 ha hz (fun i u hu=>by simpa [World.cell?,hw.old hb hS] using hc i u hu)) hx
def aJ(P:Program)(f:FuncId):Prop:=∃ fn,P.funcs[f]?=some fn/\fn.body.isNone=false/\(fn.name=="runtime.NumGoroutine")=false
def pK(E:Env):List Operand->Option (List Value)
 | []=>some []
 | x::xs=>match ev E x,pK E xs with
   | some v,some vs=>some (v::vs)
   | _,_=>none
theorem tH{a:Act}(hk:bF n E a):∀ {xs:List Operand} {vs:List Value},pK E xs=some vs->xs.map a.eval=vs
 | [],vs,h=>by simpa [pK] using h
 | x::xs,vs,h=>by
   simp only[pK] at h
   cases h1:ev E x with
   | none=>simp[h1] at h
   | some v=>
     cases h2:pK E xs with
     | none=>simp[h1,h2] at h
     | some us=>
       simp only[h1,h2,Option.some.injEq] at h
       subst h
       simp[hk.eval h1,tH hk h2]
theorem lu{f:FuncId}{xs:List Operand}{ats:Array TypeId}{vs:List Value}{a:Act}(hg:aJ P f)(hk:bF n E a)(hx:pK E xs=some vs)(w:World) :
  (execOp a.eval ⟨dst,.call ⟨.value (.func f),xs.toArray,ats⟩,ty,pos,aft,g⟩).run P w=.ok (.enter f vs.toArray) w:=by
 obtain⟨fn,h1,h2,h3⟩:=hg
 have hm:xs.toArray.map a.eval=vs.toArray:=by simp[tH hk hx]
 have h2':¬ fn.body=none:=fun h=>by rw[h] at h2;cases h2
 have h3':¬ fn.name = "runtime.NumGoroutine" := by simpa using h3
 simp[execOp,resolve,Sem.run_bind,hm,Act.eval,Deferred.ofValue,invoke,callFunc,program,Sem.run,h1,h2',h3']
theorem OQ.call{f:FuncId}{xs:List Operand}{ats:Array TypeId}{vs:List Value}(hg:aJ P f)(hx:pK E xs=some vs)(hc:∀ w,C w->Calls P f vs.toArray w fun e w'=>e=.returned v/\C w'):OQ P n E C ⟨dst,.call ⟨.value (.func f),xs.toArray,ats⟩,ty,pos,aft,g⟩ v:=by
 refine⟨fun a hk w hw=>?_⟩
 unfold Oper.quietAt
 rw[lu hg hk hx w]
 exact⟨rfl,hc w hw⟩
theorem OQ.ai{f:FuncId}{xs:List Operand}{ats:Array TypeId}{vs:List Value}(hg:aJ P f)(hx:pK E xs=some vs)(hc:∀ w,aa w0 S M w->Calls P f vs.toArray w fun e w'=>e=.returned v/\Ext w w') :
  OQ P n E (aa w0 S M) ⟨dst,.call ⟨.value (.func f),xs.toArray,ats⟩,ty,pos,aft,g⟩ v:=
 OQ.call hg hx fun w hw=>(hc w hw).mono fun _ _ ⟨h1,h2⟩=>⟨h1,hw.ext h2⟩
theorem JL.call{ι:Type}(vf:ι->Value)(Mf:ι->List aL){f:FuncId}{xs:List Operand}{ats:Array TypeId}{vs:List Value}(hg:aJ P f)(hx:pK E xs=some vs)(hd:Nat.blt d n=true)
  (hc:∀ w,aa w0 S M w->Calls P f vs.toArray w fun e w'=>∃ i,e=.returned (vf i)/\aa w0 S (Mf i) w')
  (k:∀ i,JL P n w0 S ops Q l ((d,vf i)::E) (Mf i)):JL P n w0 S ops Q (⟨some d,.call ⟨.value (.func f),xs.toArray,ats⟩,ty,pos,aft,none⟩::l) E M:=
 ⟨fun a w ha hw=>wpList_plain rfl fun K hK=>by
  unfold Oper.wp
  rw[lu hg ha hx w]
  exact(hc w hw).mono fun e w' ⟨i,h1,h2⟩=>by subst h1;exact hK _ _ ((k i).go _ _ (ha.put d _ hd) h2)⟩
def A5{α:Type}(P:Program):Sem α->Option (Obj × (Nat->Sem α))
 | .new o k=>some (o,k)
 | .program k=>A5 P (k P)
 | .mark _ k=>A5 P k
 | _=>none
theorem uF{α:Type}{vf:Nat->α}{ob:Obj}{kk:Nat->Sem α}:∀ {s:Sem α} {w:World},A5 P s=some (ob,kk)->(∀ r,Mm P (kk r)=some (vf r))->s.run P w=.ok (vf w.heap.size) { w with heap:=w.heap.push ob }
 | .new o k,w,h,h2=>by
   simp only[A5,Option.some.injEq,Prod.mk.injEq] at h
   obtain⟨rfl,rfl⟩:=h
   exact tG (h2 _)
 | .program k,w,h,h2=>by simp only[A5] at h;exact uF (s:=k P) h h2
 | .mark _ k,w,h,h2=>by simp only[A5] at h;exact uF (s:=k) h h2
 | .load ..,_,h,_|.store ..,_,h,_|.pure ..,_,h,_|.shape ..,_,h,_|.freeze ..,_,h,_|.frozen ..,_,h,_|.getObj ..,_,h,_|.setObj ..,_,h,_|.choose ..,_,h,_|.sys ..,_,h,_|.halt ..,_,h,_=>by simp[A5] at h
theorem Jy{o:Oper}{a:Act}(hs:A3 o.op=true)(hk:known E o.op=true)(ha:bF n E a):execOp a.eval o=execOp (Q3 E) o:=by
 refine execOp_congr _ (fun cs b hh=>?_) fun x hx=>?_
 · rw[hh] at hs;simp[A3] at hs
 · simp only[known,List.all_eq_true] at hk
   obtain⟨u,hu⟩:=Option.isSome_iff_exists.1 (hk x (by simpa using hx))
   rw[ha.eval hu,Q3,hu];rfl
theorem JL.new(A:Obj->Prop)(vf:Nat->Value){ob:Obj}{kk:Nat->Sem Next}(hs:A3 op=true)(hk:known E op=true)(h1:A5 P (execOp (Q3 E) ⟨some d,op,ty,pos,aft,none⟩)=some (ob,kk))
  (h2:∀ r,Mm P (kk r)=some (.value (vf r))) (hA:A ob) (hd:Nat.blt d n=true)
  (k:∀ b,w0.heap.size<=b->JL P n w0 S ops Q l ((d,vf b)::E) (⟨b,A,true⟩::M)):JL P n w0 S ops Q (⟨some d,op,ty,pos,aft,none⟩::l) E M:=
 ⟨fun a w ha hw=>wpList_plain rfl fun K hK=>by
  unfold Oper.wp
  rw[Jy hs hk ha,uF (vf:=fun r=>Next.value (vf r)) h1 h2]
  exact hK _ _ ((k w.heap.size hw.aH.size).go _ _ (ha.put d _ hd) (hw.push ob hA rfl rfl rfl rfl))⟩
@[reducible] def Pt (b j:Nat):Value:=.pointer (some ⟨b,j,none⟩)
def zc(P:Program)(t:TypeId):Option (List Value):=((P.info? t).bind (·.zero)).map (·.cells.toList)
theorem JL.alloc{r:List Value}(hz:zc P t=some r)(hd:Nat.blt d n=true)
  (k:∀ b,w0.heap.size<=b->JL P n w0 S ops Q l ((d,Pt b 0)::E) (⟨b,Row t r,true⟩::M)):JL P n w0 S ops Q (⟨some d,.alloc t,ty,pos,aft,none⟩::l) E M:=
 ⟨fun a w ha hw=>wpList_plain rfl fun K hK=>by
  have hr:(Instr.alloc t true (.tuple #[])).run P w=.ok (Pt w.heap.size 0) { w with heap:=w.heap.push (.cells r.toArray t (0,0)) }:=by
   unfold zc at hz
   cases hq:P.info? t with
   | none=>simp[hq] at hz
   | some i=>
     cases hi:i.zero with
     | none=>simp[hq,hi] at hz
     | some z=>
       simp only[hq,hi,Option.bind_some,Option.map_some,Option.some.injEq] at hz
       have h1:z.cells=r.toArray:=by rw[<- hz]
       simp[Instr.alloc,zeroValue,typeInfo,Sem.run_bind,hq,hi,newVar,newRow,newObj,h1,Sem.run]
  unfold Oper.wp
  simp only[execOp,Sem.run_bind,hr,Result.andThen_ok]
  exact hK _ _ ((k w.heap.size hw.aH.size).go _ _ (ha.put d _ hd) (hw.push (.cells r.toArray t (0,0)) rfl rfl rfl rfl rfl))⟩
theorem JL.box{r:List Value}(hx:ev E x=some v)(hr:v.cells=r.toArray)(hd:Nat.blt d n=true)
  (k:∀ b,w0.heap.size<=b->JL P n w0 S ops Q l ((d,Pt b 0)::E) (⟨b,Row t r,true⟩::M)):JL P n w0 S ops Q (⟨some d,.box t x,ty,pos,aft,none⟩::l) E M:=
 ⟨fun a w ha hw=>wpList_plain rfl fun K hK=>by
  have h1:(Instr.box t v).run P w=.ok (Pt w.heap.size 0) { w with heap:=w.heap.push (.cells r.toArray t (0,0)) }:=by
   simp[Instr.box,newVar,newRow,newObj,hr,Sem.run]
  unfold Oper.wp
  simp only[execOp,ha.eval hx,Sem.run_bind,h1,Result.andThen_ok]
  exact hK _ _ ((k w.heap.size hw.aH.size).go _ _ (ha.put d _ hd) (hw.push (.cells r.toArray t (0,0)) rfl rfl rfl rfl rfl))⟩
theorem dF{α:Type}(f:α->Value)(d:α){r:List α}{j:Nat}(h:j<r.length):(r.map f)[j]?=some (f (r.getD j d)):=by
 simp[h]
theorem jv{w:World}{c:Array Value}{e:TypeId}{fr:Nat × Nat}(ho:w.heap[b]?=some (.cells c e fr)) :
  (w.setCell ⟨b,j,none⟩ v).heap[b]?=some (.cells (c.setIfInBounds j v) e fr):=by
 simp[World.setCell,Array.getElem?_modify,ho]
theorem jd{w:World}{k:Nat}(h:k≠b):(w.setCell ⟨b,j,none⟩ v).heap[k]?=w.heap[k]?:=by
 simp[World.setCell,Array.getElem?_modify,Ne.symm h]
theorem jw{w:World}:(w.setCell ⟨b,j,none⟩ v).heap.size=w.heap.size:=by simp[World.setCell]
theorem q8{w:World}{c:Array Value}{e:TypeId}(hv:v.oneCell'=true)(ho:w.heap[b]?=some (.cells c e (0,0)))(hj:j<c.size) :
  (Go.store ⟨b,j,none⟩ v).run P w=.ok () (w.setCell ⟨b,j,none⟩ v):=by
 have hc:w.cell? ⟨b,j,none⟩=some c[j]:=by simp[World.cell?,ho,hj]
 have hf:w.frozen? ⟨b,j,none⟩=false:=by simp[World.frozen?,ho]
 cases v <;> simp_all [Go.store,Sem.run,Value.oneCell']
theorem jZ{e:TypeId}:∀ (vs:List Value) (i:Nat) (w:World) (c:List Value),(∀ v∈vs,v.oneCell'=true)->w.heap[b]?=some (.cells c.toArray e (0,0))->j+i+vs.length<=c.length->
  ∃ w',(storeCells ⟨b,j,none⟩ vs i).run P w=.ok () w'/\w'.heap[b]?=some (.cells (c.take (j+i)++vs++c.drop (j+i+vs.length)).toArray e (0,0))/\w'.heap.size=w.heap.size/\
    (∀ k,k≠b->w'.heap[k]?=w.heap[k]?)/\w'.os=w.os/\w'.tape=w.tape/\w'.output=w.output
 | [],i,w,c,_,ho,_=>⟨w,rfl,by simpa using ho,rfl,fun _ _=>rfl,rfl,rfl,rfl⟩
 | v::vs,i,w,c,h1,ho,hl=>by
   simp only[List.length_cons] at hl
   obtain⟨w',r1,r2,r3,r4,r5,r6,r7⟩:=jZ (e:=e) vs (i+1) (w.setCell ⟨b,j+i,none⟩ v) (c.set (j+i) v) (fun u hu=>h1 u (by simp[hu])) (by
    rw[jv ho];simp) Y624
   refine⟨w',?_,?_,r3.trans jw,fun k hk=>(r4 k hk).trans (jd hk),r5,r6,r7⟩
   · simp only[storeCells,Sem.run_bind,dH]
     rw[q8 (h1 v Y614) ho Y624]
     exact r1
   · rw[r2]
     congr 3
     rw[List.take_set,List.drop_set,if_pos Y609]
     rw[show j+(i+1)=j+i+1 by omega,List.take_add_one]
     simp only[List.getElem?_eq_getElem (show j+i<c.length by omega),Option.toList_some,List.length_cons]
     rw[List.set_append_right _ _ Y625]
     simp[List.length_take,Nat.min_eq_left (show j+i<=c.length by omega),Nat.add_assoc,Nat.add_comm,Nat.add_left_comm]
theorem JL.TQ{hb:Option Tmp}(h:∀ a w,bF n E a->aa w0 S M w->∃ w',(execOp a.eval ⟨hb,op,ty,pos,aft,none⟩).run P w=.ok .skip w'/\wpList P ops Q l (a.put hb undef) w'):JL P n w0 S ops Q (⟨hb,op,ty,pos,aft,none⟩::l) E M:=
 ⟨fun a w ha hw=>wpList_plain rfl fun K hK=>by
  obtain⟨w',h1,h2⟩:=h a w ha hw
  unfold Oper.wp
  rw[h1]
  exact hK _ _ h2⟩
theorem JL.store(hx:ev E x=some (.pointer (some ⟨b,j,none⟩)))(hy:ev E y=some v)(hz:gX P t=some 1)(hv:v.oneCell'=true)(hcl:v.cells=#[v])(hu:ki M b A A' M')
  (hA:∀ o,A o->∃ c e,o=.cells c e (0,0)/\j<c.size/\A' (.cells (c.setIfInBounds j v) e (0,0)))
  (k:JL P n w0 S ops Q l E M'):JL P n w0 S ops Q (⟨none,.store t x y,ty,pos,aft,none⟩::l) E M:=
 JL.TQ fun a w ha hw=>by
  obtain⟨o,ho,hAo⟩:=hw.get hu.has
  obtain⟨c,e,rfl,hj,hA'⟩:=hA o hAo
  refine⟨w.setCell ⟨b,j,none⟩ v,?_,k.go _ _ (ha.A2 _) (hw.write hu hA' (jv ho) jw (fun _ h=>jd h) rfl rfl rfl)⟩
  have hs:(storeCells ⟨b,j,none⟩ [v] 0).run P w=.ok () (w.setCell ⟨b,j,none⟩ v):=by
   simp only[storeCells,Sem.run_bind,dH,Nat.add_zero]
   rw[q8 hv ho hj];rfl
  simp[execOp,ha.eval hx,ha.eval hy,Instr.storeAt,Instr.sureAddr,Sem.run_bind,storeVar,bR hz,hcl,hs]
theorem JL.aP{r r':List Value}{e:TypeId}(hz:gX P t=some 1)(hx:ev E x=some (.pointer (some ⟨b,j,none⟩)))(hy:ev E y=some v)(hv:v.oneCell'=true)(hcl:v.cells=#[v])(hu:ki M b (Row e r) (Row e r') M')(hj:j<r.length)(he:r.set j v=r')
  (k:JL P n w0 S ops Q l E M'):JL P n w0 S ops Q (⟨none,.store t x y,ty,pos,aft,none⟩::l) E M:=
 JL.store hx hy hz hv hcl hu (fun o ho=>⟨_,_,ho,by simpa using hj,by simp[Row,he]⟩) k
theorem JL.GI{k:Nat}(hz':gX P t=some k)(hx:ev E x=some (.pointer (some ⟨b,j,none⟩)))(hy:ev E y=some (.agg cs.toArray))(hl:cs.length=k)(hv:cs.all Value.oneCell'=true)(hu:ki M b A A' M')
  (hA:∀ o,A o->∃ r e,o=.cells (List.toArray r) e (0,0)/\j+cs.length<=r.length/\A' (.cells (r.take j++cs++r.drop (j+cs.length)).toArray e (0,0)))
  (k:JL P n w0 S ops Q l E M'):JL P n w0 S ops Q (⟨none,.store t x y,ty,pos,aft,none⟩::l) E M:=
 JL.TQ fun a w ha hw=>by
  have hz:gX P t=some cs.length:=hl▸hz'
  obtain⟨o,ho,hAo⟩:=hw.get hu.has
  obtain⟨r,e,rfl,hj,hA'⟩:=hA o hAo
  obtain⟨w',r1,r2,r3,r4,r5,r6,r7⟩:=jZ (P:=P) (j:=j) cs 0 w r (fun v hv'=>List.all_eq_true.1 hv v hv') ho Y609
  refine⟨w',?_,k.go _ _ (ha.A2 _) (hw.write hu hA' (by simpa using r2) r3 r4 r5 r6 r7)⟩
  simp[execOp,ha.eval hx,ha.eval hy,Instr.storeAt,Instr.sureAddr,Sem.run_bind,storeVar,bR hz,Value.cells,r1]
theorem JL.ax{r:List Value}{e:TypeId}{m:Nat}(hz:gX P t=some m)(hx:ev E x=some (.pointer (some ⟨b,0,none⟩)))(hy:ev E y=some (.agg cs.toArray))(hc:cs.length=m)(hv:cs.all Value.oneCell'=true)(hu:ki M b (Row e r) (Row e cs) M')
  (hr:r.length=m) (k:JL P n w0 S ops Q l E M'):JL P n w0 S ops Q (⟨none,.store t x y,ty,pos,aft,none⟩::l) E M:=
 JL.GI hz hx hy hc hv hu (fun o ho=>⟨r,e,ho,by omega,by simp[Row,hc,<- hr]⟩) k
def enum:Nat->List Value->Env
 | _,[]=>[]
 | i,v::vs=>(i,v)::enum (i+1) vs
theorem Fi:∀ (vs:List Value) (i t:Nat) (v:Value),lk (enum i vs) t=some v->i<=t/\vs[t-i]?=some v
 | [],_,_,_,h=>by simp[enum,lk] at h
 | u::vs,i,t,v,h=>by
   simp only[enum,lk] at h
   by_cases e:i=t
   · subst e
     simp at h
     simp[h]
   · have:Nat.beq i t=false:=Bool.eq_false_iff.2 fun h=>e (Nat.eq_of_beq_eq_true h)
     rw[this] at h
     obtain⟨h1,h2⟩:=Fi vs (i+1) t v h
     refine⟨by omega,?_⟩
     rw[show t-i=(t-(i+1))+1 by omega]
     simpa using h2
theorem bF.enter(vs:List Value)(hl:vs.length<=n):bF n (enum 0 vs) ⟨vs.toArray++Array.replicate (n-vs.toArray.size) undef,[]⟩:=by
 refine⟨by simp;omega,rfl,fun t v h=>?_⟩
 obtain⟨_,h2⟩:=Fi vs 0 t v h
 have ht:t<vs.length:=(List.getElem?_eq_some_iff.1 h2).1
 simp only[Nat.sub_zero] at h2
 have h3:=(List.getElem?_eq_some_iff.1 h2).2
 simp[Array.getD_eq_getD_getElem?,Array.getElem?_append,ht,h3]
theorem enter{f:FuncId}{fn:Func}{c:Code}{vs:List Value}{w:World}{R:Ending->World->Prop}(hf:P.funcs[f]?=some fn)(hb:fn.body=some c)(hn:fn.ntmps=n)(hl:Nat.ble vs.length n=true)
  (hM:aa w S M w) (h:JC P n w S (bodyPost P fn R) c (enum 0 vs) M):Calls P f vs.toArray w R:=by
 refine calls_of_wp hf hb (h.go _ _ ?_ hM)
 rw[hn]
 exact bF.enter vs Y626
def uG(tmps:Array Value):ResultVar->Sem Value
 | .tmp t=>pure (tmps.getD t undef)
 | .cell p ty=>do loadVar ty (<- asAddr (tmps.getD p undef))
theorem ia(fn:Func)(tmps:Array Value):results fn tmps=(do let vs <- fn.results.mapM (uG tmps);pure (if h:vs.size=1 then vs[0] else .tuple vs)):=by
 unfold results
 congr 2
def RV(P:Program)(n:Nat)(w0:World)(S:List Nat)(E:Env)(M:List aL)(r:ResultVar)(v:Value):Prop:=
 ∀ a w,bF n E a->aa w0 S M w->(uG a.tmps r).run P w=.ok v w
theorem RV.tmp{t:Tmp}(h:lk E t=some v):RV P n w0 S E M (.tmp t) v:=fun a w ha _=>by
 simp only[uG,ha.all t v h];rfl
theorem RV.aT{p:Tmp}{k:Nat}(ha:kM P t=true)(hz:gX P t=some k)(h:lk E p=some (.pointer (some ⟨b,0,none⟩)))(hM:Has M b A wr)(hl:cs.length=k)(hA:∀ o,A o->dy o 0 cs):RV P n w0 S E M (.cell p t) (.agg cs.toArray):=fun a w hk hw=>by
 obtain⟨o,ho,hAo⟩:=hw.get hM
 have:=m7 (P:=P) ha (hl▸hz) (uE ho (hA o hAo))
 simp[uG,hk.all p _ h,asAddr,this]
theorem RV.cell{p:Tmp}(h:lk E p=some (.pointer (some ⟨b,0,none⟩)))(ha:gD P t=true)(hM:Has M b A wr)(hA:∀ o,A o->cellAt o 0=some v):RV P n w0 S E M (.cell p t) v:=fun a w hk hw=>by
 obtain⟨o,ho,hAo⟩:=hw.get hM
 have:=ju (P:=P) ha (cell_of ho (hA o hAo))
 simp[uG,hk.all p _ h,asAddr,this]
variable {fn:Func} {R:Ending->World->Prop} {r1 r2 r3:ResultVar} {v1 v2 v3:Value}
theorem JE.aK(hr:fn.results=#[r1])(h1:RV P n w0 S E M r1 v1)(hR:∀ w,aa w0 S M w->R (.returned v1) w):JE n w0 S (bodyPost P fn R) .ret E M:=by
 refine⟨fun a w ha hw=>?_⟩
 refine⟨ha.defers,v1,?_,hR w hw⟩
 have e1:=h1 a w ha hw
 rw[ia,hr]
 simp[e1]
theorem JE.aV(hr:fn.results=#[r1,r2])(h1:RV P n w0 S E M r1 v1)(h2:RV P n w0 S E M r2 v2)(hR:∀ w,aa w0 S M w->R (.returned (.tuple #[v1,v2])) w):JE n w0 S (bodyPost P fn R) .ret E M:=by
 refine⟨fun a w ha hw=>?_⟩
 refine⟨ha.defers,.tuple #[v1,v2],?_,hR w hw⟩
 have e1:=h1 a w ha hw
 have e2:=h2 a w ha hw
 rw[ia,hr]
 simp[Sem.run_bind,e1,e2]
end
end Sl
end
section
namespace Sl
@[reducible] def N (a:Nat):Value:=.int .i64 a
@[reducible] def U8 (a:BitVec 8):Value:=.int .u8 a.toNat
@[reducible] def zw (a:BitVec 32):Value:=.int .u32 a.toNat
section
variable {P:Program} {n:Nat} {E:Env} {C:World->Prop} {dst:Option Tmp} {ty t t':TypeId} {pos:String} {aft:Array Edge} {g:Option (Nat × Bool)} {x y:Operand} {u v r:Value} {o:BinOp}
def Rw:BinOp->Bool
 | .eql|.neq=>false
 | _=>true
theorem OQ.bin(hx:ev E x=some u)(hy:ev E y=some v)(ho:Rw o=true)(h:∀ w,(binOp o t u v).run P w=.ok r w):OQ P n E C ⟨dst,.binOp o t x y t',ty,pos,aft,g⟩ r:=
 OQ.run fun a ha w _=>by
  have h1:=ha.eval hx
  have h2:=ha.eval hy
  have hg:∀ w,(eqGuard o t x y u v).run P w=.ok () w:=fun w=>by
   cases o <;> first|rfl|cases ho
  simp[execOp,h1,h2,Sem.run_bind,hg,h w]
theorem OQ.SK{k:IntKind}{a b:Int}(hx:ev E x=some (.int k a))(hy:ev E y=some (.int k b)):OQ P n E C ⟨dst,.binOp .eql t x y t',ty,pos,aft,g⟩ (.bool (decide (a=b))):=
 OQ.run fun c ha w _=>by
  have h1:=ha.eval hx
  have h2:=ha.eval hy
  simp[execOp,h1,h2,eqGuard,binOp,Op.intCmp]
  rfl
theorem OQ.S5{k:IntKind}{a b:Int}(hx:ev E x=some (.int k a))(hy:ev E y=some (.int k b)):OQ P n E C ⟨dst,.binOp .neq t x y t',ty,pos,aft,g⟩ (.bool (!decide (a=b))):=
 OQ.run fun c ha w _=>by
  have h1:=ha.eval hx
  have h2:=ha.eval hy
  simp[execOp,h1,h2,eqGuard,binOp,Op.intCmp]
  rfl
theorem mE{w:World}{k:IntKind}{i j:Int}(e:i=j):(Result.ok (Value.int k i) w:Result Value)=.ok (.int k j) w:=by rw[e]
theorem lX{w:World}{i j:Bool}(e:i=j):(Result.ok (Value.bool i) w:Result Value)=.ok (.bool j) w:=by rw[e]
theorem sA{a:Int}(h0:-9223372036854775808<=a)(h:a<9223372036854775808):IntKind.i64.wrap a=a:=by
 simp[IntKind.wrap,IntKind.bits,IntKind.signed];omega
theorem OQ.aY{a b:Nat}(hx:ev E x=some (N a))(hy:ev E y=some (N b))(h:a+b<9223372036854775808):OQ P n E C ⟨dst,.binOp .add t x y t',ty,pos,aft,g⟩ (N (a+b)):=
 OQ.bin hx hy rfl fun _=>mE (k:=.i64) (show IntKind.i64.wrap ((a:Int)+b)=((a+b:Nat):Int) from(sA Y609 Y609).trans Y614)
theorem OQ.gh{a b:Nat}(hx:ev E x=some (N a))(hy:ev E y=some (N b))(h:b<=a)(h2:a<9223372036854775808):OQ P n E C ⟨dst,.binOp .sub t x y t',ty,pos,aft,g⟩ (N (a-b)):=
 OQ.bin hx hy rfl fun _=>mE (k:=.i64) (show IntKind.i64.wrap ((a:Int)-b)=((a-b:Nat):Int) from(sA Y609 Y609).trans Y609)
theorem OQ.Dg{a b:Nat}(hx:ev E x=some (N a))(hy:ev E y=some (N b))(h:a*b<9223372036854775808):OQ P n E C ⟨dst,.binOp .mul t x y t',ty,pos,aft,g⟩ (N (a*b)):=
 OQ.bin hx hy rfl fun _=>mE (k:=.i64) (show IntKind.i64.wrap ((a:Int)*b)=((a*b:Nat):Int) from by
  rw[<- Int.natCast_mul]
  generalize a*b=c at h
  exact sA Y609 Y609)
theorem OQ.Ph{a b:Nat}(hx:ev E x=some (N a))(hy:ev E y=some (N b))(h:0<b)(h2:a<9223372036854775808):OQ P n E C ⟨dst,.binOp .quo t x y t',ty,pos,aft,g⟩ (N (a / b)):=
 OQ.bin hx hy rfl fun w=>by
  have h3:a / b<=a:=Nat.div_le_self _ _
  have h4:((a:Int).tdiv b)=((a / b:Nat):Int):=by rw[Int.tdiv_eq_ediv_of_nonneg Y609];exact_mod_cast rfl
  have h5:¬ (b:Int)=0:=by omega
  have h6:IntKind.i64.wrap ((a:Int).tdiv b)=((a / b:Nat):Int):=by rw[h4];generalize a / b=c at h3;exact sA Y609 Y609
  have h7:Op.intDiv .quo .i64 (a:Int) b=(Pure.pure (.int .i64 (IntKind.i64.wrap ((a:Int).tdiv b))):Sem Value):=by simp only[Op.intDiv,if_neg h5]
  show Sem.run P (Op.intDiv .quo .i64 (a:Int) b) w=_
  rw[h7,h6];rfl
theorem OQ.GJ{a b:Nat}(hx:ev E x=some (N a))(hy:ev E y=some (N b))(h:0<b):OQ P n E C ⟨dst,.binOp .rem t x y t',ty,pos,aft,g⟩ (N (a%b)):=
 OQ.bin hx hy rfl fun w=>by
  have h4:((a:Int).tmod b)=((a%b:Nat):Int):=by rw[Int.tmod_eq_emod_of_nonneg Y609];exact_mod_cast rfl
  have h5:¬ (b:Int)=0:=by omega
  have h7:Op.intDiv .rem .i64 (a:Int) b=(Pure.pure (.int .i64 ((a:Int).tmod b)):Sem Value):=by simp only[Op.intDiv,if_neg h5]
  show Sem.run P (Op.intDiv .rem .i64 (a:Int) b) w=_
  rw[h7,h4];rfl
theorem OQ.dR{a b:Nat}(hx:ev E x=some (N a))(hy:ev E y=some (N b)):OQ P n E C ⟨dst,.binOp .lss t x y t',ty,pos,aft,g⟩ (.bool (decide (a<b))):=
 OQ.bin hx hy rfl fun _=>lX (decide_eq_decide.2 Int.ofNat_lt)
theorem OQ.uH{a b:Nat}(hx:ev E x=some (N a))(hy:ev E y=some (N b)):OQ P n E C ⟨dst,.binOp .gtr t x y t',ty,pos,aft,g⟩ (.bool (decide (b<a))):=
 OQ.bin hx hy rfl fun _=>lX (decide_eq_decide.2 Int.ofNat_lt)
theorem OQ.MN{a b:Nat}(hx:ev E x=some (N a))(hy:ev E y=some (N b)):OQ P n E C ⟨dst,.binOp .geq t x y t',ty,pos,aft,g⟩ (.bool (decide (b<=a))):=
 OQ.bin hx hy rfl fun _=>lX (decide_eq_decide.2 Int.ofNat_le)
theorem OQ.S6{a b:Nat}(hx:ev E x=some (N a))(hy:ev E y=some (N b)):OQ P n E C ⟨dst,.binOp .neq t x y t',ty,pos,aft,g⟩ (.bool (!decide (a=b))):=
 (decide_eq_decide.2 Int.ofNat_inj:decide ((a:Int)=b)=decide (a=b))▸OQ.S5 hx hy
theorem lA{k:Nat}(a:BitVec k):BitVec.ofInt k (a.toNat:Int)=a:=by simp
theorem wrap32(a:Nat):IntKind.u32.wrap (a:Int)=((a%2 ^ 32:Nat):Int):=by simp[IntKind.wrap,IntKind.bits,IntKind.signed]
theorem A6(a:Nat):IntKind.u8.wrap (a:Int)=((a%2 ^ 8:Nat):Int):=by simp[IntKind.wrap,IntKind.bits,IntKind.signed]
theorem Fj(a:BitVec 32):IntKind.u32.wrap (a.toNat:Int)=a.toNat:=by rw[wrap32,Nat.mod_eq_of_lt a.isLt]
theorem Pj(a:BitVec 8):IntKind.u8.wrap (a.toNat:Int)=a.toNat:=by rw[A6,Nat.mod_eq_of_lt a.isLt]
theorem OQ.Rx{a b:BitVec 32}(hx:ev E x=some (zw a))(hy:ev E y=some (zw b)):OQ P n E C ⟨dst,.binOp .and t x y t',ty,pos,aft,g⟩ (zw (a &&& b)):=
 OQ.bin hx hy rfl fun _=>mE (k:=.u32) (show IntKind.u32.wrap ((BitVec.ofInt 32 (a.toNat:Int) &&& BitVec.ofInt 32 (b.toNat:Int)).toNat:Int)=_ by rw[lA,lA,Fj])
theorem OQ.Ry{a b:BitVec 32}(hx:ev E x=some (zw a))(hy:ev E y=some (zw b)):OQ P n E C ⟨dst,.binOp .or t x y t',ty,pos,aft,g⟩ (zw (a ||| b)):=
 OQ.bin hx hy rfl fun _=>mE (k:=.u32) (show IntKind.u32.wrap ((BitVec.ofInt 32 (a.toNat:Int) ||| BitVec.ofInt 32 (b.toNat:Int)).toNat:Int)=_ by rw[lA,lA,Fj])
theorem OQ.OC{a:BitVec 32}{yk:IntKind}{k:Nat}(hx:ev E x=some (zw a))(hy:ev E y=some (.int yk k)):OQ P n E C ⟨dst,.binOp .shl t x y t',ty,pos,aft,g⟩ (zw (a <<< k)):=
 OQ.bin hx hy rfl fun w=>by
  have h1:IntKind.u32.wrap ((a.toNat:Int)*2 ^ (min k 32))=((a <<< k).toNat:Int):=by
   rw[show((a.toNat:Int)*2 ^ (min k 32))=((a.toNat*2 ^ (min k 32):Nat):Int) by simp,wrap32,BitVec.toNat_shiftLeft,Nat.shiftLeft_eq]
   by_cases hk:k<=32
   · rw[Nat.min_eq_left hk]
   · rw[Nat.min_eq_right Y609]
     congr 1
     rw[show k=32+(k-32) by omega,Nat.pow_add,Nat.mul_mod_left,Nat.mul_left_comm,Nat.mul_mod_right]
  have h7:Op.shift .shl .u32 (a.toNat:Int) yk (k:Int)=(Pure.pure (.int .u32 (IntKind.u32.wrap ((a.toNat:Int)*2 ^ (min k 32)))):Sem Value):=by
   unfold Op.shift
   rw[if_neg Y609];rfl
  show Sem.run P (Op.shift .shl .u32 (a.toNat:Int) yk (k:Int)) w=_
  rw[h7,h1];rfl
theorem OQ.OD{a:BitVec 32}{yk:IntKind}{k:Nat}(hx:ev E x=some (zw a))(hy:ev E y=some (.int yk k)):OQ P n E C ⟨dst,.binOp .shr t x y t',ty,pos,aft,g⟩ (zw (a >>> k)):=
 OQ.bin hx hy rfl fun w=>by
  have h1:(a.toNat:Int).fdiv (2 ^ (min k 32))=((a >>> k).toNat:Int):=by
   rw[Int.fdiv_eq_ediv_of_nonneg _ Y627,BitVec.toNat_ushiftRight,Nat.shiftRight_eq_div_pow]
   by_cases hk:k<=32
   · rw[Nat.min_eq_left hk];simp
   · rw[Nat.min_eq_right Y609]
     have:=a.isLt
     rw[Nat.div_eq_of_lt (Nat.lt_of_lt_of_le this (Nat.pow_le_pow_right Y609 Y609))]
     exact Int.ediv_eq_zero_of_lt Y609 (by exact_mod_cast this)
  have h7:Op.shift .shr .u32 (a.toNat:Int) yk (k:Int)=(Pure.pure (.int .u32 ((a.toNat:Int).fdiv (2 ^ (min k 32)))):Sem Value):=by
   unfold Op.shift
   rw[if_neg Y609];rfl
  show Sem.run P (Op.shift .shr .u32 (a.toNat:Int) yk (k:Int)) w=_
  rw[h7,h1];rfl
end
end Sl
end
section
namespace Sl
section
variable {P:Program} {n:Nat} {E:Env} {C:World->Prop} {dst:Option Tmp} {ty t t' e:TypeId} {pos:String} {aft:Array Edge} {g:Option (Nat × Bool)} {x y:Operand} {u v r:Value}
theorem OQ.conv{k k':IntKind}{d:TypeDesc}{i:Int}(hs:P.underlying t=some d)(hd:P.underlying t'=some (.int k))(hx:ev E x=some (.int k' i))(hv:v=.int k (k.wrap i)):OQ P n E C ⟨dst,.convert t t' x,ty,pos,aft,g⟩ v:=by
 subst hv
 refine OQ.run fun a ha w _=>?_
 have h1:=ha.eval hx
 have h2:(underlying t).run P w=.ok d w:=run_underlying hs w
 have h3:(underlying t').run P w=.ok (.int k) w:=run_underlying hd w
 cases d <;> simp[execOp,h1,convert,Sem.run_bind,h2,h3,Conv.intToInt]
theorem OQ.Jz{d:TypeDesc}{a:BitVec 8}(hs:P.underlying t=some d)(hd:P.underlying t'=some (.int .u32))(hx:ev E x=some (U8 a)):OQ P n E C ⟨dst,.convert t t' x,ty,pos,aft,g⟩ (zw (a.setWidth 32)):=
 OQ.conv hs hd hx (by rw[wrap32];simp[zw])
theorem OQ.JB{d:TypeDesc}{a:BitVec 32}(hs:P.underlying t=some d)(hd:P.underlying t'=some (.int .u8))(hx:ev E x=some (zw a)):OQ P n E C ⟨dst,.convert t t' x,ty,pos,aft,g⟩ (U8 (a.setWidth 8)):=
 OQ.conv hs hd hx (by rw[A6];simp[U8])
theorem OQ.S7{len b j i sz:Nat}(hu:P.underlying t=some (.array len e))(hz:gX P e=some sz)(hx:ev E x=some (.pointer (some ⟨b,j,none⟩)))(hy:ev E y=some (N i))(hi:i<len) :
  OQ P n E C ⟨dst,.indexAddr t x y,ty,pos,aft,g⟩ (.pointer (some ⟨b,j+i*sz,none⟩)):=
 OQ.run fun a ha w _=>by
  have h1:=ha.eval hx
  have h2:=ha.eval hy
  have h3:(underlying t).run P w=.ok (.array len e) w:=run_underlying hu w
  have h4:(0:Int)<=(i:Int)/\(i:Int)<(len:Int):=by omega
  simp[execOp,h1,h2,Instr.indexAt,asIntOf,Sem.run_bind,h3,Instr.sureAddr,hi,bR hz,dH]
theorem OQ.iD{len cap b j i sz:Nat}(hu:P.underlying t=some (.slice e))(hz:gX P e=some sz)(hx:ev E x=some (.slice (some ⟨b,j,none⟩) len cap))(hy:ev E y=some (N i))(hi:i<len) :
  OQ P n E C ⟨dst,.indexAddr t x y,ty,pos,aft,g⟩ (.pointer (some ⟨b,j+i*sz,none⟩)):=
 OQ.run fun a ha w _=>by
  have h1:=ha.eval hx
  have h2:=ha.eval hy
  have h3:(underlying t).run P w=.ok (.slice e) w:=run_underlying hu w
  simp[execOp,h1,h2,Instr.indexAt,asIntOf,Sem.run_bind,h3,hi,bR hz,dH]
theorem OQ.xK{len b i:Nat}(hu:P.underlying t=some (.array len e))(hz:gX P e=some 1)(hx:ev E x=some (.pointer (some ⟨b,0,none⟩)))(hy:ev E y=some (N i))(hi:i<len) :
  OQ P n E C ⟨dst,.indexAddr t x y,ty,pos,aft,g⟩ (.pointer (some ⟨b,i,none⟩)):=by
 have:=OQ.S7 (P:=P) (n:=n) (C:=C) (dst:=dst) (ty:=ty) (pos:=pos) (aft:=aft) (g:=g) hu hz hx hy hi
 rwa [Nat.mul_one,Nat.zero_add] at this
theorem OQ.pX{len cap b i:Nat}(hu:P.underlying t=some (.slice e))(hz:gX P e=some 1)(hx:ev E x=some (.slice (some ⟨b,0,none⟩) len cap))(hy:ev E y=some (N i))(hi:i<len) :
  OQ P n E C ⟨dst,.indexAddr t x y,ty,pos,aft,g⟩ (.pointer (some ⟨b,i,none⟩)):=by
 have:=OQ.iD (P:=P) (n:=n) (C:=C) (dst:=dst) (ty:=ty) (pos:=pos) (aft:=aft) (g:=g) hu hz hx hy hi
 rwa [Nat.mul_one,Nat.zero_add] at this
theorem OQ.dz{len cap b j i:Nat}(hu:P.underlying t=some (.slice e))(hz:gX P e=some 1)(hx:ev E x=some (.slice (some ⟨b,j,none⟩) len cap))(hy:ev E y=some (N i))(hi:i<len) :
  OQ P n E C ⟨dst,.indexAddr t x y,ty,pos,aft,g⟩ (.pointer (some ⟨b,j+i,none⟩)):=by
 have:=OQ.iD (P:=P) (n:=n) (C:=C) (dst:=dst) (ty:=ty) (pos:=pos) (aft:=aft) (g:=g) hu hz hx hy hi
 rwa [Nat.mul_one] at this
theorem OQ.index{len i:Nat}{cs:List Value}(hu:P.underlying t=some (.array len e))(hz:gX P e=some 1)(hs:gD P e=true)(hx:ev E x=some (.agg cs.toArray))(hy:ev E y=some (N i))(hi:i<len)(hv:cs[i]?=some v) :
  OQ P n E C ⟨dst,.index t x y,ty,pos,aft,g⟩ v:=
 OQ.run fun a ha w _=>by
  have h1:=ha.eval hx
  have h2:=ha.eval hy
  have h3:(underlying t).run P w=.ok (.array len e) w:=run_underlying hu w
  simp[execOp,h1,h2,Instr.index,asIntOf,Sem.run_bind,h3,hi,bR hz,part,iT hs,hv]
theorem OQ.dm{s f:Nat}{fs:Array Field}{fd:Field}{b j sz:Nat}(hu:P.underlying s=some (.struct fs))(hf:fs[f]?=some fd)(hz:gX P fd.type=some sz)(h0:sz≠0)(hx:ev E x=some (.pointer (some ⟨b,j,none⟩))) :
  OQ P n E C ⟨dst,.fieldAddr s x f,ty,pos,aft,g⟩ (.pointer (some ⟨b,j+fd.offset,none⟩)):=
 OQ.run fun a ha w _=>by
  have h1:=ha.eval hx
  have h3:(underlying s).run P w=.ok (.struct fs) w:=run_underlying hu w
  simp[execOp,h1,Instr.fieldAt,Sem.run_bind,h3,hf,Instr.sureAddr,fieldPlace,bR hz,h0,dH]
theorem OQ.Uf{len b j sz:Nat}(hu:P.underlying t=some (.array len e))(hz:gX P e=some sz)(hx:ev E x=some (.pointer (some ⟨b,j,none⟩))) :
  OQ P n E C ⟨dst,.slice t x none none none,ty,pos,aft,g⟩ (.slice (some ⟨b,j,none⟩) len len):=
 OQ.run fun a ha w _=>by
  have h1:=ha.eval hx
  have h3:(underlying t).run P w=.ok (.array len e) w:=run_underlying hu w
  have h6:(⟨b,j,none⟩:Addr).add 0=⟨b,j,none⟩:=by rw[dH];rfl
  simp[execOp,h1,Instr.sliceAt,Sem.run_bind,h3,Instr.sureAddr,Instr.sliceBounds,bR hz,h6]
theorem OQ.Pk{len cap lo sz:Nat}{ad:Option Addr}(hu:P.underlying t=some (.slice e))(hz:gX P e=some sz)(hx:ev E x=some (.slice ad len cap))(hl:ev E y=some (N lo))(h:lo<=len) :
  OQ P n E C ⟨dst,.slice t x (some y) none none,ty,pos,aft,g⟩ (.slice (if cap=lo then ad else ad.map (·.add (lo*sz))) (len-lo) (cap-lo)):=
 OQ.run fun a ha w _=>by
  have h1:=ha.eval hx
  have h2:=ha.eval hl
  have h3:(underlying t).run P w=.ok (.slice e) w:=run_underlying hu w
  simp[execOp,h1,h2,Instr.sliceAt,Sem.run_bind,h3,Instr.slice,Instr.sliceBounds,Instr.sliceBound,asIntOf,h,bR hz]
theorem OQ.JD{len cap hi sz:Nat}{ad:Option Addr}(hu:P.underlying t=some (.slice e))(hz:gX P e=some sz)(hx:ev E x=some (.slice ad len cap))(hh:ev E y=some (N hi))(h:hi<=cap) :
  OQ P n E C ⟨dst,.slice t x none (some y) none,ty,pos,aft,g⟩ (.slice (if cap=0 then ad else ad.map (·.add 0)) hi cap):=
 OQ.run fun a ha w _=>by
  have h1:=ha.eval hx
  have h2:=ha.eval hh
  have h3:(underlying t).run P w=.ok (.slice e) w:=run_underlying hu w
  simp[execOp,h1,h2,Instr.sliceAt,Sem.run_bind,h3,Instr.slice,Instr.sliceBounds,Instr.sliceBound,asIntOf,h,bR hz]
end
end Sl
end
section
namespace Sl
def Reads(w:World)(ad:Option Addr)(cs:List Value):Prop:=∀ i v,cs[i]?=some v->∃ b j,ad=some ⟨b,j,none⟩/\w.cell? ⟨b,j+i,none⟩=some v
theorem Reads.nil(w:World)(ad:Option Addr):Reads w ad []:=by intro i v h;simp at h
theorem Reads.at{w:World}{ad:Option Addr}{cs:List Value}(h:Reads w ad cs)(h0:0<cs.length):∃ b j,ad=some ⟨b,j,none⟩/\∀ i v,cs[i]?=some v->w.cell? ⟨b,j+i,none⟩=some v:=by
 obtain⟨b,j,h1,_⟩:=h 0 cs[0] (by simp[h0])
 refine⟨b,j,h1,fun i v hv=>?_⟩
 obtain⟨b',j',h2,h3⟩:=h i v hv
 rw[h1] at h2
 cases h2
 exact h3
theorem Reads.of{w:World}{b j:Nat}{cs:List Value}(h:∀ i v,cs[i]?=some v->w.cell? ⟨b,j+i,none⟩=some v):Reads w (some ⟨b,j,none⟩) cs:=fun i v hv=>⟨b,j,rfl,h i v hv⟩
theorem Reads.block{w:World}{b j:Nat}{cs:List Value}{o:Obj}(ho:w.heap[b]?=some o)(h:dy o j cs):Reads w (some ⟨b,j,none⟩) cs:=.of (uE ho h)
theorem Reads.take{w:World}{ad:Option Addr}{cs:List Value}(h:Reads w ad cs)(k:Nat):Reads w ad (cs.take k):=fun i v hv=>h i v (by
 rw[List.getElem?_take] at hv
 split at hv
 · exact hv
 · cases hv)
theorem Reads.drop{w:World}{ad:Option Addr}{cs:List Value}{len cap lo:Nat}(h:Reads w ad cs)(hl:cs.length=len)(hc:len<=cap)(hlo:lo<=len):Reads w (if cap=lo then ad else ad.map (·.add (lo*1))) (cs.drop lo):=by
 by_cases e:cap=lo
 · rw[if_pos e,List.drop_of_length_le Y609]
   exact .nil _ _
 · rw[if_neg e]
   intro i v hv
   rw[List.getElem?_drop] at hv
   obtain⟨b,j,h1,h2⟩:=h _ v hv
   refine⟨b,j+lo,by simp[h1,dH],by rw[Nat.add_assoc];exact h2⟩
section
variable {P:Program} {w:World} {cs:List Value} {ad:Option Addr} {m c sz:Nat}
theorem uI(hl:cs.length=m*sz)(h:Reads w ad cs)(len:Nat):(Builtin.firstCells sz m (.slice ad len c)).run P w=.ok cs.toArray w:=by
 by_cases h0:cs=[]
 · subst h0
   have hm:m*sz=0:=by simpa using hl.symm
   cases ad with
   | none=>rfl
   | some a=>simp[Builtin.firstCells,hm,loadCells,loadCellsFrom]
 · obtain⟨b,j,rfl,h2⟩:=h.at (List.length_pos_iff.2 h0)
   exact run_firstCells_some (P:=P) w sz m ⟨b,j,none⟩ len c cs hl (fun i v hv=>by rw[dH];exact h2 i v hv)
end
def EI(P:Program)(e:TypeId)(z:Value)(sz bytes:Nat):Prop:=(P.info? e).map (fun i=>(i.zero,i.size,i.bytes))=some (some z,sz,bytes)
theorem EI.get{P:Program}{e:TypeId}{z:Value}{sz bytes:Nat}(h:EI P e z sz bytes):∃ i,P.info? e=some i/\i.zero=some z/\i.size=sz/\i.bytes=bytes:=by
 unfold EI at h
 cases hq:P.info? e with
 | none=>simp[hq] at h
 | some i=>simp only[hq,Option.map_some,Option.some.injEq,Prod.mk.injEq] at h;exact⟨i,rfl,h⟩
theorem EI.sz{P:Program}{e:TypeId}{z:Value}{sz bytes:Nat}(h:EI P e z sz bytes):gX P e=some sz:=by
 obtain⟨i,h1,_,h2,_⟩:=h.get
 simp[gX,h1,h2]
def Own(e:TypeId)(sz n cap:Nat)(xs:List Value):Obj->Prop:=fun o=>∃ sp:List Value,o=.cells (xs++sp).toArray e (0,0)/\(xs++sp).length=cap*sz/\xs.length=n*sz/\n<=cap
theorem Sl.Own.cells{e:TypeId}{sz n cap:Nat}{xs:List Value}:∀ o,Sl.Own e sz n cap xs o->dy o 0 xs:=by
 rintro o ⟨sp,rfl,_⟩
 exact Y237
theorem Sl.Own.cell{e:TypeId}{sz n cap j:Nat}{v:Value}{xs:List Value}(h:xs[j]?=some v):∀ o,Sl.Own e sz n cap xs o->cellAt o j=some v:=by
 rintro o ⟨sp,rfl,_⟩
 have hj:j<xs.length:=(List.getElem?_eq_some_iff.1 h).1
 simpa [cellAt,List.getElem?_append_left hj] using h
inductive aR:List aL->Nat->(Obj->Prop)->Nat->(Obj->Prop)->List aL->Prop where
 | here {b A b' A' M}:aR (⟨b,A,true⟩::M) b A b' A' (⟨b',A',true⟩::M)
 | there {e M b A b' A' M'}:aR M b A b' A' M'->aR (e::M) b A b' A' (e::M')
section
variable {w0:World} {S:List Nat} {M M':List aL} {w w':World} {b b':Nat} {A A':Obj->Prop}
theorem aR.has(h:aR M b A b' A' M'):Has M b A true:=by
 induction h with
 | here=>exact .here
 | there _ ih=>exact .there ih
theorem aR.Rz(h:aR M b A b A' M'):ki M b A A' M':=by
 generalize hb:b=b1 at h
 have:b=b1:=hb
 clear hb
 suffices ∀ {M M':List aL} {b b1:Nat} {A A':Obj->Prop},aR M b A b1 A' M'->b=b1->ki M b A A' M' by exact this (by rw[<- ‹b=b1›] at h⊢;exact h) rfl
 intro M M' b b1 A A' h e
 induction h with
 | here=>subst e;exact .here
 | there _ ih=>exact .there (ih e)
theorem aR.mem(h:aR M b A b' A' M'):∀ e∈M',e=⟨b',A',true⟩\/e∈M:=by
 induction h with
 | here=>
   intro e he
   simp only[List.mem_cons] at he
   rcases he with rfl|he
   · exact .inl rfl
   · exact .inr (by simp[he])
 | there _ ih=>
   intro e he
   simp only[List.mem_cons] at he
   rcases he with rfl|he
   · exact .inr Y614
   · rcases ih e he with h|h
     · exact .inl h
     · exact .inr (by simp[h])
theorem aR.nodup(h:aR M b A b' A' M')(hn:(M.map aL.b).Nodup)(hb:b' ∉ M.map aL.b):(M'.map aL.b).Nodup:=by
 induction h with
 | here=>
   simp only[List.map_cons,List.nodup_cons,List.mem_cons,not_or] at hn hb⊢
   exact⟨hb.2,hn.2⟩
 | @there e M b A b' A' M' hr ih=>
   simp only[List.map_cons,List.nodup_cons,List.mem_cons,not_or] at hn hb⊢
   refine⟨fun hm=>?_,ih hn.2 hb.2⟩
   obtain⟨x,hx,hxe⟩:=List.mem_map.1 hm
   rcases hr.mem x hx with rfl|hx
   · exact hb.1 hxe
   · exact hn.1 (hxe▸List.mem_map_of_mem hx)
theorem aa.renew(h:aa w0 S M w)(o:Obj)(hr:aR M b A w.heap.size A' M')(hA:A' o)(hw:w'.heap=w.heap.push o)(h1:w'.os=w.os)(h2:w'.tape=w.tape)(h3:w'.output=w.output):aa w0 S M' w':=by
 have hp:=h.push o hA hw h1 h2 h3
 refine⟨hp.aH,hr.nodup h.nodup ?_,fun e he=>?_⟩
 · intro hm
   obtain⟨e,he,hb⟩:=List.mem_map.1 hm
   have:=h.lt he
   omega
 · rcases hr.mem e he with rfl|he
   · exact hp.all _ Y614
   · exact hp.all e (by simp[he])
theorem aa.seen{o:Obj}(ho:w.heap[b]?=some o)(hA:A o):aa w S [⟨b,A,false⟩] w:=⟨pV.refl _ _,by simp,by simp[ho,hA]⟩
theorem aa.one{o:Obj}(ho:w.heap[b]?=some o)(hA:A o):aa w [b] [⟨b,A,true⟩] w:=⟨pV.refl _ _,by simp,by simp[ho,hA]⟩
theorem aa.reads(h:aa w0 S M w){ad:Option Addr}{cs:List Value}(hr:Reads w0 ad cs)(hS:cs≠[]->∀ a,ad=some a->a.block ∉ S):Reads w ad cs:=by
 intro i v hv
 have hcs:cs≠[]:=by rintro rfl;simp at hv
 obtain⟨b,j,h1,h2⟩:=hr i v hv
 have hb:b<w0.heap.size:=block_lt_of_cell h2
 exact⟨b,j,h1,by simpa [World.cell?,h.old hb (hS hcs _ h1)] using h2⟩
end
section
variable {P:Program} {n:Nat} {w0:World} {S:List Nat} {ops:Array Oper} {Q:Exit->Act->World->Prop} {l:List Oper} {E:Env} {M:List aL} {C:World->Prop}
variable {dst:Option Tmp} {d b j:Nat} {t ty e:TypeId} {pos:String} {aft:Array Edge} {g:Option (Nat × Bool)} {v:Value} {x y:Operand} {A A':Obj->Prop} {cs:List Value}
theorem OQ.S8{a:Addr}(hx:ev E x=some (.pointer (some a))):OQ P n E C ⟨dst,.nilCheck x,ty,pos,aft,g⟩ (.pointer (some a)):=
 OQ.run fun c hk w _=>by
  have h1:=hk.eval hx
  simp[execOp,h1]
theorem OQ.len{ad:Option Addr}{k cap:Nat}(hu:P.underlying t=some (.slice e))(hx:ev E x=some (.slice ad k cap)):OQ P n E C ⟨dst,.call ⟨.builtin .len,#[x],#[t]⟩,ty,pos,aft,g⟩ (N k):=
 OQ.run fun a hk w _=>by
  have h1:=hk.eval hx
  have h3:(underlying t).run P w=.ok (.slice e) w:=run_underlying hu w
  simp[execOp,h1,resolve,invoke,builtin,Builtin.len_,Sem.run_bind,h3,goInt]
theorem JF{t':TypeId}{w:World}{ad:Option Addr}{dl dc sl sc:Nat}{r:List Value}(hu:P.underlying t=some (.slice e))(hz:gX P e=some 1)(ho:w.heap[b]?=some (.cells r.toArray ty (0,0)))
  (hl:cs.length=sl) (hr:Reads w ad cs) (h1:∀ v∈cs,v.oneCell'=true) (hj:j+min sl dl<=r.length) :
  ∃ w',(Builtin.copy_ #[t,t'] 0 #[.slice (some ⟨b,j,none⟩) dl dc,.slice ad sl sc]).run P w=.ok (N (min sl dl)) w'/\w'.heap[b]?=some (.cells (r.take j++cs.take (min sl dl)++r.drop (j+min sl dl)).toArray ty (0,0))/\w'.heap.size=w.heap.size/\
    (∀ k,k≠b->w'.heap[k]?=w.heap[k]?)/\w'.os=w.os/\w'.tape=w.tape/\w'.output=w.output:=by
 have hlen:(cs.take (min sl dl)).length=min sl dl:=by simp;omega
 obtain⟨w',r1,r2,r3,r4,r5,r6,r7⟩:=jZ (P:=P) (b:=b) (j:=j) (e:=ty) (cs.take (min sl dl)) 0 w r (fun v hv=>h1 v (List.mem_of_mem_take hv)) ho Y609
 refine⟨w',?_,by rw[hlen] at r2;simpa using r2,r3,r4,r5,r6,r7⟩
 have h3:(underlying t).run P w=.ok (.slice e) w:=run_underlying hu w
 have h4:=uI (P:=P) (m:=min sl dl) (sz:=1) (c:=sc) (by rw[hlen,Nat.mul_one]) (hr.take (min sl dl)) sl
 simp only[Builtin.copy_,Sem.run_bind,Sem.run_pure,h3,Result.andThen_ok,Builtin.lenOf,bR hz,List.getElem?_toArray,List.getElem?_cons_zero,List.getElem?_cons_succ]
 have h5:Nat.min sl dl=min sl dl:=rfl
 rw[h5,h4]
 simp only[Result.andThen_ok,r1]
 rfl
theorem JL.copy{t':TypeId}{ad:Option Addr}{dl dc sl sc:Nat}{r r':List Value}{M':List aL}{te:TypeId}(hu:P.underlying t=some (.slice e))(hz:gX P e=some 1)(hx:ev E x=some (.slice (some ⟨b,j,none⟩) dl dc))(hy:ev E y=some (.slice ad sl sc))
  (hup:ki M b (Row te r) (Row te r') M') (hl:cs.length=sl) (hr:∀ w,aa w0 S M w->Reads w ad cs) (h1:∀ v∈cs,v.oneCell'=true) (hj:j+min sl dl<=r.length) (he:r.take j++cs.take (min sl dl)++r.drop (j+min sl dl)=r') (hd:Nat.blt d n=true)
  (k:JL P n w0 S ops Q l ((d,N (min sl dl))::E) M'):JL P n w0 S ops Q (⟨some d,.call ⟨.builtin .copy,#[x,y],#[t,t']⟩,ty,pos,aft,none⟩::l) E M:=
 ⟨fun a w ha hw=>wpList_plain rfl fun K hK=>by
  obtain⟨o,ho,hAo⟩:=hw.get hup.has
  subst hAo
  obtain⟨w',r1,r2,r3,r4,r5,r6,r7⟩:=JF (P:=P) (t':=t') (dc:=dc) (sc:=sc) (ty:=te) hu hz ho hl (hr w hw) h1 hj
  have r1':(Builtin.copy_ #[t,t'] ty #[.slice (some ⟨b,j,none⟩) dl dc,.slice ad sl sc]).run P w=.ok (N (min sl dl)) w':=r1
  unfold Oper.wp
  simp only[execOp,resolve,invoke,builtin,Sem.run_bind,Sem.run_pure,Result.andThen_ok,List.map_toArray,List.map_cons,List.map_nil,ha.eval hx,ha.eval hy,r1']
  exact hK _ _ (k.go _ _ (ha.put d _ hd) (hw.write hup (he▸rfl) r2 r3 r4 r5 r6 r7))⟩
theorem sB{_t':TypeId}{w:World}{base ad:Option Addr}{nl cap sc:Nat}{i:TypeInfo}(hu:P.underlying t=some (.slice e))(hi:P.info? e=some i)(hc:nl<=cap) :
  (Builtin.append_ #[t,t] ty #[.slice base nl cap,.slice ad 0 sc]).run P w=.ok (.slice base nl cap) w:=by
 have h3:(underlying t).run P w=.ok (.slice e) w:=run_underlying hu w
 cases base <;> cases ad <;> simp[Builtin.append_,run_underlying hu,sizeOf,typeInfo,hi,Builtin.lenOf,Builtin.firstCells,loadCells,loadCellsFrom,hc,storeCells]
theorem JL.append{z:Value}{ad:Option Addr}{sz by' k m cap sc:Nat}{xs:List Value}(M':Nat->Nat->List aL)(hu:P.underlying t=some (.slice e))(hi:EI P e z sz by')(hx:ev E x=some (.slice (some ⟨b,0,none⟩) k cap))(hy:ev E y=some (.slice ad m sc))
  (hup:∀ b' cap',aR M b (Sl.Own e sz k cap xs) b' (Sl.Own e sz (k+m) cap' (xs++cs)) (M' b' cap')) (hl:cs.length=m*sz) (hr:∀ w,aa w0 S M w->Reads w ad cs) (h1:∀ v∈cs,v.oneCell'=true)
  (hzz:z.cells.size=sz) (h0:0<sz) (hsm:(k+m)*by'<=140737488355328) (hsm2:k+m<9223372036854775808) (hd:Nat.blt d n=true)
  (kk:∀ b' cap',JL P n w0 S ops Q l ((d,.slice (some ⟨b',0,none⟩) (k+m) cap')::E) (M' b' cap')):JL P n w0 S ops Q (⟨some d,.call ⟨.builtin .append,#[x,y],#[t,t]⟩,ty,pos,aft,none⟩::l) E M:=
 ⟨fun a w ha hw=>wpList_plain rfl fun K hK=>by
  obtain⟨i,hi1,hi2,hi3,hi4⟩:=hi.get
  obtain⟨o,ho,sp,rfl,hc1,hc2,hc3⟩:=hw.get (hup 0 0).has
  have hru:=hr w hw
  unfold Oper.wp
  simp only[execOp,resolve,invoke,builtin,Sem.run_bind,Sem.run_pure,Result.andThen_ok,List.map_toArray,List.map_cons,List.map_nil,ha.eval hx,ha.eval hy]
  by_cases hm:m=0
  · subst hm
    have hcs:cs=[]:=List.eq_nil_of_length_eq_zero Y626
    subst hcs
    rw[sB (_t':=t) hu hi1 hc3]
    refine hK _ _ ((kk b cap).go _ _ (ha.put d _ hd) (hw.write (hup b cap).Rz (o':=.cells (xs++sp).toArray e (0,0)) ?_ ho rfl (fun _ _=>rfl) rfl rfl rfl))
    exact⟨sp,by simp,by simpa using hc1,by simpa using hc2,by omega⟩
  · have hpos:0<cs.length:=by rw[hl];exact Nat.mul_pos (Nat.pos_of_ne_zero hm) h0
    obtain⟨b2,j2,rfl,hcell⟩:=hru.at hpos
    by_cases hroom:k+m<=cap
    · have hfit:k*i.size+cs.length<=(xs++sp).toArray.size:=by
       rw[hl,hi3,List.size_toArray,hc1,<- Nat.add_mul];exact Nat.mul_le_mul_right _ hroom
      rw[run_append_room (P:=P) w t ty e i hu hi1 b k cap (xs++sp).toArray ho ⟨b2,j2,none⟩ m sc cs (by rw[hl,hi3]) (fun u v hv=>by rw[dH];exact hcell u v hv) h1 hroom hfit]
      refine hK _ _ ((kk b cap).go _ _ (ha.put d _ hd) (hw.write (hup b cap).Rz (o':=.cells ((xs++sp).take (k*i.size)++cs++(xs++sp).drop (k*i.size+cs.length)).toArray e (0,0)) ?_ (setRow_heap w b _ _ e _ ho) Y614 (fun q hq=>setRow_other w b q _ hq) rfl rfl rfl))
      rw[hi3,<- hc2,List.take_left]
      refine⟨(xs++sp).drop (xs.length+cs.length),rfl,?_,by rw[List.length_append,hc2,hl,Nat.add_mul],hroom⟩
      have h7:xs.length+cs.length<=(xs++sp).length:=by rw[hc1,hc2,hl,<- Nat.add_mul];exact Nat.mul_le_mul_right _ hroom
      simp only[List.length_append,List.length_drop] at h7 hc1⊢
      omega
    · have hold:∀ u v,xs[u]?=some v->w.cell? ((⟨b,0,none⟩:Addr).add u)=some v:=fun u v hv=>by
       rw[dH]
       have hu':u<xs.length:=(List.getElem?_eq_some_iff.1 hv).1
       exact Y238
      have hfit:=growslice_fits (need:=k+m) (old:=cap) Y609 hsm
      rw[run_append_grow (P:=P) w t ty e i z hu hi1 hi2 ⟨b,0,none⟩ k cap xs (by rw[hc2,hi3]) hold ⟨b2,j2,none⟩ m sc cs (by rw[hl,hi3]) (fun u v hv=>by rw[dH];exact hcell u v hv) Y609 Y609 Y628]
      have hge:=grownCap_ge w (k+m) cap e
      generalize grownCap w (k+m) cap e=nc at hge
      refine hK _ _ ((kk w.heap.size nc).go _ _ (ha.put d _ hd) (hw.renew (.cells (xs.toArray++cs.toArray++Builtin.zeroCells z.cells (nc-(k+m))) e) (hup _ _) ?_ rfl rfl rfl rfl))
      refine⟨(Builtin.zeroCells z.cells (nc-(k+m))).toList,by simp,?_,by rw[List.length_append,hc2,hl,Nat.add_mul],hge⟩
      have h8:(Builtin.zeroCells z.cells (nc-(k+m))).size=(nc-(k+m))*sz:=by simp[Builtin.zeroCells,hzz]
      simp only[List.length_append,Array.length_toList,h8,hc2,hl,<- Nat.add_mul]
      congr 1
      omega⟩
theorem JL.append_nil{z:Value}{ad:Option Addr}{sz by' m sc:Nat}(hu:P.underlying t=some (.slice e))(hi:EI P e z sz by')(hx:ev E x=some (.slice none 0 0))(hy:ev E y=some (.slice ad m sc))
  (hl:cs.length=m*sz) (hr:∀ w,aa w0 S M w->Reads w ad cs) (hm:0<m)
  (hzz:z.cells.size=sz) (h0:0<sz) (hsm:m*by'<=140737488355328) (hsm2:m<9223372036854775808) (hd:Nat.blt d n=true)
  (kk:∀ b' cap',w0.heap.size<=b'->JL P n w0 S ops Q l ((d,.slice (some ⟨b',0,none⟩) m cap')::E) (⟨b',Sl.Own e sz m cap' cs,true⟩::M)):JL P n w0 S ops Q (⟨some d,.call ⟨.builtin .append,#[x,y],#[t,t]⟩,ty,pos,aft,none⟩::l) E M:=
 ⟨fun a w ha hw=>wpList_plain rfl fun K hK=>by
  obtain⟨i,hi1,hi2,hi3,hi4⟩:=hi.get
  have hru:=hr w hw
  unfold Oper.wp
  simp only[execOp,resolve,invoke,builtin,Sem.run_bind,Sem.run_pure,Result.andThen_ok,List.map_toArray,List.map_cons,List.map_nil,ha.eval hx,ha.eval hy]
  have hpos:0<cs.length:=by rw[hl];exact Nat.mul_pos hm h0
  obtain⟨b2,j2,rfl,hcell⟩:=hru.at hpos
  rw[run_append_nil (P:=P) w t ty e i z hu hi1 hi2 ⟨b2,j2,none⟩ m sc cs (by rw[hl,hi3]) (fun u v hv=>by rw[dH];exact hcell u v hv) hm Y609 (by rw[hi4];omega)]
  have hge:=grownCap_ge w m 0 e
  generalize grownCap w m 0 e=nc at hge
  refine hK _ _ ((kk w.heap.size nc hw.aH.size).go _ _ (ha.put d _ hd) (hw.push (.cells (cs.toArray++Builtin.zeroCells z.cells (nc-m)) e) ?_ rfl rfl rfl rfl))
  refine⟨(Builtin.zeroCells z.cells (nc-m)).toList,by simp,?_,hl,hge⟩
  have h8:(Builtin.zeroCells z.cells (nc-m)).size=(nc-m)*sz:=by simp[Builtin.zeroCells,hzz]
  simp only[List.length_append,Array.length_toList,h8,hl,<- Nat.add_mul]
  congr 1
  omega⟩
structure JA (P:Program) (n:Nat) (w0:World) (S:List Nat) (ops:Array Oper) (Q:Exit->Act->World->Prop) (f:Nat) (done:Array Bool) (E:Env) (M:List aL):Prop where
 go:∀ a w,bF n E a->aa w0 S M w->wpAny P .any ops Q f done a w
theorem lY{Q:Exit->Act->World->Prop}{K:Act->World->Prop}{i:Nat}{o:Oper}{a:Act}{w:World}(ho:ops[i]?=some o)(h:wpList P ops (Exit.then K Q) [o] a w):wpOp P ops Q i K a w:=by
 unfold wpOp
 simp only[ho]
 unfold wpList at h
 split
 · rename_i hw
   rw[if_pos hw] at h
   rcases h with h|h
   · left
     unfold Oper.wp Oper.upon at h⊢
     generalize (execOp a.eval o).run P w=r at h⊢
     cases r with
     | ok nx w'=>cases nx <;> first|exact h|(refine Calls.mono h ?_;rintro(v|c|_) w'' hh <;> exact hh)
     | halt x w'=>cases x <;> exact h
   · exact .inr h
 · rename_i hw
   rw[if_neg hw] at h
   exact h
theorem JC.any{id:Nat}{l:List Oper}(hm:P.follows .mixedOrders=true)(h:JA P n w0 S l.toArray Q l.toArray.size (Array.replicate l.toArray.size false) E M):JC P n w0 S Q (.region id l.toArray true) E M:=
 ⟨fun a _ ha hw=>wp_region_any hm (h.go a _ ha (hw.drawn _))⟩
theorem JA.step{f:Nat}{done:Array Bool}{L:List Nat}(hr:Region.ready .any ops done=L)(hne:L.isEmpty=false)(h:∀ i∈L,∃ o,ops[i]?=some o/\JL P n w0 S ops (Exit.then (fun a' w'=>wpAny P .any ops Q f (done.setIfInBounds i true) a' w') Q) [o] E M) :
  JA P n w0 S ops Q (f+1) done E M:=
 ⟨fun a w ha hw=>⟨fun h0=>(by rw[hr] at h0;subst h0;cases hne),fun i hi=>by
  obtain⟨o,ho,hj⟩:=h i (hr▸hi)
  exact lY ho (hj.go a w ha hw)⟩⟩
theorem JA.done{done:Array Bool}(hr:Region.ready .any ops done=[])(h:JE n w0 S Q .normal E M):JA P n w0 S ops Q 0 done E M:=⟨fun a w ha hw=>⟨hr,h.go a w ha hw⟩⟩
theorem JE.any{f:Nat}{done:Array Bool}(h:JA P n w0 S ops Q f done E M):JE n w0 S (Exit.then (fun a' w'=>wpAny P .any ops Q f done a' w') Q) .normal E M:=⟨h.go⟩
theorem JC.mid{ι:Type}(Ei:ι->Env)(Mi:ι->List aL)(I:ι->Prop){p q:Code}(h:JC P n w0 S (Exit.then (fun a' w'=>∃ i,I i/\bF n (Ei i) a'/\aa w0 S (Mi i) w') Q) p E M)
  (k:∀ i,I i->JC P n w0 S Q q (Ei i) (Mi i)):JC P n w0 S Q (.seq p q) E M:=
 ⟨fun a w ha hw=>wp_seq (wp_mono (h.go a w ha hw) fun e a' w' he=>by
  cases e with
  | normal=>obtain⟨i,hi,h1,h2⟩:=he;exact(k i hi).go a' w' h1 h2
  | exit _=>exact he
  | goto _=>exact he
  | ret=>exact he
  | panic _=>exact he
  | outgrown=>exact he)⟩
theorem JC.join{ι:Type}(Ei:ι->Env)(Mi:ι->List aL)(I:ι->Prop){p q:Code}{Q':Exit->Act->World->Prop}(h:JC P n w0 S (Exit.then (fun a' w'=>∃ i,I i/\bF n (Ei i) a'/\aa w0 S (Mi i) w') Q) p E M)
  (k:∀ i,I i->JC P n w0 S Q' q (Ei i) (Mi i)):JC P n w0 S (Exit.then (q.wp P Q') Q) p E M:=
 ⟨fun a w ha hw=>wp_mono (h.go a w ha hw) fun e a' w' he=>by
  cases e with
  | normal=>obtain⟨i,hi,h1,h2⟩:=he;exact(k i hi).go a' w' h1 h2
  | exit _=>exact he
  | goto _=>exact he
  | ret=>exact he
  | panic _=>exact he
  | outgrown=>exact he⟩
theorem JE.mid{ι:Type}{Ei:ι->Env}{Mi:ι->List aL}{I:ι->Prop}(i:ι)(hi:I i)(hE:af E (Ei i))(hM:aj (Mi i) M) :
  JE n w0 S (Exit.then (fun a' w'=>∃ i,I i/\bF n (Ei i) a'/\aa w0 S (Mi i) w') Q) .normal E M:=
 ⟨fun _ _ ha hw=>⟨i,hi,ha.sub hE,hw.weak hM⟩⟩
end
end Sl
end
section
namespace Sl
section
variable {P:Program} {n:Nat} {w0:World} {S:List Nat} {ops:Array Oper} {Q:Exit->Act->World->Prop} {l:List Oper} {E:Env} {M M':List aL}
variable {d b:Nat} {ty:TypeId} {pos:String} {aft:Array Edge} {v:Value} {A A':Obj->Prop} {f:FuncId} {xs:List Operand} {ats:Array TypeId} {vs:List Value}
variable {t e:TypeId} {x:Operand} {z:Value} {by':Nat}
theorem Pm:Array.range 0=#[]:=by decide
theorem Pn:Array.range 1=#[0]:=by decide
theorem JG:Array.range 3=#[0,1,2]:=by decide
theorem Dh{w:World}(hu:P.underlying t=some (.slice e))(hi:EI P e z 1 by'):(Instr.buildSlice t 0 #[]).run P w=.ok (.slice (some ⟨w.heap.size,0,none⟩) 0 0) { w with heap:=w.heap.push (.cells ([]:List Value).toArray e (0,0)) }:=by
 have h3:(underlying t).run P w=.ok (.slice e) w:=run_underlying hu w
 simp[Instr.buildSlice,Sem.run_bind,h3,bR hi.sz,Instr.fill,newRow,newObj,Sem.run,Pm]
theorem Di{w:World}(hu:P.underlying t=some (.slice e))(hi:EI P e z 1 by')(_hz:z.cells.size=1)(hv:v.cells=#[v]):(Instr.buildSlice t 1 #[(0,v)]).run P w=.ok (.slice (some ⟨w.heap.size,0,none⟩) 1 1) { w with heap:=w.heap.push (.cells [v].toArray e (0,0)) }:=by
 have h3:(underlying t).run P w=.ok (.slice e) w:=run_underlying hu w
 obtain⟨i,h4,h5,_⟩:=hi.get
 simp[Instr.buildSlice,Sem.run_bind,h3,bR hi.sz,zeroValue,typeInfo,h4,h5,Instr.fill,hv,newRow,newObj,Sem.run,Pn]
theorem JL.MO(hu:P.underlying t=some (.slice e))(hi:EI P e z 1 by')(hd:Nat.blt d n=true)
  (k:∀ b,w0.heap.size<=b->JL P n w0 S ops Q l ((d,.slice (some ⟨b,0,none⟩) 0 0)::E) (⟨b,Row e [],true⟩::M)):JL P n w0 S ops Q (⟨some d,.buildSlice t 0 #[],ty,pos,aft,none⟩::l) E M:=
 ⟨fun a w ha hw=>wpList_plain rfl fun K hK=>by
  unfold Oper.wp
  have hm:(#[]:Array (Nat × Operand)).map (fun (i,x)=>(i,a.eval x))=#[]:=by simp
  simp only[execOp,hm,Sem.run_bind,Dh hu hi,Result.andThen_ok]
  exact hK _ _ ((k w.heap.size hw.aH.size).go _ _ (ha.put d _ hd) (hw.push _ rfl rfl rfl rfl rfl))⟩
theorem JL.q9(hu:P.underlying t=some (.slice e))(hi:EI P e z 1 by')(hz:z.cells.size=1)(hx:ev E x=some v)(hv:v.cells=#[v])(hd:Nat.blt d n=true)
  (k:∀ b,w0.heap.size<=b->JL P n w0 S ops Q l ((d,.slice (some ⟨b,0,none⟩) 1 1)::E) (⟨b,Row e [v],true⟩::M)):JL P n w0 S ops Q (⟨some d,.buildSlice t 1 #[(0,x)],ty,pos,aft,none⟩::l) E M:=
 ⟨fun a w ha hw=>wpList_plain rfl fun K hK=>by
  unfold Oper.wp
  have hm:(#[(0,x)]:Array (Nat × Operand)).map (fun (i,x)=>(i,a.eval x))=#[(0,v)]:=by simp[ha.eval hx]
  simp only[execOp,hm,Sem.run_bind,Di hu hi hz hv,Result.andThen_ok]
  exact hK _ _ ((k w.heap.size hw.aH.size).go _ _ (ha.put d _ hd) (hw.push _ rfl rfl rfl rfl rfl))⟩
theorem JL.weak{E':Env}(h:JL P n w0 S ops Q l E' M')(hE:af E E')(hM:aj M' M):JL P n w0 S ops Q l E M:=⟨fun a w ha hw=>h.go a w (ha.sub hE) (hw.weak hM)⟩
variable {C:World->Prop} {dst:Option Tmp} {g:Option (Nat × Bool)} {y:Operand} {t':TypeId}
theorem OQ.S9{a b:Int}(hx:ev E x=some (.int .i64 a))(hy:ev E y=some (.int .i64 b)):OQ P n E C ⟨dst,.binOp .geq t x y t',ty,pos,aft,g⟩ (.bool (decide (b<=a))):=
 OQ.bin hx hy rfl fun _=>lX rfl
theorem OQ.Ta{a b:Int}(hx:ev E x=some (.int .i64 a))(hy:ev E y=some (.int .i64 b)):OQ P n E C ⟨dst,.binOp .lss t x y t',ty,pos,aft,g⟩ (.bool (decide (a<b))):=
 OQ.bin hx hy rfl fun _=>lX rfl
theorem OQ.JH{a b:Int}(hx:ev E x=some (.int .i64 a))(hy:ev E y=some (.int .i64 b))(h1:-9223372036854775808<=a-b)(h2:a-b<9223372036854775808):OQ P n E C ⟨dst,.binOp .sub t x y t',ty,pos,aft,g⟩ (.int .i64 (a-b)):=
 OQ.bin hx hy rfl fun _=>mE (k:=.i64) (show IntKind.i64.wrap (a-b)=a-b from sA h1 h2)
end
end Sl
end
end Go.Proofs.YtdabhneehconeaaGreatDoor
