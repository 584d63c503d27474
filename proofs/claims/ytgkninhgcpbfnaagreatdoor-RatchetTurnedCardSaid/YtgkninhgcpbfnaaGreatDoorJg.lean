/-
  Of no statement by itself: the texts RatR, RatT, RatY, RatU, RatV, RatZ, RatL, RatK, RatDp, RatTl, Plain, Elm, RatX, FraR in one.
  Conditions: each theorem's own.
-/
import Derived.Test.YtgkninhgcpbfnaaGreatDoorJf
import Derived.Laws.StructEq
import Derived.Test.YtgkninhgcpbfnaaGreatDoorProg
import Derived.Test.YtgkninhgcpbfnaaGreatDoorRows
import Derived.ProofKit
import Derived.OpenShut
import Derived.Below
import Derived.Stop.Joined
import Derived.ChangeMaps5
import Derived.Deep.Slices
import Derived.Deep.SlicePairs
import Derived.Test.YtgkninhgcpbfnaaGreatDoorTie
import Derived.SevenTiedAt
import Derived.LaidMore
import Derived.Lay
import Derived.Lib.LaidTab
set_option linter.unusedSimpArgs false
set_option linter.unusedVariables false
namespace Go.Proofs.YtgkninhgcpbfnaaGreatDoor
section
set_option maxRecDepth 10000
open Sl ij mF dW ng
open qv (Bk)
theorem N1 : Tryz.prog.underlying 57=some (.struct (Tryz.prog.fieldsOf 57)):=by kernel_rfl
theorem J4 : Tryz.prog.stoodInHeld 57=false:=by kernel_rfl
theorem Nj : Tryz.prog.eqGuardType Tryz.prog.depth 57=false:=by kernel_rfl
def Am (P : Program) (t a b c : TypeId) (o : Nat) : Bool:=match (P.fieldsOf t).toList with
  | [f0,f1,f2]=>f0.type == a && f1.type == b && f2.type == c && f0.offset == 0 && f1.offset == 32 && f2.offset == o && f0.name != "_" && f1.name != "_" && f2.name != "_"
  | _=>false
theorem C0 {P : Program} {t a b c : TypeId} {o : Nat} (h : Am P t a b c o=true) : ∃ f0 f1 f2,(P.fieldsOf t).toList=[f0,f1,f2]∧f0.type=a∧f1.type=b∧f2.type=c∧f0.offset=0∧f1.offset=32∧f2.offset=o∧¬ f0.name = "_" ∧ ¬ f1.name = "_" ∧ ¬ f2.name = "_" := by
  unfold Am at h
  split at h
  · next f0 f1 f2 e=>
    simp only [Bool.and_eq_true,beq_iff_eq,bne_iff_ne,ne_eq] at h
    obtain ⟨⟨⟨⟨⟨⟨⟨⟨h1,h2⟩,h3⟩,h4⟩,h5⟩,h6⟩,h7⟩,h8⟩,h9⟩:=h
    exact ⟨f0,f1,f2,e,h1,h2,h3,h4,h5,h6,h7,h8,h9⟩
  · cases h
theorem yt (a : Bk) (w : World) (d : Nat) (ha : a.length=32) : (Op.equalIn (d+2) 23 (.agg (a.map U8).toArray) (.agg (a.map U8).toArray)).run Tryz.prog w=.ok true w:=by
  rw [uV,run_equalIn_bytes w d 23 5 32 Tryz.underlying23 Tryz.underlying5 (fun w=>aN j6 w) _ _ (by simpa using ha) (by simpa using ha)]
  simp
theorem Hu (k : Kp) (hk : k.ok) (w : World) : (Op.equalIn 10000 57 (.agg (dZ k).toArray) (.agg (dZ k).toArray)).run Tryz.prog w=.ok true w:=by
  obtain ⟨f0,f1,f2,hf,t0,t1,t2,o0,o1,o2,b0,b1,b2⟩:=C0 (show Am Tryz.prog 57 23 3 23 33=true by kernel_rfl)
  have p0 : ∀ w,(Go.part 23 (dZ k).toArray 0).run Tryz.prog w=.ok (.agg (k.chain.map U8).toArray) w:=fun w=>by
    have:=pY hk
    rw [List.length_map,hk.c] at this
    simp [Go.part,mB aQ,aN aB]
    simpa using this
  have p1 : ∀ w,(Go.part 3 (dZ k).toArray 32).run Tryz.prog w=.ok (N k.num) w:=fun w=>by
    have:=Bx hk
    simp [Go.part,isAgg,run_underlying Tryz.underlying3,this]
  have p2 : ∀ w,(Go.part 23 (dZ k).toArray 33).run Tryz.prog w=.ok (.agg (k.key.map U8).toArray) w:=fun w=>by
    have:=Bz hk
    rw [List.length_map,hk.k] at this
    simp [Go.part,mB aQ,aN aB]
    simpa using this
  have q0:=fun w=>yt k.chain w 9997 hk.c
  have q2:=fun w=>yt k.key w 9997 hk.k
  have q1:=fun w=>run_equalIn_int (P:=Tryz.prog) w 9998 3 .i64 .i64 (k.num : Int) (k.num : Int) Tryz.underlying3
  rw [show (10000 : Nat)=9999+1 from rfl,run_equalIn_struct w 9999 57 _ _ N1 J4,hf]
  simp [Op.eqFields,t0,t1,t2,o0,o1,o2,b0,b1,b2,p0,p1,p2,q0,q1,q2]
section
variable {n : Nat} {E : Env} {C : World→Prop} {dst : Option Tmp} {t t' ty : TypeId} {pos : String} {aft : Array Edge} {g : Option (Nat × Bool)} {x y : Operand}
theorem OQ.Nk {k : Kp} (hk : k.ok) (hx : ev E x=some (.agg (dZ k).toArray)) (hy : ev E y=some (.agg (dZ k).toArray)) : OQ Tryz.prog n E C ⟨dst,.binOp .neq 57 x y t',ty,pos,aft,g⟩ (.bool false):=
  OQ.run fun a ha w _=>by
    have h1:=ha.eval hx
    have h2:=ha.eval hy
    have h4:=fun w=>run_eqGuard_agg (P:=Tryz.prog) (w:=w) .neq 57 x y (dZ k).toArray (dZ k).toArray Nj
    have h5:=fun w=>run_neq_struct (P:=Tryz.prog) (w:=w) 57 (dZ k).toArray (dZ k).toArray
    simp only [execOp,h1,h2,Sem.run_bind,h4,Result.andThen_ok,h5,Hu k hk]
    rfl
end
theorem yu : aL Tryz.prog 14:=⟨_,Tryz.func14,rfl,by kernel_rfl⟩
set_option maxHeartbeats 32000000 in
theorem yw (s : bA) (ka kb : nF) (hs : s.ok) (w : World) (hka : ka.ok w) (hkb : kb.ok w) (ea : ka.l=s.kept) (eb : kb.l=s.kept) (hl : s.kept.length<9223372036854775807) : Calls Tryz.prog 14 [.agg (sec s ka.v).toArray,.agg (sec s kb.v).toArray].toArray w fun e w'=>e=.returned (.bool true)∧Ext w w':=by
  have l1 : (s.root.map U8).length=32:=by rw [List.length_map];exact hs.root
  have l2 : (s.own.map U8).length=32:=by rw [List.length_map];exact hs.own
  have l3 : (s.other.map U8).length=32:=by rw [List.length_map];exact hs.other
  have l4 : (s.send.map U8).length=32:=by rw [List.length_map];exact hs.send
  have l5 : (s.take.map U8).length=32:=by rw [List.length_map];exact hs.take
  have ha : ∀ o,Row 26 (sec s ka.v) o→cellAt o 165=some ka.v:=Row.cell (g7 hs _)
  have hb : ∀ o,Row 26 (sec s kb.v) o→cellAt o 165=some kb.v:=Row.cell (g7 hs _)
  refine enter (n:=101) Tryz.func14 rfl rfl rfl (ah.start w []) ?_
  repeat (first | refine JC.seq ?_ | refine JC.region ?_)
  refine JL.box (r:=sec s ka.v) rfl rfl rfl fun b2 _=>?_
  refine JL.box (r:=sec s kb.v) rfl rfl rfl fun b3 _=>?_
  repeat (first | refine JL.q (by first|(apply OQ.assign;rfl)|(apply OQ.bM;rfl;rfl;rfl;exact (by decide);rfl)) rfl ?_ | refine JC.seq ?_ | refine JC.region ?_ | refine JL.nil ?_ | refine JE.next ?_)
  simp only [List.append]
  repeat (first | refine JL.q (by first|(apply OQ.af (cs:=s.root.map U8);exact aQ;exact aB;rfl;exact (.there .here);exact l1;exact (Row.cells (jH hs _)))|(apply OQ.af (cs:=s.root.map U8);exact aQ;exact aB;rfl;exact .here;exact l1;exact (Row.cells (jH hs _)))|(apply OQ.tQ (r:=s.root) (q:=s.root);exact Tryz.underlying23;exact Tryz.underlying5;exact j6;exact mo;rfl;rfl;exact hs.root;exact hs.root;rfl)|(apply OQ.af (cs:=s.own.map U8);exact aQ;exact aB;rfl;exact (.there .here);exact l2;exact (Row.cells (j7 hs _)))|(apply OQ.af (cs:=s.own.map U8);exact aQ;exact aB;rfl;exact .here;exact l2;exact (Row.cells (j7 hs _)))|(apply OQ.tQ (r:=s.own) (q:=s.own);exact Tryz.underlying23;exact Tryz.underlying5;exact j6;exact mo;rfl;rfl;exact hs.own;exact hs.own;rfl)|(apply OQ.af (cs:=s.other.map U8);exact aQ;exact aB;rfl;exact (.there .here);exact l3;exact (Row.cells (ee hs _)))|(apply OQ.af (cs:=s.other.map U8);exact aQ;exact aB;rfl;exact .here;exact l3;exact (Row.cells (ee hs _)))|(apply OQ.tQ (r:=s.other) (q:=s.other);exact Tryz.underlying23;exact Tryz.underlying5;exact j6;exact mo;rfl;rfl;exact hs.other;exact hs.other;rfl)|(apply OQ.af (cs:=s.send.map U8);exact aQ;exact aB;rfl;exact (.there .here);exact l4;exact (Row.cells (rz hs _)))|(apply OQ.af (cs:=s.send.map U8);exact aQ;exact aB;rfl;exact .here;exact l4;exact (Row.cells (rz hs _)))|(apply OQ.tQ (r:=s.send) (q:=s.send);exact Tryz.underlying23;exact Tryz.underlying5;exact j6;exact mo;rfl;rfl;exact hs.send;exact hs.send;rfl)|(apply OQ.af (cs:=s.take.map U8);exact aQ;exact aB;rfl;exact (.there .here);exact l5;exact (Row.cells (lI hs _)))|(apply OQ.af (cs:=s.take.map U8);exact aQ;exact aB;rfl;exact .here;exact l5;exact (Row.cells (lI hs _)))|(apply OQ.tQ (r:=s.take) (q:=s.take);exact Tryz.underlying23;exact Tryz.underlying5;exact j6;exact mo;rfl;rfl;exact hs.take;exact hs.take;rfl)|(apply OQ.load;exact gv;rfl;exact (.there .here);exact (Row.cell (mE hs _)))|(apply OQ.load;exact gv;rfl;exact .here;exact (Row.cell (mE hs _)))|(apply OQ.load;exact gv;rfl;exact (.there .here);exact (Row.cell (gN hs _)))|(apply OQ.load;exact gv;rfl;exact .here;exact (Row.cell (gN hs _)))|(apply OQ.KF;exact Tryz.underlying4;rfl;rfl)|(apply OQ.load;exact bB;rfl;exact (.there .here);exact (Row.cell (jI hs _)))|(apply OQ.load;exact bB;rfl;exact .here;exact (Row.cell (jI hs _)))|(apply OQ.load;exact bB;rfl;exact (.there .here);exact (Row.cell (dL hs _)))|(apply OQ.load;exact bB;rfl;exact .here;exact (Row.cell (dL hs _)))|(apply OQ.load;exact bB;rfl;exact (.there .here);exact (Row.cell (rA hs _)))|(apply OQ.load;exact bB;rfl;exact .here;exact (Row.cell (rA hs _)))|(apply OQ.wI;rfl;rfl;rfl)|(apply OQ.load;exact jc;rfl;exact (.there .here);exact ha)|(apply OQ.load;exact jc;rfl;exact .here;exact hb)|(apply OQ.len (k:=ka.l.length) (ad:=ka.ad) (cap:=ka.cap);exact Tryz.underlying24;rfl)|(apply OQ.len (k:=kb.l.length) (ad:=kb.ad) (cap:=kb.cap);exact Tryz.underlying24;rfl)|(apply OQ.wI (a:=((ka.l.length : Nat) : Int)) (b:=((kb.l.length : Nat) : Int));rfl;rfl;exact (by rw [ea,eb]))|(apply OQ.fl;rfl;rfl)|(apply OQ.move;rfl)|(apply OQ.bM;rfl;rfl;rfl;exact (by decide);rfl)) rfl ?_ | refine JL.nil ?_ | refine JE.next ?_ | refine JL.aV rfl rfl ?_)
  refine JC.cond_false rfl rfl ?_
  repeat (first | refine JL.q (by (apply OQ.assign;rfl)) rfl ?_ | refine JC.seq ?_ | refine JC.region ?_ | refine JC.block ?_ | refine JC.skip ?_ | refine JL.nil ?_ | refine JE.next ?_)
  refine JC.loop (fun i : Nat=>[(2,Pt b2 0),(3,Pt b3 0),(5,N i)]) (fun _=>[⟨b3,Row 26 (sec s kb.v),true⟩,⟨b2,Row 26 (sec s ka.v),true⟩]) (fun i=>s.kept.length - i) (fun i=>i≤s.kept.length) 0 (Nat.zero_le _) (by repeat (first | exact ai.nil | refine ai.cons _ _ _ rfl ?_)) (an.refl _) ?_
  intro i hi
  rw [← ea] at hi
  repeat (first | refine JL.q (by first|(apply OQ.load;exact jc;rfl;exact (.there .here);exact ha)|(apply OQ.len (k:=ka.l.length) (ad:=ka.ad) (cap:=ka.cap);exact Tryz.underlying24;rfl)|(apply OQ.bN (a:=i) (b:=ka.l.length);rfl;rfl)|(apply OQ.move;rfl)|(apply OQ.bM;rfl;rfl;rfl;exact (by decide);rfl)) rfl ?_ | refine JC.seq ?_ | refine JC.region ?_ | refine JL.nil ?_ | refine JE.next ?_)
  refine JC.cond rfl (fun hc=>?_) (fun hc=>?_)
  · have hi' : i<ka.l.length:=of_decide_eq_true hc
    clear hc
    have hi2 : i<kb.l.length:=by rw [eb,← ea];exact hi'
    obtain ⟨ba,ja,eA,la,cA⟩:=hka.at hi'
    obtain ⟨bb,jb,eB,lb,cB⟩:=hkb.at hi2
    have hok:=hka.all _ (nF.mem hi')
    have hkk : kb.l.getD i mW=ka.l.getD i mW:=by rw [ea,eb]
    rw [hkk] at cB
    have vA : ka.v=.slice (some ⟨ba,ja,none⟩) ka.l.length ka.cap:=by rw [← eA];rfl
    have vB : kb.v=.slice (some ⟨bb,jb,none⟩) kb.l.length kb.cap:=by rw [← eB];rfl
    generalize ka.l.getD i mW=c at cA cB hok
    have hl65:=iz hok
    have ha2:=ha
    have hb2:=hb
    rw [vA] at ha2
    rw [vB] at hb2
    have ha3 : ∀ o,Row 26 (sec s ka.v) o→cellAt o 165=some (.slice (some ⟨ba,ja,none⟩) ka.l.length ka.cap):=by rw [vA];exact ha2
    have hb3 : ∀ o,Row 26 (sec s kb.v) o→cellAt o 165=some (.slice (some ⟨bb,jb,none⟩) kb.l.length kb.cap):=by rw [vB];exact hb2
    repeat (first | refine JC.seq ?_ | refine JC.block ?_ | refine JC.skip ?_ | refine JE.next ?_)
    refine JC.quiet gK (by kernel_rfl) ?_
    repeat (first | refine JQ.q (by first|(apply OQ.load;exact jc;rfl;exact (.there .here);exact ha3)|(apply OQ.load;exact jc;rfl;exact .here;exact hb3)|(apply OQ.kU (i:=i) (len:=ka.l.length) (cap:=ka.cap) (b:=ba) (j:=ja);exact Tryz.underlying24;exact tE;rfl;rfl;exact hi')|(apply OQ.kU (i:=i) (len:=kb.l.length) (cap:=kb.cap) (b:=bb) (j:=jb);exact Tryz.underlying24;exact tE;rfl;rfl;exact hi2)|(apply OQ.cQ (cs:=dZ c);exact LA;rfl;exact (hl65 ▸ tE);exact la;exact (by simp);exact cA)|(apply OQ.cQ (cs:=dZ c);exact LA;rfl;exact (hl65 ▸ tE);exact lb;exact (by simp);exact cB)|(apply OQ.Nk;exact hok;rfl;rfl)|(apply OQ.move;rfl)|(apply OQ.bM;rfl;rfl;rfl;exact (by decide);rfl)) rfl ?_ | refine JQ.nil ?_ | refine JE.next ?_)
    refine JC.cond_false rfl rfl ?_
    repeat (first | refine JL.q (by first|(apply OQ.aY (a:=i) (b:=1);rfl;rfl;exact (by rw [ea] at hi';omega))|(apply OQ.move;rfl)|(apply OQ.assign;rfl)) rfl ?_ | refine JC.region ?_ | refine JC.skip ?_ | refine JL.nil ?_ | refine JE.next ?_ | refine JE.aq ?_)
    exact JE.again (i:=i) (i+1) (by rw [ea] at hi';exact hi') (by rw [ea] at hi';omega) (by repeat (first | exact ai.nil | refine ai.cons _ _ _ rfl ?_)) (an.refl _)
  · repeat (first | refine JL.q (by (apply OQ.assign;rfl)) rfl ?_ | refine JC.seq ?_ | refine JC.region ?_ | refine JC.exit ?_ | refine JL.nil ?_ | refine JE.next ?_ | refine JE.ax ?_ | refine JE.aA ?_)
    refine JC.ret ?_
    skip
    exact JE.aR rfl (RV.tmp rfl) fun w' hw=>⟨rfl,hw.aM⟩
end
section
set_option maxRecDepth 10000
open Sl ij mF dW ng
open qv (Bk)
theorem C1 : aL Tryz.prog 27:=⟨_,Tryz.func27,rfl,by kernel_rfl⟩
set_option maxHeartbeats 4000000 in
theorem FI (a b : aJ) (w : World) (ha : a.ok w) (hb : b.ok w) (hl : a.l.length+b.l.length≤1000000000) :
    Calls Tryz.prog 27 [a.v,b.v].toArray w fun e w'=>∃ x : Nat × Nat,e=.returned (.slice (some ⟨x.1,0,none⟩) (a.l++b.l).length x.2)∧ah w [] [⟨x.1,Sl.aE 5 1 (a.l++b.l).length x.2 ((a.l++b.l).map U8),true⟩] w':=by
  refine enter (n:=12) Tryz.func27 rfl rfl rfl (ah.start w []) ?_
  repeat (first | refine JL.q (by (apply OQ.assign;rfl)) rfl ?_ | refine JC.seq ?_ | refine JC.region ?_ | refine JL.nil ?_ | refine JE.next ?_)
  refine JL.Aw Tryz.underlying27 tW rfl fun b6 _=>?_
  repeat (refine JL.q (by (apply OQ.move;rfl)) rfl ?_)
  refine JL.append (cs:=a.l.map U8) (m:=a.l.length) (ad:=a.ad) (sc:=a.cap) (fun b' cap'=>[⟨b',Sl.aE 5 1 (0+a.l.length) cap' ([]++a.l.map U8),true⟩]) Tryz.underlying27 tW rfl rfl (by intro _ _;repeat (first | exact aZ.here | apply aZ.there)) (by rw [List.length_map,Nat.mul_one]) (fun w' hw'=>(ha.holds hw' rfl).reads) (fun v hv=>by obtain ⟨q,_,rfl⟩:=List.mem_map.1 hv;rfl) rfl (by decide) (by omega) (by omega) rfl fun b7 c7=>?_
  rw [Nat.zero_add,List.nil_append]
  repeat (first | refine JL.q (by first|(apply OQ.move;rfl)|(apply OQ.assign;rfl)) rfl ?_ | refine JC.seq ?_ | refine JC.region ?_ | refine JL.nil ?_ | refine JE.next ?_)
  refine JL.append (cs:=b.l.map U8) (m:=b.l.length) (ad:=b.ad) (sc:=b.cap) (fun b' cap'=>[⟨b',Sl.aE 5 1 (a.l.length+b.l.length) cap' (a.l.map U8++b.l.map U8),true⟩]) Tryz.underlying27 tW rfl rfl (by intro _ _;repeat (first | exact aZ.here | apply aZ.there)) (by rw [List.length_map,Nat.mul_one]) (fun w' hw'=>(hb.holds hw' rfl).reads) (fun v hv=>by obtain ⟨q,_,rfl⟩:=List.mem_map.1 hv;rfl) rfl (by decide) (by omega) (by omega) rfl fun b8 c8=>?_
  rw [← List.map_append,← List.length_append]
  repeat (first | refine JL.q (by (apply OQ.assign;rfl)) rfl ?_ | refine JL.nil ?_ | refine JE.next ?_)
  exact JC.ret (JE.aR rfl (RV.tmp rfl) fun w' hw=>⟨(b8,c8),rfl,hw⟩)
theorem FJ (n : Nat) (h : n<18446744073709551616) : b4 n=[BitVec.ofNat 8 (n / 16777216),BitVec.ofNat 8 (n / 65536),BitVec.ofNat 8 (n / 256),BitVec.ofNat 8 n]:=by
  have e : ∀ k m,m=2 ^ k→((BitVec.ofNat 64 n) >>> k).setWidth 8=BitVec.ofNat 8 (n / m):=fun k m hm=>by
    apply BitVec.eq_of_toNat_eq
    rw [BitVec.toNat_setWidth,BitVec.toNat_ushiftRight,BitVec.toNat_ofNat,BitVec.toNat_ofNat,Nat.mod_eq_of_lt h,Nat.shiftRight_eq_div_pow,hm]
  have h0:=e 24 16777216 rfl
  have h1:=e 16 65536 rfl
  have h2:=e 8 256 rfl
  have h3:=e 0 1 rfl
  rw [Nat.div_one] at h3
  show [((BitVec.ofNat 64 n) >>> 24).setWidth 8,((BitVec.ofNat 64 n) >>> 16).setWidth 8,((BitVec.ofNat 64 n) >>> 8).setWidth 8,((BitVec.ofNat 64 n) >>> 0).setWidth 8]=_
  rw [h0,h1,h2,h3]
theorem uP : aL Tryz.prog 30:=⟨_,Tryz.func30,rfl,by kernel_rfl⟩
set_option maxHeartbeats 8000000 in
theorem yx (root sh : Bk) (h1 : root.length=32) (h2 : sh.length=32) (w : World) :
    Calls Tryz.prog 30 [.agg (root.map U8).toArray,.agg (sh.map U8).toArray].toArray w fun e w'=>e=.returned (.tuple #[.agg ((cr root sh).map U8).toArray,.agg ((dO root sh).map U8).toArray])∧Ext w w':=by
  have hk : ∀ (b1 b2 : Nat) (w : World),aJ.ok w ⟨some ⟨b1,0,none⟩,32,root⟩→aJ.ok w ⟨some ⟨b2,0,none⟩,32,sh⟩→Calls Tryz.prog 44 [.slice (some ⟨b1,0,none⟩) 32 32,.slice (some ⟨b2,0,none⟩) 32 32,.string Ab,N 2].toArray w fun e w'=>∃ x : Nat × Nat,e=.returned (.slice (some ⟨x.1,0,none⟩) 2 x.2)∧ah w [] [⟨x.1,Sl.aE 23 32 2 x.2 ((l7 root sh).map U8),true⟩] w':=fun b1 b2 w ho1 ho2=>by
    have:=uj ⟨some ⟨b1,0,none⟩,32,root⟩ ⟨some ⟨b2,0,none⟩,32,sh⟩ Ab 2 (by decide) w ho1 ho2 (by rw [h1];decide) (by rw [h2];decide) (by decide)
    rwa [show aJ.v ⟨some ⟨b1,0,none⟩,32,root⟩=.slice (some ⟨b1,0,none⟩) 32 32 by simp [aJ.v,h1],show aJ.v ⟨some ⟨b2,0,none⟩,32,sh⟩=.slice (some ⟨b2,0,none⟩) 32 32 by simp [aJ.v,h2]] at this
  have hlT:=mS root sh
  have hlA : ((cr root sh).map U8).length=32:=by rw [List.length_map];exact fG _ _
  have hlC : ((dO root sh).map U8).length=32:=by rw [List.length_map];exact eV _ _
  have r0 : (((l7 root sh).map U8).drop (0+0 * 32)).take ((cr root sh).map U8).length=(cr root sh).map U8:=LD hlT
  have r1 : (((l7 root sh).map U8).drop (0+1 * 32)).take ((dO root sh).map U8).length=(dO root sh).map U8:=Is hlT
  generalize cr root sh=tA at *
  generalize dO root sh=tC at *
  generalize l7 root sh=tB at *
  have hlB : (tB.map U8).length=64:=by rw [List.length_map];exact hlT
  refine enter (n:=16) Tryz.func30 rfl rfl rfl (ah.start w []) ?_
  repeat (first | refine JC.seq ?_ | refine JC.region ?_)
  refine JL.box (r:=root.map U8) rfl rfl rfl fun b2 _=>?_
  refine JL.box (r:=sh.map U8) rfl rfl rfl fun b3 _=>?_
  refine JL.alloc hU rfl fun b4 _=>?_
  refine JL.alloc hU rfl fun b5 _=>?_
  repeat (first | refine JC.seq ?_ | refine JL.nil ?_ | refine JE.next ?_)
  let vs : Nat→(Nat × Nat)→Value:=fun j y=>match j with
    | 0=>.slice (some ⟨b2,0,none⟩) 32 32
    | 1=>.slice (some ⟨b3,0,none⟩) 32 32
    | 2=>.slice (some ⟨y.1,0,none⟩) 2 y.2
    | 3=>.slice (some ⟨y.1,0,none⟩) 2 y.2
    | _=>N 0
  let Ms : Nat→(Nat × Nat)→List aG:=fun j y=>match j with
    | 2=>[⟨y.1,Sl.aE 23 32 2 y.2 (tB.map U8),true⟩]
    | 4=>[⟨b5,Row 23 ((List.replicate 32 (0 : B)).map U8),true⟩]
    | 5=>[⟨b4,Row 23 ((List.replicate 32 (0 : B)).map U8),true⟩]
    | 6=>[⟨b3,Row 23 (sh.map U8),true⟩]
    | 7=>[⟨b2,Row 23 (root.map U8),true⟩]
    | _=>[]
  refine JC.grow (g:=⟨[(2,Pt b2 0),(3,Pt b3 0),(4,Pt b4 0),(5,Pt b5 0)],8,vs,Ms,(fun j=>match j with | 2=>[(0,7),(1,8)] | 3=>[(2,9)] | _=>[]),(fun j=>match j with | 2=>[7,6] | _=>[]),(fun j=>match j with | _=>[]),(fun j=>match j with | 3=>some 2 | _=>none)⟩) [(3,6)] [2,5,4] gK (by repeat (first | exact ai.nil | refine ai.cons _ _ _ rfl ?_)) ?_ (by kernel_rfl) (by kernel_rfl) (by kernel_rfl) ?_ ?_
  · exact an.refl _
  · refine ⟨?_,?_,?_,?_,trivial⟩
    · (intro xx EF MF Q kk;(try refine JL.aV rfl rfl ?_);exact JL.q (OQ.jZ Tryz.underlying23 j6 rfl) rfl (JL.nil (kk default nofun)))
    · (intro xx EF MF Q kk;(try refine JL.aV rfl rfl ?_);exact JL.q (OQ.jZ Tryz.underlying23 j6 rfl) rfl (JL.nil (kk default nofun)))
    · (intro xx EF MF Q kk;exact JL.bV (ι:=Nat × Nat) (vs:=[.slice (some ⟨b2,0,none⟩) 32 32,.slice (some ⟨b3,0,none⟩) 32 32,.string Ab,N 2]) (fun x=>.slice (some ⟨x.1,0,none⟩) 2 x.2) (fun x=>[⟨x.1,Sl.aE 23 32 2 x.2 (tB.map U8),true⟩]) rL rfl rfl (fun i=>by simp) (fun w' hw'=>hk b2 b3 w' (fQ hw' .here rfl (Nat.le_of_eq h1)) (fQ hw' (.there .here) rfl (Nat.le_of_eq h2))) fun b=>JL.nil (kk b nofun))
    · (intro xx EF MF Q kk;(try refine JL.aV rfl rfl ?_);exact JL.q (OQ.assign rfl) rfl (JL.nil (kk (xx 2) (fun k h=>by cases h;rfl))))
  · intro xx hx
    have e1:=hx 3 2 (by decide) rfl
    show JE _ _ _ _ _ [(6,.slice (some ⟨(xx 3).1,0,none⟩) 2 (xx 3).2),(2,Pt b2 0),(3,Pt b3 0),(4,Pt b4 0),(5,Pt b5 0)] [⟨(xx 2).1,Sl.aE 23 32 2 (xx 2).2 (tB.map U8),true⟩,⟨b4,Row 23 ((List.replicate 32 (0 : B)).map U8),true⟩,⟨b5,Row 23 ((List.replicate 32 (0 : B)).map U8),true⟩]
    rw [e1]
    generalize xx 2=xk
    obtain ⟨bk,ck⟩:=xk
    try dsimp only
    clear hx e1 xx vs Ms
    repeat (first | refine JC.seq ?_ | refine JE.next ?_)
    let vs : Nat→Nat→Value:=fun j y=>match j with
      | 0=>.slice (some ⟨bk,0,none⟩) 2 ck
      | 1=>Pt bk 0
      | 2=>.agg (tA.map U8).toArray
      | 3=>.slice (some ⟨bk,0,none⟩) 2 ck
      | 4=>Pt bk (0+1 * 32)
      | 5=>.agg (tC.map U8).toArray
      | _=>N 0
    let Ms : Nat→Nat→List aG:=fun j y=>match j with
      | 6=>[⟨b4,Row 23 (tA.map U8),true⟩]
      | 7=>[⟨b5,Row 23 (tC.map U8),true⟩]
      | 8=>[⟨bk,Sl.aE 23 32 2 ck (tB.map U8),true⟩]
      | 9=>[⟨b4,Row 23 ((List.replicate 32 (0 : B)).map U8),true⟩]
      | 10=>[⟨b5,Row 23 ((List.replicate 32 (0 : B)).map U8),true⟩]
      | _=>[]
    refine JC.grow (g:=⟨[(4,Pt b4 0),(5,Pt b5 0),(6,.slice (some ⟨bk,0,none⟩) 2 ck)],11,vs,Ms,(fun j=>match j with | 1=>[(0,10)] | 2=>[(1,11)] | 4=>[(3,13)] | 5=>[(4,14)] | 6=>[(2,12)] | 7=>[(5,15)] | _=>[]),(fun j=>match j with | 2=>[8] | 5=>[8] | 6=>[9] | 7=>[10] | _=>[]),(fun j=>match j with | 6=>[9] | 7=>[10] | _=>[]),(fun j=>match j with | _=>none)⟩) [] [6,7] gK (by repeat (first | exact ai.nil | refine ai.cons _ _ _ rfl ?_)) ?_ (by kernel_rfl) (by kernel_rfl) (by kernel_rfl) ?_ ?_
    · exact an.refl _
    · refine ⟨?_,?_,?_,?_,?_,?_,?_,?_,trivial⟩
      · (intro xx EF MF Q kk;(try refine JL.aV rfl rfl ?_);exact JL.q (OQ.move rfl) rfl (JL.nil (kk default nofun)))
      · (intro xx EF MF Q kk;(try refine JL.aV rfl rfl ?_);exact JL.q (OQ.kU (sz:=32) (i:=0) Tryz.underlying90 aB rfl rfl (by decide)) rfl (JL.nil (kk default nofun)))
      · (intro xx EF MF Q kk;(try refine JL.aV rfl rfl ?_);exact JL.q (OQ.af (cs:=tA.map U8) aQ aB rfl .here hlA (oW r0 (by rw [hlA,hlB];decide))) rfl (JL.nil (kk default nofun)))
      · (intro xx EF MF Q kk;(try refine JL.aV rfl rfl ?_);exact JL.q (OQ.move rfl) rfl (JL.nil (kk default nofun)))
      · (intro xx EF MF Q kk;(try refine JL.aV rfl rfl ?_);exact JL.q (OQ.kU (sz:=32) (i:=1) Tryz.underlying90 aB rfl rfl (by decide)) rfl (JL.nil (kk default nofun)))
      · (intro xx EF MF Q kk;(try refine JL.aV rfl rfl ?_);exact JL.q (OQ.af (cs:=tC.map U8) aQ aB rfl .here hlC (oW r1 (by rw [hlC,hlB];decide))) rfl (JL.nil (kk default nofun)))
      · (intro xx EF MF Q kk;exact JL.ag (cs:=tA.map U8) aB rfl rfl hlA (aU _) .here (by simp) (JL.nil (kk default nofun)))
      · (intro xx EF MF Q kk;exact JL.ag (cs:=tC.map U8) aB rfl rfl hlC (aU _) .here (by simp) (JL.nil (kk default nofun)))
    · intro xx hx
      show JE _ _ _ _ _ [(4,Pt b4 0),(5,Pt b5 0),(6,.slice (some ⟨bk,0,none⟩) 2 ck)] [⟨b4,Row 23 (tA.map U8),true⟩,⟨b5,Row 23 (tC.map U8),true⟩]
      clear hx xx vs Ms
      repeat (refine JE.next ?_)
      refine JC.ret (JE.gI rfl (RV.av aQ aB rfl .here hlA Row.all) (RV.av aQ aB rfl (.there .here) hlC Row.all) ?_)
      exact fun w' hw=>⟨rfl,hw.aM⟩
end
section
open Sl
namespace ng
open qv iu
structure wC where
  chain : Bk
  num : Int
  key : Bk
def J5 (k : wC) : List Value:=k.chain.map U8++(I k.num::k.key.map U8)
structure wC.ok (k : wC) : Prop where
  c : k.chain.length=32
  k : k.key.length=32
theorem Hv {k : wC} (h : k.ok) : (J5 k).length=65:=by simp [J5,h.c,h.k]
def tG (l : List wC) : List (List Value):=l.map J5
theorem yy (l : List wC) : (tG l).length=l.length:=List.length_map ..
theorem yz {l : List wC} (h : ∀ k ∈ l,k.ok) : ∀ c ∈ tG l,c.length=65:=by
  intro c hc
  obtain ⟨k,hk,rfl⟩:=List.mem_map.1 hc
  exact Hv (h k hk)
def yA : wC:=⟨List.replicate 32 0,0,List.replicate 32 0⟩
theorem Hw (l : List wC) {i : Nat} (hi : i<l.length) : (tG l).getD i []=J5 (l.getD i yA):=by
  simp [tG,List.getD_eq_getElem?_getD,hi]
structure FK where
  root : Bk
  own : Bk
  other : Bk
  bZ : Bool
  takes : Bool
  send : Bk
  take : Bk
  sent : Int
  taken : Int
  prev : Int
  kept : List wC
structure FK.ok (s : FK) : Prop where
  root : s.root.length=32
  own : s.own.length=32
  other : s.other.length=32
  send : s.send.length=32
  take : s.take.length=32
  kept : ∀ k ∈ s.kept,k.ok
def Nl (s : FK) (kv : Value) : List Value:=s.root.map U8++(s.own.map U8++(s.other.map U8++([.bool s.bZ]++([.bool s.takes]++(s.send.map U8++(s.take.map U8++([I s.sent]++([I s.taken]++([I s.prev]++[kv])))))))))
def C2 (a : Int) : Prop:=0≤a∧a≤2147483647
structure wo (s : FK) : Prop where
  sent : C2 s.sent
  taken : C2 s.taken
  prev : C2 s.prev
  len : s.kept.length≤2000
  send : s.bZ=false→s.send=dU
  take : s.takes=false→s.take=dU
  other : s.bZ=false→s.takes=false→s.other=dU
  num : ∀ i,i<s.kept.length→C2 (s.kept.getD i yA).num
  one : ∀ i,i<s.kept.length→∀ k,k<i→¬ ((s.kept.getD k yA).num=(s.kept.getD i yA).num∧(s.kept.getD k yA).chain=(s.kept.getD i yA).chain)
def wC.nat (k : wC) : Kp:=⟨k.chain,k.num.toNat,k.key⟩
def FK.nat (s : FK) : bA:=⟨s.root,s.own,s.other,s.bZ,s.takes,s.send,s.take,s.sent.toNat,s.taken.toNat,s.prev.toNat,s.kept.map wC.nat⟩
theorem BF {a : Int} (h : C2 a) : I a=N a.toNat:=by
  unfold I N
  rw [Int.toNat_of_nonneg h.1]
theorem wC.LO {k : wC} (h : C2 k.num) : J5 k=dZ k.nat:=by
  unfold J5 dZ wC.nat
  rw [BF h]
theorem wo.cells {s : FK} (h : wo s) (v : Value) : Nl s v=sec s.nat v:=by
  unfold Nl sec FK.nat
  dsimp only
  rw [BF h.sent,BF h.taken,BF h.prev]
theorem wo.kept {s : FK} (h : wo s) : tG s.kept=aX s.nat.kept:=by
  unfold tG aX FK.nat
  dsimp only
  rw [List.map_map]
  apply List.map_congr_left
  intro k hk
  obtain ⟨i,hi,rfl⟩:=List.mem_iff_getElem.1 hk
  have:=h.num i hi
  rw [List.getD_eq_getElem?_getD,List.getElem?_eq_getElem hi] at this
  exact wC.LO this
end ng
open ng
structure wq where
  ad : Option Addr
  cap : Nat
  l : List wC
def wq.v (s : wq) : Value:=.slice s.ad s.l.length s.cap
structure wq.ok (w : World) (s : wq) : Prop where
  len : s.l.length≤s.cap
  reads : Reads w s.ad (tG s.l).flatten
  all : ∀ k ∈ s.l,k.ok
structure LW where
  s : FK
  k : wq
def LW.v (a : LW) : Value:=.agg (Nl a.s a.k.v).toArray
structure LW.ok (w : World) (a : LW) : Prop where
  s : a.s.ok
  e : a.k.l=a.s.kept
  k : a.k.ok w
end
section
set_option maxRecDepth 10000
open Sl ij mF dW ng
open qv (Bk)
theorem wq.ok.at {w : World} {s : wq} (h : s.ok w) {i : Nat} (hi : i<s.l.length) : ∃ b j,s.ad=some ⟨b,j,none⟩∧b<w.heap.size∧∀ k u,(J5 (s.l.getD i yA))[k]?=some u→w.cell? ⟨b,j+i * 65+k,none⟩=some u:=by
  have hl : (tG s.l).flatten.length=s.l.length * 65:=by rw [dX (yz h.all),yy]
  have h0 : 0<(tG s.l).flatten.length:=by omega
  obtain ⟨b,j,e,hc⟩:=h.reads.at h0
  refine ⟨b,j,e,?_,fun k u hu=>?_⟩
  · obtain ⟨v,hv⟩ : ∃ v,(tG s.l).flatten[0]?=some v:=⟨_,List.getElem?_eq_getElem h0⟩
    exact block_lt_of_cell (hc 0 v hv)
  · have hat:=ru (i:=i) (yz h.all) (by rw [yy];exact hi)
    rw [Hw _ hi] at hat
    rw [← hat,List.getElem?_take] at hu
    split at hu
    · rw [List.getElem?_drop] at hu
      rw [Nat.add_assoc]
      exact hc _ u hu
    · cases hu
theorem wq.mem {s : wq} {i : Nat} (hi : i<s.l.length) : s.l.getD i yA ∈ s.l:=by
  rw [List.getD_eq_getElem?_getD,List.getElem?_eq_getElem hi]
  exact List.getElem_mem hi
section
variable {n : Nat} {E : Env} {C : World→Prop} {dst : Option Tmp} {t t' ty : TypeId} {pos : String} {aft : Array Edge} {g : Option (Nat × Bool)} {x y : Operand}
theorem OQ.LP {r q : Bk} {c : Bool} (hr : r.length=32) (hq : q.length=32) (hx : ev E x=some (.agg (r.map U8).toArray)) (hy : ev E y=some (.agg (q.map U8).toArray)) (h : decide (r=q)=c) : OQ Tryz.prog n E C ⟨dst,.binOp .neq 23 x y t',ty,pos,aft,g⟩ (.bool (!c)):=
  h ▸ OQ.L8 Tryz.underlying23 Tryz.underlying5 j6 mo hx hy hr hq
theorem OQ.LQ {r q : Bk} {c : Bool} (hr : r.length=32) (hq : q.length=32) (hx : ev E x=some (.agg (r.map U8).toArray)) (hy : ev E y=some (.agg (q.map U8).toArray)) (h : decide (r=q)=c) : OQ Tryz.prog n E C ⟨dst,.binOp .eql 23 x y t',ty,pos,aft,g⟩ (.bool c):=
  h ▸ OQ.L7 Tryz.underlying23 Tryz.underlying5 j6 mo hx hy hr hq
end
end
section
set_option maxRecDepth 10000
open Sl ij mF dW ng
open qv (Bk)
theorem yB (s : bA) (k : nF) (hs : s.ok) (he : k.l=s.kept) (hk0 : s.kept.length≤1000000) (hst : s.sent≤2147483648) (hpv : s.prev≤2147483648) (side p : aJ) (hsl : side.l.length≤1000000) (hpl : p.l.length≤1000000) (w : World) (hG : g9 w) (hQ : GQ w) (hk : k.ok w) (hside : side.ok w) (hp : p.ok w) :
    Calls Tryz.prog 18 [.agg (sec s k.v).toArray,side.v,p.v].toArray w fun e w'=>∃ r : LN (jA s side.l p.l),e=.returned (.tuple #[.agg (sec (jA s side.l p.l).1 (aC r.q (jA s side.l p.l).1.kept.length)).toArray,aC r.x (jA s side.l p.l).2.1.length,N (jA s side.l p.l).2.2])∧ah w [] [] w':=
  (yq s k hs he hk0 hst hpv side p hsl hpl w hG hQ hk hside hp).mono fun _ _ ⟨r,e,h⟩=>⟨r,e,h.weak (an.nil _)⟩
def sU : nF:=⟨none,0,[]⟩
theorem jW (w : World) : sU.ok w:=⟨Nat.le_refl _,Reads.nil _ _,nofun⟩
def tf : Bk:=5::List.replicate 31 0
def mV : Bk:=1::List.replicate 31 0
theorem tH : aL Tryz.prog 6:=⟨_,Tryz.func6,rfl,by kernel_rfl⟩
set_option maxHeartbeats 16000000 in
theorem wu (w : World) (hG : g9 w) (hQ : GQ w) : Calls Tryz.prog 6 ([] : List Value).toArray w fun e w'=>e=.returned (.bool true)∧Ext w w':=by
  have c1:=fun w'=>sB mV rfl w'
  have hY : (aH mV (oR 9)).length=32:=iS _
  generalize aH mV (oR 9)=Y at c1 hY
  have c2:=fun w'=>sS tf mV Y rfl rfl hY w'
  have c3:=fun (w' : World) (h1 : g9 w')=>uO tf mV Y Y rfl rfl hY hY w' h1
  have s2:=nZ tf mV rfl rfl
  have s1:=pT tf mV Y rfl hY
  have e2 : jA (dI tf mV) [] []=(dI tf mV,[],13):=FH rfl _ _
  have e1 : jA (de tf mV Y) [] [1]=(ya (de tf mV Y),sD (de tf mV Y) [] [1],0):=wm rfl (by show ¬ 2147483647≤0;decide) _ _
  have hl1 : (sD (de tf mV Y) [] [1]).length=73:=by
    rw [sD,List.length_append,kf (show (sC (de tf mV Y)).chain.length=32 from ie _)]
    show 40+(jk _ _ x9 _ _).length=73
    rw [iB]
    rfl
  have s3:=v8 s1
  have d2:=fun (w' : World) (h1 : g9 w') (h2 : GQ w')=>yB (dI tf mV) sU s2 rfl (by show (0 : Nat)≤_;decide) (by show (0 : Nat)≤_;decide) (by show (0 : Nat)≤_;decide) iW iW (by show (0 : Nat)≤_;decide) (by show (0 : Nat)≤_;decide) w' h1 h2 (jW _) (mC _) (mC _)
  have d1:=fun (b : Nat) (w' : World) (h1 : g9 w') (h2 : GQ w') (h3 : aJ.ok w' ⟨some ⟨b,0,none⟩,1,[1]⟩)=>yB (de tf mV Y) sU s1 rfl (by show (0 : Nat)≤_;decide) (by show (0 : Nat)≤_;decide) (by show (0 : Nat)≤_;decide) iW ⟨some ⟨b,0,none⟩,1,[1]⟩ (by show (0 : Nat)≤_;decide) (by show (1 : Nat)≤_;decide) w' h1 h2 (jW _) (mC _) h3
  have n2:=fun (v : Value)=>ay s2 v
  have n3:=fun (v : Value)=>ay s3 v
  have n1:=ay s1 aP
  have i1:=Ir (a:=mV) (b:=Y) rfl
  have lY : (Y.map U8).length=32:=by rw [List.length_map,hY]
  rw [show iW.l=[] from rfl,e2] at d2
  dsimp only at d1
  rw [show iW.l=[] from rfl,e1] at d1
  clear e1 e2
  have k2 : (dI tf mV).kept.length=0:=rfl
  have k3 : (ya (de tf mV Y)).kept.length=0:=rfl
  simp only [k2] at d2
  simp only [k3,hl1] at d1
  generalize dI tf mV=S2 at *
  generalize ya (de tf mV Y)=S3 at *
  generalize de tf mV Y=S1 at *
  generalize sD S1 [] [1]=Z at *
  refine enter (n:=47) Tryz.func6 rfl rfl rfl (ah.start w []) ?_
  repeat (first | refine JL.q (by (apply OQ.assign;rfl)) rfl ?_ | refine JC.seq ?_ | refine JC.region ?_ | refine JL.nil ?_ | refine JE.next ?_)
  refine JL.q (OQ.pure (v:=.agg (mV.map U8).toArray) rfl rfl (by kernel_rfl)) rfl ?_
  repeat (refine JL.q (by (apply OQ.au (vs:=[.agg (mV.map U8).toArray]);exact pS;rfl;exact (fun w' _=>c1 w'))) rfl ?_)
  refine JL.alloc JU rfl fun b1 _=>?_
  refine JL.ag (cs:=(mV++Y).map U8) x7 rfl rfl (by rw [List.length_map,List.length_append,hY];rfl) (aU _) .here rfl ?_
  repeat (first | refine JC.seq ?_ | refine JC.region ?_ | refine JL.nil ?_ | refine JE.next ?_)
  refine JL.q (OQ.pure (v:=.agg (tf.map U8).toArray) rfl rfl (by kernel_rfl)) rfl ?_
  have lP : ((mV++Y).map U8).length=64:=by rw [List.length_map,List.length_append,hY];rfl
  repeat (refine JL.q (by first|(apply OQ.af (cs:=(mV++Y).map U8);exact Fb;exact x7;rfl;exact .here;exact lP;exact Row.all)|(apply OQ.au (vs:=[.agg (tf.map U8).toArray,.agg ((mV++Y).map U8).toArray]);exact qu;rfl;exact (fun w' _=>c2 w'))) rfl ?_)
  refine JL.alloc uH rfl fun b2 _=>?_
  refine JL.ag (cs:=sec S2 aP) dV rfl rfl (n2 _) (bw rfl) .here (ay br _) ?_
  repeat (first | refine JL.q (by (apply OQ.af (cs:=sec S2 aP);exact iy;exact dV;rfl;exact .here;exact (n2 _);exact Row.all)) rfl ?_ | refine JC.seq ?_ | refine JC.region ?_ | refine JL.nil ?_ | refine JE.next ?_)
  refine JL.bV (ι:=LN (S2,[],13)) (vs:=[.agg (sec S2 aP).toArray,iW.v,iW.v]) (fun r=>.tuple #[.agg (sec S2 (aC r.q 0)).toArray,aC r.x 0,N 13]) (fun _=>[]) pZ rfl rfl (fun _=>nofun) (fun w' hw'=>d2 w' (hG.aM hw'.aM (by simp)) (hQ.aM hw'.aM (by simp))) ?_
  rintro ⟨q2,x2,_,_⟩
  try dsimp only
  simp only [List.nil_append]
  obtain ⟨v2,hv2,hvo2⟩ : ∃ v,aC q2 0=v∧v.oneCell'=true:=⟨_,rfl,by cases q2 <;> rfl⟩
  rw [hv2]
  repeat (refine JL.q (by first|(apply OQ.extract;rfl;rfl)|(apply OQ.move;rfl)) rfl ?_)
  refine JL.alloc uH rfl fun b3 _=>?_
  refine JL.ag (cs:=sec S2 v2) dV rfl rfl (n2 _) (bw hvo2) .here (ay br _) ?_
  repeat (first | refine JL.q (by (apply OQ.assign;rfl)) rfl ?_ | refine JC.seq ?_ | refine JC.region ?_ | refine JL.nil ?_ | refine JE.next ?_)
  refine JL.q (OQ.pure (v:=.agg (tf.map U8).toArray) rfl rfl (by kernel_rfl)) rfl ?_
  repeat (refine JL.q (by first|(apply OQ.af (cs:=(mV++Y).map U8);exact Fb;exact x7;rfl;exact (.there (.there .here));exact lP;exact Row.all)|(apply OQ.af (cs:=Y.map U8);exact aQ;exact aB;rfl;exact (.there (.there .here));exact lY;exact (Row.cells i1))|(apply OQ.au (vs:=[.agg (tf.map U8).toArray,.agg ((mV++Y).map U8).toArray,.agg (Y.map U8).toArray]);exact sR;rfl;exact (fun w' hw'=>c3 w' (hG.aM hw'.aM (by simp))))|(apply OQ.bM;rfl;rfl;rfl;exact (by decide);rfl)) rfl ?_)
  refine JL.fh (v:=U8 (1 : BitVec 8)) Tryz.underlying27 tW rfl rfl rfl rfl fun bl _=>?_
  refine JL.bV (ι:=LN (S3,Z,0)) (vs:=[.agg (sec S1 aP).toArray,iW.v,.slice (some ⟨bl,0,none⟩) 1 1]) (fun r=>.tuple #[.agg (sec S3 (aC r.q 0)).toArray,aC r.x 73,N 0]) (fun _=>[]) pZ rfl rfl (fun _=>nofun) (fun w' hw'=>d1 bl w' (hG.aM hw'.aM (by simp)) (hQ.aM hw'.aM (by simp)) (fQ (l:=[1]) hw' .here rfl (Nat.le_refl _))) ?_
  rintro ⟨q3,x3,_,hx3⟩
  try dsimp only
  simp only [List.nil_append]
  obtain ⟨v3,hv3,hvo3⟩ : ∃ v,aC q3 0=v∧v.oneCell'=true:=⟨_,rfl,by cases q3 <;> rfl⟩
  rw [hv3]
  obtain ⟨a2,c2',hy2⟩ : ∃ a c,aC x2 0=.slice a 0 c:=by cases x2 <;> exact ⟨_,_,rfl⟩
  obtain ⟨a3,c3',hy3⟩ : ∃ a c,aC x3 73=.slice a 73 c:=by
    cases x3 with
    | none=>exact absurd (hx3 rfl) (fun h=>by have h' : Z=[]:=h;rw [h'] at hl1;cases hl1)
    | some r=>exact ⟨_,_,rfl⟩
  rw [hy2,hy3]
  repeat (refine JL.q (by first|(apply OQ.extract;rfl;rfl)|(apply OQ.move;rfl)) rfl ?_)
  refine JL.alloc uH rfl fun b6 _=>?_
  refine JL.ag (cs:=sec S3 v3) dV rfl rfl (n3 _) (bw hvo3) .here (ay br _) ?_
  repeat (first | refine JL.q (by first|(apply OQ.Dt;rfl;rfl;rfl)|(apply OQ.len (k:=0);exact Tryz.underlying27;rfl)|(apply OQ.len (k:=73);exact Tryz.underlying27;rfl)|(apply OQ.fJ;rfl;rfl)|(apply OQ.move;rfl)|(apply OQ.assign;rfl)) rfl ?_ | refine JC.seq ?_ | refine JC.region ?_ | refine JL.nil ?_ | refine JE.next ?_ | refine JL.aV rfl rfl ?_)
  exact JC.ret (JE.aR rfl (RV.tmp rfl) fun w' hw=>⟨rfl,hw.aM⟩)
end
section
set_option maxRecDepth 10000
open Sl ij mF dW ng
open qv (Bk)
theorem It (a b c d : BitVec 8) : iu.cv [a,b,c,d]=16777216 * a.toNat+65536 * b.toNat+256 * c.toNat+d.toNat:=by
  simp only [iu.cv,List.foldl]
  omega
theorem sV : aL Tryz.prog 24:=⟨_,Tryz.func24,rfl,by kernel_rfl⟩
set_option maxHeartbeats 8000000 in
theorem uQ (s : aJ) (h4 : s.l.length=4) (w : World) (hs : s.ok w) : Calls Tryz.prog 24 [s.v].toArray w fun e w'=>e=.returned (N (iu.cv s.l))∧Ext w w':=by
  obtain ⟨b,j,eA,cA⟩:=hs.reads.at (by rw [List.length_map];omega)
  obtain ⟨ad,cap,l⟩:=s
  dsimp only at h4 eA cA
  subst eA
  match l,h4 with
  | [a0,a1,a2,a3],_=>
  have g0:=cA 0 _ rfl
  have g1:=cA 1 _ rfl
  have g2:=cA 2 _ rfl
  have g3:=cA 3 _ rfl
  have hb : b<w.heap.size:=block_lt_of_cell g0
  have b0:=a0.isLt
  have b1:=a1.isLt
  have b2:=a2.isLt
  have b3:=a3.isLt
  rw [It]
  refine enter (n:=25) Tryz.func24 rfl rfl rfl (ah.start w []) ?_
  repeat (first | refine JL.q (by (apply OQ.assign;rfl)) rfl ?_ | refine JC.seq ?_ | refine JC.region ?_ | refine JL.nil ?_ | refine JE.next ?_)
  refine JC.quiet gK (by kernel_rfl) ?_
  repeat (first | refine JQ.q (by first|(apply OQ.g5 (i:=0) (len:=4) (cap:=cap) (b:=b) (j:=j);exact Tryz.underlying27;exact j6;rfl;rfl;exact (by decide))|(apply OQ.g5 (i:=1) (len:=4) (cap:=cap) (b:=b) (j:=j);exact Tryz.underlying27;exact j6;rfl;rfl;exact (by decide))|(apply OQ.g5 (i:=2) (len:=4) (cap:=cap) (b:=b) (j:=j);exact Tryz.underlying27;exact j6;rfl;rfl;exact (by decide))|(apply OQ.g5 (i:=3) (len:=4) (cap:=cap) (b:=b) (j:=j);exact Tryz.underlying27;exact j6;rfl;rfl;exact (by decide))|(apply OQ.bR;exact F1;rfl;exact hb;exact (by simp);exact g0)|(apply OQ.bR;exact F1;rfl;exact hb;exact (by simp);exact g1)|(apply OQ.bR;exact F1;rfl;exact hb;exact (by simp);exact g2)|(apply OQ.bR;exact F1;rfl;exact hb;exact (by simp);exact g3)|(apply OQ.AB;exact Tryz.underlying5;exact Tryz.underlying3;rfl)|(apply OQ.iJ (a:=16777216) (b:=a0.toNat);rfl;rfl;exact (by omega))|(apply OQ.iJ (a:=65536) (b:=a1.toNat);rfl;rfl;exact (by omega))|(apply OQ.iJ (a:=256) (b:=a2.toNat);rfl;rfl;exact (by omega))|(apply OQ.move;rfl)|(apply OQ.assign;rfl)|(apply OQ.aY;rfl;rfl;exact (by (try simp only []);omega))) rfl ?_ | refine JQ.nil ?_ | refine JE.next ?_)
  refine JC.ret (JE.aR rfl (RV.tmp rfl) ?_)
  exact fun w' hw=>⟨rfl,hw.aM⟩
theorem Iu {s : aJ} {lo k hi : Nat} (h : hi≤s.l.length) (hk : lo+k=hi) : aJ.v ⟨(s.snd lo).ad,(s.snd lo).cap,(s.l.drop lo).take k⟩=.slice (if s.cap=lo then s.ad else s.ad.map (·.add (lo * 1))) (hi - lo) (s.cap - lo):=by
  show Value.slice _ ((s.l.drop lo).take k).length _=_
  rw [List.length_take,List.length_drop,Nat.min_eq_left (by omega),show hi - lo=k by omega]
  rfl
theorem FL {s : aJ} {w : World} (h : s.ok w) {lo k : Nat} (hl : lo≤s.l.length) : aJ.ok w ⟨(s.snd lo).ad,(s.snd lo).cap,(s.l.drop lo).take k⟩:=by
  have h1:=h.snd lo hl
  refine ⟨Nat.le_trans (by show ((s.l.drop lo).take k).length≤(s.l.drop lo).length;rw [List.length_take];omega) h1.len,fun i v hv=>h1.reads i v ?_⟩
  rw [List.map_take,List.getElem?_take] at hv
  split at hv
  · exact hv
  · cases hv
theorem C3 (p m : Nat) : Tryz.prog.built 32 ([1,2].zip [N p,N m])=some (hdc ⟨dU,p,m⟩).toArray:=by
  have h : Tryz.prog.built 32 ([1,2].zip [N p,N m])=Instr.fill (fun i=>#[(0,32),(32,1),(33,1)][i]?) (hdc bO).toArray [(1,N p),(2,N m)]:=by kernel_rfl
  rw [h,dF (off:=32) (sz:=1) (cs:=[N p]) rfl rfl rfl (by simp [hdc,bO,dU]),dF (off:=33) (sz:=1) (cs:=[N m]) rfl rfl rfl (by simp [hdc,bO,dU])]
  rfl
def C4 (z : Bk) (i : Nat) : Bk:=z.take i++List.replicate (32 - i) 0
theorem BG {z : Bk} {i : Nat} (hz : 32≤z.length) (hi : i≤32) : (C4 z i).length=32:=by
  unfold C4
  rw [List.length_append,List.length_take,List.length_replicate,Nat.min_eq_left (by omega)]
  omega
theorem Hx {z : Bk} {i : Nat} (hz : 32≤z.length) (hi : i<32) (p m : Nat) : (hdc ⟨C4 z i,p,m⟩).set (0+i) (U8 (z.getD i 0))=hdc ⟨C4 z (i+1),p,m⟩:=by
  have hl:=BG hz (Nat.le_of_lt hi)
  have e : (C4 z i).set i (z.getD i 0)=C4 z (i+1):=by
    unfold C4
    have h1 : (z.take i).length=i:=by rw [List.length_take,Nat.min_eq_left (by omega)]
    rw [show 32 - i=(32 - (i+1))+1 by omega,List.replicate_succ,List.set_append_right _ _ (by omega),h1,Nat.sub_self,List.set_cons_zero,List.take_add_one,List.getElem?_eq_getElem (by omega),List.getD_eq_getElem?_getD,List.getElem?_eq_getElem (by omega)]
    simp only [Option.getD_some,Option.toList_some,List.append_assoc,List.singleton_append,List.cons_append,List.nil_append]
  unfold hdc
  dsimp only
  rw [Nat.zero_add,List.set_append_left _ _ (by rw [List.length_map,hl];exact hi),← e,List.map_set]
theorem An : aL Tryz.prog 10:=⟨_,Tryz.func10,rfl,by kernel_rfl⟩
set_option maxHeartbeats 16000000 in
theorem C5 (z : aJ) (w : World) (hz : z.ok w) (hl : z.l.length≤1000000) :
    Calls Tryz.prog 10 [z.v].toArray w fun e w'=>∃ q : yo (dj z.l),e=.returned (.tuple #[.agg (hdc (ej z.l)).toArray,aC q.1 (dj z.l).length,N (en z.l)])∧ah w [] (bS 5 q.1 ((dj z.l).map U8)) w':=by
  have hz34 : (hdc bO).length=34:=rfl
  refine enter (n:=43) Tryz.func10 rfl rfl rfl (ah.start w []) ?_
  repeat (first | refine JC.seq ?_ | refine JC.region ?_)
  refine JL.alloc JX rfl fun b2 _=>?_
  by_cases h40 : z.l.length<40
  · have hv : dy z.l=none:=by rw [dy,if_pos h40]
    have e1 : ej z.l=bO:=by rw [ej,hv]
    have e2 : dj z.l=[]:=by rw [dj,hv]
    have e3 : en z.l=3:=by rw [en,hv]
    rw [e1,e2,e3]
    repeat (first | refine JL.q (by first|(apply OQ.len (k:=z.l.length) (ad:=z.ad) (cap:=z.cap);exact Tryz.underlying27;rfl)|(apply OQ.ig (a:=z.l.length) (b:=40);rfl;rfl;exact h40)|(apply OQ.move;rfl)|(apply OQ.assign;rfl)) rfl ?_ | refine JC.seq ?_ | refine JC.region ?_ | refine JL.nil ?_ | refine JE.next ?_)
    refine JC.cond_true rfl rfl ?_
    repeat (first | refine JC.seq ?_ | refine JC.region ?_)
    refine JL.q (OQ.pure (v:=.agg (hdc bO).toArray) rfl rfl (by kernel_rfl)) rfl ?_
    refine JL.ag (cs:=hdc bO) qt rfl rfl hz34 (fE _) .here hz34 ?_
    repeat (first | refine JL.q (by (apply OQ.assign;rfl)) rfl ?_ | refine JL.nil ?_ | refine JE.next ?_)
    refine JC.ret ?_
    repeat (refine JE.aK ?_)
    exact JE.jG rfl (RV.av CI qt rfl .here hz34 Row.all) (RV.tmp rfl) (RV.tmp rfl) fun w' hw=>⟨⟨none,fun _=>rfl⟩,rfl,hw.weak (.nil _)⟩
  repeat (first | refine JL.q (by first|(apply OQ.len (k:=z.l.length) (ad:=z.ad) (cap:=z.cap);exact Tryz.underlying27;rfl)|(apply OQ.gM (a:=z.l.length) (b:=40);rfl;rfl;exact h40)|(apply OQ.move;rfl)|(apply OQ.assign;rfl)) rfl ?_ | refine JC.seq ?_ | refine JC.region ?_ | refine JL.nil ?_ | refine JE.next ?_)
  refine JC.cond_false rfl rfl ?_
  repeat (first | refine JC.seq ?_ | refine JC.skip ?_ | refine JE.next ?_)
  have v1:=Iu (s:=z) (lo:=32) (k:=4) (hi:=36) (by omega) rfl
  have v2:=Iu (s:=z) (lo:=36) (k:=4) (hi:=40) (by omega) rfl
  have o1:=fun (w' : World) (h : z.ok w')=>FL h (lo:=32) (k:=4) (by omega)
  have o2:=fun (w' : World) (h : z.ok w')=>FL h (lo:=36) (k:=4) (by omega)
  have c1:=fun (w' : World) (h : z.ok w')=>uQ _ (by show ((z.l.drop 32).take 4).length=4;rw [List.length_take,List.length_drop];omega) w' (o1 w' h)
  have c2:=fun (w' : World) (h : z.ok w')=>uQ _ (by show ((z.l.drop 36).take 4).length=4;rw [List.length_take,List.length_drop];omega) w' (o2 w' h)
  rw [v1] at c1
  rw [v2] at c2
  dsimp only at c1 c2
  have hcap:=hz.len
  have hv : dy z.l=if 2147483647<iu.cv ((z.l.drop 32).take 4)∨2147483647<iu.cv ((z.l.drop 36).take 4) then none else some (⟨z.l.take 32,iu.cv ((z.l.drop 32).take 4),iu.cv ((z.l.drop 36).take 4)⟩,z.l.drop 40):=by rw [dy,if_neg h40]
  generalize hp : iu.cv ((z.l.drop 32).take 4)=p at *
  generalize hm : iu.cv ((z.l.drop 36).take 4)=m at *
  have hhb:=C3 p m
  have hz34p : (hdc ⟨dU,p,m⟩).length=34:=rfl
  let vs : Nat→Nat→Value:=fun j y=>match j with
    | 0=>z.v
    | 1=>.slice (if z.cap=32 then z.ad else z.ad.map (·.add (32 * 1))) (36 - 32) (z.cap - 32)
    | 2=>N p
    | 3=>z.v
    | 4=>.slice (if z.cap=36 then z.ad else z.ad.map (·.add (36 * 1))) (40 - 36) (z.cap - 36)
    | 5=>N m
    | 6=>.agg (hdc ⟨dU,p,m⟩).toArray
    | 7=>Pt y 0
    | _=>N 0
  let Ms : Nat→Nat→List aG:=fun j y=>match j with
    | 7=>[⟨y,Row 32 (hdc bO),true⟩]
    | 8=>[⟨y,Row 32 (hdc ⟨dU,p,m⟩),true⟩]
    | 9=>[⟨b2,Row 32 (hdc bO),true⟩]
    | _=>[]
  refine JC.grow (g:=⟨[(0,z.v),(2,Pt b2 0)],10,vs,Ms,(fun j=>match j with | 1=>[(0,11)] | 2=>[(1,12)] | 4=>[(3,14)] | 5=>[(4,15)] | 6=>[(2,13),(5,16)] | 8=>[(7,5),(6,17)] | _=>[]),(fun j=>match j with | 8=>[7] | _=>[]),(fun j=>match j with | 8=>[7] | _=>[]),(fun j=>match j with | 8=>some 7 | _=>none)⟩) [(7,5)] [8,9] gK (by repeat (first | exact ai.nil | refine ai.cons _ _ _ rfl ?_)) ?_ (by kernel_rfl) (by kernel_rfl) (by kernel_rfl) ?_ ?_
  · exact an.refl _
  · refine ⟨?_,?_,?_,?_,?_,?_,?_,?_,?_,trivial⟩
    · (intro xx EF MF Q kk;(try refine JL.aV rfl rfl ?_);exact JL.q (OQ.move rfl) rfl (JL.nil (kk default nofun)))
    · (intro xx EF MF Q kk;(try refine JL.aV rfl rfl ?_);exact JL.q (OQ.ot (sz:=1) (lo:=32) (hi:=36) (len:=z.l.length) (cap:=z.cap) (ad:=z.ad) Tryz.underlying27 j6 rfl rfl rfl (by decide) (by omega)) rfl (JL.nil (kk default nofun)))
    · (intro xx EF MF Q kk;(try refine JL.aV rfl rfl ?_);exact JL.q (OQ.au (vs:=[.slice (if z.cap=32 then z.ad else z.ad.map (·.add (32 * 1))) (36 - 32) (z.cap - 32)]) sV rfl (fun w' hw'=>c1 w' (hz.holds hw' rfl))) rfl (JL.nil (kk default nofun)))
    · (intro xx EF MF Q kk;(try refine JL.aV rfl rfl ?_);exact JL.q (OQ.move rfl) rfl (JL.nil (kk default nofun)))
    · (intro xx EF MF Q kk;(try refine JL.aV rfl rfl ?_);exact JL.q (OQ.ot (sz:=1) (lo:=36) (hi:=40) (len:=z.l.length) (cap:=z.cap) (ad:=z.ad) Tryz.underlying27 j6 rfl rfl rfl (by decide) (by omega)) rfl (JL.nil (kk default nofun)))
    · (intro xx EF MF Q kk;(try refine JL.aV rfl rfl ?_);exact JL.q (OQ.au (vs:=[.slice (if z.cap=36 then z.ad else z.ad.map (·.add (36 * 1))) (40 - 36) (z.cap - 36)]) sV rfl (fun w' hw'=>c2 w' (hz.holds hw' rfl))) rfl (JL.nil (kk default nofun)))
    · (intro xx EF MF Q kk;(try refine JL.aV rfl rfl ?_);exact JL.q (OQ.mu (cs:=hdc ⟨dU,p,m⟩) [1,2] [.tmp 13,.tmp 16] (vs:=[N p,N m]) rfl rfl hhb) rfl (JL.nil (kk default nofun)))
    · (intro xx EF MF Q kk;exact JL.alloc JX rfl fun b0 _=>JL.nil (kk b0 nofun))
    · (intro xx EF MF Q kk;exact JL.ag (cs:=hdc ⟨dU,p,m⟩) qt rfl rfl hz34p (fE _) .here hz34 (JL.nil (kk (xx 7) (fun k h=>by cases h;rfl))))
  · intro xx hx
    have e8 : xx 8=xx 7:=hx 8 7 (by decide) rfl
    show JE _ _ _ _ _ [(5,Pt (xx 7) 0),(0,z.v),(2,Pt b2 0)] [⟨xx 8,Row 32 (hdc ⟨dU,p,m⟩),true⟩,⟨b2,Row 32 (hdc bO),true⟩]
    rw [e8]
    generalize xx 7=b5
    clear hx e8 xx vs Ms c1 c2 o1 o2 v1 v2
    repeat (first | refine JL.q (by (apply OQ.assign;rfl)) rfl ?_ | refine JC.seq ?_ | refine JC.region ?_ | refine JC.block ?_ | refine JL.nil ?_ | refine JE.next ?_)
    obtain ⟨bz,jz,eZ,cZ⟩:=hz.reads.at (by rw [List.length_map];omega)
    have vZ : z.v=.slice (some ⟨bz,jz,none⟩) z.l.length z.cap:=by rw [← eZ];rfl
    have hbz : bz<w.heap.size:=by
      obtain ⟨v,hv⟩ : ∃ v,(z.l.map U8)[0]?=some v:=⟨_,List.getElem?_eq_getElem (by rw [List.length_map];omega)⟩
      exact block_lt_of_cell (cZ 0 v hv)
    have h32 : (32 : Nat)≤z.l.length:=by omega
    rw [vZ]
    refine JC.loop (fun i : Nat=>[(0,.slice (some ⟨bz,jz,none⟩) z.l.length z.cap),(2,Pt b2 0),(5,Pt b5 0),(6,N i)]) (fun i=>[⟨b5,Row 32 (hdc ⟨C4 z.l i,p,m⟩),true⟩,⟨b2,Row 32 (hdc bO),true⟩]) (fun i=>32 - i) (fun i=>i≤32) 0 (Nat.zero_le _) (by repeat (first | exact ai.nil | refine ai.cons _ _ _ rfl ?_)) (an.refl _) ?_
    intro i hi
    repeat (first | refine JL.q (by first|(apply OQ.bN (a:=i) (b:=32);rfl;rfl)|(apply OQ.move;rfl)) rfl ?_ | refine JC.seq ?_ | refine JC.region ?_ | refine JL.nil ?_ | refine JE.next ?_)
    refine JC.cond rfl (fun hc=>?_) (fun hc=>?_)
    · have hi' : i<32:=of_decide_eq_true hc
      clear hc
      have hil : i<z.l.length:=by omega
      have g0 : (z.l.map U8)[i]?=some (U8 (z.l.getD i 0)):=by rw [List.getElem?_map,List.getElem?_eq_getElem hil,List.getD_eq_getElem?_getD,List.getElem?_eq_getElem hil];rfl
      have g1:=cZ i _ g0
      have hset:=Hx h32 hi' p m
      have hlc:=j9 (h:=⟨C4 z.l i,p,m⟩) (BG h32 hi)
      repeat (first | refine JL.q (by first|(apply OQ.g5 (i:=i) (len:=z.l.length) (cap:=z.cap) (b:=bz) (j:=jz);exact Tryz.underlying27;exact j6;rfl;rfl;exact hil)|(apply OQ.Kx (i:=i) (len:=32) (b:=b5) (j:=0);exact Tryz.underlying23;exact j6;rfl;rfl;exact hi')|(apply OQ.bR;exact F1;rfl;exact hbz;exact (by simp);exact g1)|(apply OQ.move;rfl)|(apply OQ.bM;rfl;rfl;rfl;exact (by decide);rfl)) rfl ?_ | refine JC.seq ?_ | refine JC.region ?_ | refine JC.block ?_ | refine JC.skip ?_ | refine JE.next ?_)
      refine JL.az (r:=hdc ⟨C4 z.l i,p,m⟩) (r':=hdc ⟨C4 z.l (i+1),p,m⟩) j6 rfl rfl rfl rfl .here (by rw [hlc];omega) hset ?_
      repeat (first | refine JL.q (by first|(apply OQ.aY (a:=i) (b:=1);rfl;rfl;exact (by omega))|(apply OQ.move;rfl)|(apply OQ.assign;rfl)) rfl ?_ | refine JC.region ?_ | refine JL.nil ?_ | refine JE.next ?_ | refine JE.aq ?_)
      exact JE.again (i:=i) (i+1) hi' (by show 32 - (i+1)<32 - i;omega) (by repeat (first | exact ai.nil | refine ai.cons _ _ _ rfl ?_)) (an.refl _)
    have hi' : i=32:=by have:=of_decide_eq_false hc;omega
    subst hi'
    clear hc hi
    have hch : C4 z.l 32=z.l.take 32:=by unfold C4;simp
    rw [hch]
    have hlc : (z.l.take 32).length=32:=by rw [List.length_take,Nat.min_eq_left (by omega)]
    generalize hcc : z.l.take 32=c at *
    have hr1 : ∀ o,Row 32 (hdc ⟨c,p,m⟩) o→cellAt o 32=some (I p):=Row.cell (lJ hlc)
    have hr2 : ∀ o,Row 32 (hdc ⟨c,p,m⟩) o→cellAt o 33=some (I m):=Row.cell (ke hlc)
    have hl34:=j9 (h:=⟨c,p,m⟩) hlc
    rw [← vZ]
    obtain ⟨g1,hg1⟩ : ∃ g,decide ((2147483647 : Int)<(p : Int))=g:=⟨_,rfl⟩
    obtain ⟨g2,hg2⟩ : ∃ g,decide ((2147483647 : Int)<(m : Int))=g:=⟨_,rfl⟩
    obtain ⟨gg,hgg⟩ : ∃ g,(g1 || g2)=g:=⟨_,rfl⟩
    cases gg
    case true=>
      have hv2 : dy z.l=none:=by
        rw [hv,if_pos]
        rcases g1 with _ | _
        · obtain rfl : g2=true:=hgg
          have:=of_decide_eq_true hg2
          exact .inr (by omega)
        · have:=of_decide_eq_true hg1
          exact .inl (by omega)
      have e1 : ej z.l=bO:=by rw [ej,hv2]
      have e2 : dj z.l=[]:=by rw [dj,hv2]
      have e3 : en z.l=3:=by rw [en,hv2]
      rw [e1,e2,e3]
      cases g1
      case' false=>
        obtain rfl : g2=true:=hgg
      all_goals
        repeat (first | refine JL.q (by first|(apply OQ.load;exact bB;rfl;exact .here;exact hr1)|(apply OQ.load;exact bB;rfl;exact .here;exact hr2)|(apply OQ.pA (b:=2147483647);rfl;rfl;exact hg1)|(apply OQ.pA (b:=2147483647);rfl;rfl;exact hg2)|(apply OQ.fJ;rfl;rfl)|(apply OQ.fl;rfl;rfl)|(apply OQ.move;rfl)|(apply OQ.bM;rfl;rfl;rfl;exact (by decide);rfl)) rfl ?_ | refine JC.seq ?_ | refine JC.region ?_ | refine JC.exit ?_ | refine JL.nil ?_ | refine JE.next ?_ | refine JE.ax ?_ | refine JE.aA ?_ | refine JL.aV rfl rfl ?_ | refine JL.lu rfl rfl rfl rfl ?_)
        refine JC.cond_true rfl rfl ?_
        repeat (first | refine JC.seq ?_ | refine JC.region ?_)
        refine JL.q (OQ.pure (v:=.agg (hdc bO).toArray) rfl rfl (by kernel_rfl)) rfl ?_
        refine JL.ag (cs:=hdc bO) qt rfl rfl hz34 (fE _) (.there .here) hz34 ?_
        repeat (first | refine JL.q (by (apply OQ.assign;rfl)) rfl ?_ | refine JL.nil ?_ | refine JE.next ?_)
        refine JC.ret ?_
        repeat (refine JE.aK ?_)
        exact JE.jG rfl (RV.av CI qt rfl (.there .here) hz34 Row.all) (RV.tmp rfl) (RV.tmp rfl) fun w' hw=>⟨⟨none,fun _=>rfl⟩,rfl,hw.weak (.nil _)⟩
    obtain ⟨rfl,rfl⟩ : g1=false∧g2=false:=by simpa using hgg
    have hv2 : dy z.l=some (⟨c,p,m⟩,z.l.drop 40):=by rw [hv,if_neg (by have:=of_decide_eq_false hg1;have:=of_decide_eq_false hg2;omega)]
    have e1 : ej z.l=⟨c,p,m⟩:=by rw [ej,hv2]
    have e2 : dj z.l=z.l.drop 40:=by rw [dj,hv2]
    have e3 : en z.l=0:=by rw [en,hv2]
    rw [e1,e2,e3]
    have zo:=hz.snd 40 (by omega)
    have zl : (z.snd 40).l=z.l.drop 40:=rfl
    rw [← zl]
    have zll : (z.snd 40).l.length≤1000000:=by rw [zl,List.length_drop];omega
    repeat (first | refine JL.q (by first|(apply OQ.load;exact bB;rfl;exact .here;exact hr1)|(apply OQ.load;exact bB;rfl;exact .here;exact hr2)|(apply OQ.pA (b:=2147483647);rfl;rfl;exact hg1)|(apply OQ.pA (b:=2147483647);rfl;rfl;exact hg2)|(apply OQ.fl;rfl;rfl)|(apply OQ.move;rfl)|(apply OQ.bM;rfl;rfl;rfl;exact (by decide);rfl)) rfl ?_ | refine JC.seq ?_ | refine JC.region ?_ | refine JC.exit ?_ | refine JL.nil ?_ | refine JE.next ?_ | refine JE.ax ?_ | refine JE.aA ?_ | refine JL.aV rfl rfl ?_)
    refine JC.cond_false rfl rfl ?_
    repeat (first | refine JC.seq ?_ | refine JC.skip ?_ | refine JE.next ?_)
    let vs : Nat→(Nat × Nat)→Value:=fun j y=>match j with
      | 0=>.agg (hdc ⟨c,p,m⟩).toArray
      | 1=>.slice (some ⟨y.1,0,none⟩) 0 0
      | 2=>z.v
      | 3=>(z.snd 40).v
      | 4=>.slice (some ⟨y.1,0,none⟩) (z.snd 40).l.length y.2
      | 6=>.slice (some ⟨y.1,0,none⟩) (z.snd 40).l.length y.2
      | 7=>N 0
      | _=>N 0
    let Ms : Nat→(Nat × Nat)→List aG:=fun j y=>match j with
      | 1=>[⟨y.1,Sl.aE 5 1 0 0 [],true⟩]
      | 4=>[⟨y.1,Sl.aE 5 1 (z.snd 40).l.length y.2 ((z.snd 40).l.map U8),true⟩]
      | 5=>[⟨b2,Row 32 (hdc ⟨c,p,m⟩),true⟩]
      | 8=>[⟨b5,Row 32 (hdc ⟨c,p,m⟩),true⟩]
      | 9=>[⟨b2,Row 32 (hdc bO),true⟩]
      | _=>[]
    refine JC.grow (g:=⟨[(0,z.v),(2,Pt b2 0),(5,Pt b5 0)],10,vs,Ms,(fun j=>match j with | 3=>[(2,40)] | 4=>[(1,39),(3,41)] | 5=>[(0,38)] | 6=>[(4,42)] | _=>[]),(fun j=>match j with | 0=>[8] | 4=>[1] | 5=>[9] | _=>[]),(fun j=>match j with | 4=>[1] | 5=>[9] | _=>[]),(fun j=>match j with | 6=>some 4 | _=>none)⟩) [(6,3),(7,4)] [5,4] gK (by repeat (first | exact ai.nil | refine ai.cons _ _ _ rfl ?_)) ?_ (by kernel_rfl) (by kernel_rfl) (by kernel_rfl) ?_ ?_
    · exact an.refl _
    · refine ⟨?_,?_,?_,?_,?_,?_,?_,?_,trivial⟩
      · (intro xx EF MF Q kk;(try refine JL.aV rfl rfl ?_);exact JL.q (OQ.af (cs:=hdc ⟨c,p,m⟩) CI qt rfl .here hl34 Row.all) rfl (JL.nil (kk default nofun)))
      · (intro xx EF MF Q kk;exact JL.Aw Tryz.underlying27 tW rfl fun b0 _=>JL.nil (kk (b0,0) nofun))
      · (intro xx EF MF Q kk;(try refine JL.aV rfl rfl ?_);exact JL.q (OQ.move rfl) rfl (JL.nil (kk default nofun)))
      · (intro xx EF MF Q kk;(try refine JL.aV rfl rfl ?_);exact JL.q (OQ.snd (s:=z) (m:=40) Tryz.underlying27 j6 rfl rfl (by omega)) rfl (JL.nil (kk default nofun)))
      · (intro xx EF MF Q kk;exact JL.append (cs:=(z.snd 40).l.map U8) (m:=(z.snd 40).l.length) (ad:=(z.snd 40).ad) (sc:=(z.snd 40).cap) (xs:=[]) (fun b' cap'=>⟨b',Sl.aE 5 1 (0+(z.snd 40).l.length) cap' ([]++(z.snd 40).l.map U8),true⟩::MF) Tryz.underlying27 tW rfl rfl (fun _ _=>.here) (by rw [List.length_map,Nat.mul_one]) (fun w' hw'=>(zo.holds hw' rfl).reads) (fun v hv=>by obtain ⟨q,_,rfl⟩:=List.mem_map.1 hv;rfl) rfl (by decide) (by omega) (by omega) rfl fun b' cap'=>by simp only [Nat.zero_add];exact JL.nil (kk (b',cap') nofun))
      · (intro xx EF MF Q kk;exact JL.ag (cs:=hdc ⟨c,p,m⟩) qt rfl rfl hl34 (fE _) .here hz34 (JL.nil (kk default nofun)))
      · (intro xx EF MF Q kk;(try refine JL.aV rfl rfl ?_);exact JL.q (OQ.assign rfl) rfl (JL.nil (kk (xx 4) (fun k h=>by cases h;rfl))))
      · (intro xx EF MF Q kk;(try refine JL.aV rfl rfl ?_);exact JL.q (OQ.assign rfl) rfl (JL.nil (kk default nofun)))
    · intro xx hx
      have e6 : xx 6=xx 4:=hx 6 4 (by decide) rfl
      show JE _ _ _ _ _ [(3,.slice (some ⟨(xx 6).1,0,none⟩) (z.snd 40).l.length (xx 6).2),(4,N 0),(0,z.v),(2,Pt b2 0),(5,Pt b5 0)] [⟨b2,Row 32 (hdc ⟨c,p,m⟩),true⟩,⟨(xx 4).1,Sl.aE 5 1 (z.snd 40).l.length (xx 4).2 ((z.snd 40).l.map U8),true⟩]
      rw [e6]
      generalize xx 4=x
      obtain ⟨bx,cx⟩:=x
      clear hx e6 xx vs Ms
      try dsimp only
      repeat (refine JE.next ?_)
      refine JC.ret ?_
      skip
      refine JE.jG rfl (RV.av CI qt rfl .here hl34 Row.all) (RV.tmp rfl) (RV.tmp rfl) fun w' hw=>⟨⟨some (bx,cx),nofun⟩,rfl,?_⟩
      show ah w [] [⟨bx,Sl.aE 5 1 ((z.snd 40).l.map U8).length cx ((z.snd 40).l.map U8),true⟩] w'
      rw [List.length_map]
      exact hw.weak (.drop _ _ _ (an.refl _))
end
section
set_option maxRecDepth 10000
open Sl ij mF dW ng
open qv (Bk)
structure yC (l : List Kp) where
  b : Nat
  off : Nat
  cap : Nat
def yC.v {l : List Kp} (r : yC l) : Value:=.slice (some ⟨r.b,r.off,none⟩) l.length r.cap
def yC.K {l : List Kp} (r : yC l) : nF:=⟨some ⟨r.b,r.off,none⟩,r.cap,l⟩
def yC.bW {l : List Kp} (r : yC l) : List aG:=[⟨r.b,fun o=>bD o r.off (aX l).flatten∧l.length≤r.cap,true⟩]
theorem yC.ok {l : List Kp} {r : yC l} (hl : ∀ k ∈ l,k.ok) {w0 w : World} {S : List Nat} {M : List aG} (hw : ah w0 S (r.bW++M) w) : r.K.ok w:=by
  obtain ⟨o,ho,h1,h2⟩:=hw.get (.here (M:=M))
  exact ⟨h2,Reads.block ho h1,hl⟩
theorem yC.wr {l : List Kp} (r : yC l) : ∀ e ∈ r.bW,e.wr=true:=fun e he=>by
  simp only [yC.bW,List.mem_singleton] at he
  rw [he]
theorem Hy {e : TypeId} {cap j : Nat} {l : List Kp} (hl : ∀ k ∈ l,k.ok) {o : Obj} (h : Sl.aE e 65 l.length cap (aX l).flatten o) (hj : j≤l.length) : bD o (j * 65) (aX (l.drop j)).flatten∧(l.drop j).length≤cap - j:=by
  obtain ⟨sp,rfl,h1,h2,h3⟩:=h
  refine ⟨⟨_,_,_,rfl,fun i hi=>?_⟩,by rw [List.length_drop];omega⟩
  have hd : (aX (l.drop j)).flatten=(aX l).flatten.drop (j * 65):=by rw [fR (fM hl)];simp [aX,List.map_drop]
  rw [hd,List.length_drop] at hi
  rw [hd,List.getElem?_drop]
  simp only [List.getElem?_toArray]
  rw [List.getElem?_append_left (by omega)]
theorem C6 (c k : Bk) (m : Nat) (hc : c.length=32) (hk : k.length=32) : Tryz.prog.built 57 ([0,1,2].zip [.agg (c.map U8).toArray,N m,.agg (k.map U8).toArray])=some (dZ ⟨c,m,k⟩).toArray:=by
  have h : Tryz.prog.built 57 ([0,1,2].zip [.agg (c.map U8).toArray,N m,.agg (k.map U8).toArray])=Instr.fill (fun i=>#[(0,32),(32,1),(33,32)][i]?) (dZ mW).toArray [(0,.agg (c.map U8).toArray),(1,N m),(2,.agg (k.map U8).toArray)]:=by kernel_rfl
  rw [h,dF (off:=0) (sz:=32) (cs:=c.map U8) rfl rfl (by simp [hc]) (by simp [dZ,mW]),dF (off:=32) (sz:=1) (cs:=[N m]) rfl rfl rfl (by simp [dZ,mW,hc])]
  have hp:=tg (a:=c.map U8) (b:=[N 0]) (c:=dU.map U8) (j:=32) (k:=1) [N m] (by simp [hc]) rfl
  have hp2:=FA (m:=m) hc hk
  have h0 : ((dZ mW).take 0++c.map U8++(dZ mW).drop (0+32))=c.map U8++([N 0]++dU.map U8):=rfl
  rw [h0,hp]
  have e : c.map U8++([N m]++dU.map U8)=dZ ⟨c,m,dU⟩:=rfl
  have hl:=iz (k:=⟨c,m,dU⟩) ⟨hc,rfl⟩
  rw [e,dF (off:=33) (sz:=32) (cs:=k.map U8) rfl rfl (by simp [hk]) (by rw [hl];decide)]
  rw [List.length_map,hk] at hp2
  rw [hp2]
  rfl
theorem jn : aL Tryz.prog 29:=⟨_,Tryz.func29,rfl,by kernel_rfl⟩
set_option maxHeartbeats 32000000 in
theorem uR (s : bA) (k : nF) (hs : s.ok) (to : Nat) (h : leave s to=none) (w : World) (hto : to≤2147483648) (htk : s.taken≤2147483648) :
    Calls Tryz.prog 29 [.agg (sec s k.v).toArray,N to].toArray w fun e w'=>e=.returned (.tuple #[.agg (sec s k.v).toArray,.bool false])∧Ext w w':=by
  have h1 : 1000<to - s.taken:=by
    rw [leave] at h
    split at h
    · assumption
    · cases h
  have hn:=ay hs k.v
  have htr : ∀ o,Row 26 (sec s k.v) o→cellAt o 163=some (N s.taken):=Row.cell (dL hs _)
  have e1 : decide ((1000 : Int)<((to - s.taken : Nat) : Int))=true:=decide_eq_true (by omega)
  refine enter (n:=52) Tryz.func29 rfl rfl rfl (ah.start w []) ?_
  repeat (first | refine JC.seq ?_ | refine JC.region ?_)
  refine JL.box (r:=sec s k.v) rfl rfl rfl fun b2 _=>?_
  refine JL.alloc uH rfl fun b4 _=>?_
  repeat (first | refine JL.q (by first|(apply OQ.load;exact bB;rfl;exact (.there .here);exact htr)|(apply OQ.jq (a:=to) (b:=s.taken);rfl;rfl;exact (by omega);exact (by omega))|(apply OQ.pA (b:=1000);rfl;rfl;exact e1)|(apply OQ.move;rfl)|(apply OQ.assign;rfl)|(apply OQ.bM;rfl;rfl;rfl;exact (by decide);rfl)) rfl ?_ | refine JC.seq ?_ | refine JC.region ?_ | refine JL.nil ?_ | refine JE.next ?_)
  refine JC.cond_true rfl rfl ?_
  repeat (first | refine JL.q (by (apply OQ.af (cs:=sec s k.v);exact iy;exact dV;rfl;exact (.there .here);exact hn;exact Row.all)) rfl ?_ | refine JC.seq ?_ | refine JC.region ?_)
  refine JL.ag (cs:=sec s k.v) dV rfl rfl hn (bw rfl) .here (ay br _) ?_
  repeat (first | refine JL.q (by (apply OQ.assign;rfl)) rfl ?_ | refine JL.nil ?_ | refine JE.next ?_)
  refine JC.ret ?_
  repeat (refine JE.aK ?_)
  exact JE.gI rfl (RV.av iy dV rfl .here hn Row.all) (RV.tmp rfl) fun w' hw=>⟨rfl,hw.aM⟩
set_option maxHeartbeats 32000000 in
theorem sW (s : bA) (k : nF) (hs : s.ok) (he : k.l=s.kept) (hkl : s.kept.length≤2000) (to : Nat) (n : bA) (h : leave s to=some n) (w : World) (hto : to≤2147483648) (htk : s.taken≤2147483648) (hk : k.ok w) :
    Calls Tryz.prog 29 [.agg (sec s k.v).toArray,N to].toArray w fun e w'=>∃ r : yC n.kept,e=.returned (.tuple #[.agg (sec n r.v).toArray,.bool true])∧ah w [] r.bW w':=by
  have h1 : ¬ 1000<to - s.taken:=fun h1=>by rw [sG h1] at h;cases h
  have hn : n=trim (kZ s (to - s.taken)):=by rw [kL h1] at h;exact (Option.some.inj h).symm
  clear h
  have hl:=ay hs k.v
  have htr : ∀ o,Row 26 (sec s k.v) o→cellAt o 163=some (N s.taken):=Row.cell (dL hs _)
  have hkr : ∀ o,Row 26 (sec s k.v) o→cellAt o 165=some k.v:=Row.cell (g7 hs _)
  have e1 : decide ((1000 : Int)<(to : Int) - (s.taken : Int))=false:=decide_eq_false (by omega)
  have hfl : ((aX k.l).flatten).length=k.l.length * 65:=by rw [dX (fM hk.all),ec]
  have hkl' : k.l.length≤2000:=by rw [he];exact hkl
  refine enter (n:=52) Tryz.func29 rfl rfl rfl (ah.start w []) ?_
  repeat (first | refine JC.seq ?_ | refine JC.region ?_)
  refine JL.box (r:=sec s k.v) rfl rfl rfl fun b2 _=>?_
  refine JL.alloc uH rfl fun b4 _=>?_
  repeat (first | refine JL.q (by first|(apply OQ.load;exact bB;rfl;exact (.there .here);exact htr)|(apply OQ.om (a:=(to : Int)) (b:=(s.taken : Int));rfl;rfl;exact (by omega);exact (by omega))|(apply OQ.pA (b:=1000);rfl;rfl;exact e1)|(apply OQ.move;rfl)|(apply OQ.assign;rfl)|(apply OQ.bM;rfl;rfl;rfl;exact (by decide);rfl)) rfl ?_ | refine JC.seq ?_ | refine JC.region ?_ | refine JL.nil ?_ | refine JE.next ?_)
  refine JC.cond_false rfl rfl ?_
  repeat (first | refine JC.seq ?_ | refine JC.region ?_ | refine JC.skip ?_ | refine JE.next ?_)
  refine JL.uZ Tryz.underlying24 CJ rfl fun b0 _=>?_
  repeat (refine JL.q (by first|(apply OQ.load;exact jc;rfl;exact (.there (.there .here));exact hkr)|(apply OQ.bM;rfl;rfl;rfl;exact (by decide);rfl)) rfl ?_)
  refine JL.append (cs:=(aX k.l).flatten) (m:=k.l.length) (ad:=k.ad) (sc:=k.cap) (xs:=[]) (fun b' cap'=>[⟨b',Sl.aE 57 65 (0+k.l.length) cap' ([]++(aX k.l).flatten),true⟩,⟨b4,Row 26 (sec dm aP),true⟩,⟨b2,Row 26 (sec s k.v),true⟩]) Tryz.underlying24 CJ rfl rfl (by intro _ _;repeat (first | exact aZ.here | apply aZ.there)) hfl (fun w' hw'=>(hk.holds hw' rfl).reads) (iH k.l) rfl (by decide) (by omega) (by omega) rfl fun b1 cap1=>?_
  rw [Nat.zero_add,List.nil_append]
  generalize hkv : k.v=kv at *
  have hkv1 : kv.oneCell'=true:=by rw [← hkv];rfl
  rw [he] at hfl ⊢
  clear hkv hk
  repeat (first | refine JL.q (by (apply OQ.assign;rfl)) rfl ?_ | refine JC.seq ?_ | refine JC.block ?_ | refine JL.nil ?_ | refine JE.next ?_)
  obtain ⟨k0,hk0⟩ : ∃ k,to - s.taken=k:=⟨_,rfl⟩
  rw [hk0] at hn
  refine JC.loop (fun z : Nat × Nat × Nat=>[(1,N to),(2,Pt b2 0),(4,Pt b4 0),(6,.slice (some ⟨z.2.1,0,none⟩) (kZ s z.1).kept.length z.2.2)]) (fun z=>[⟨z.2.1,Sl.aE 57 65 (kZ s z.1).kept.length z.2.2 (aX (kZ s z.1).kept).flatten,true⟩,⟨b4,Row 26 (sec dm aP),true⟩,⟨b2,Row 26 (sec (kZ s z.1) kv),true⟩]) (fun z=>k0 - z.1) (fun z=>z.1≤k0) (0,b1,cap1) (Nat.zero_le _) (by dsimp only;rw [l9];exact (by repeat (first | exact ai.nil | refine ai.cons _ _ _ rfl ?_))) (by dsimp only;rw [l9];exact an.refl _) ?_
  rintro ⟨i,b6,cap⟩ hi
  dsimp only at hi ⊢
  have hsi:=Ac hs i
  have hst:=BA s i
  have htn : (kZ s i).taken=s.taken+i:=rfl
  have hln : (kZ s i).kept.length=s.kept.length+i:=by show (s.kept++CE _ i _ _).length=_;rw [List.length_append,v9]
  obtain ⟨u,hu⟩ : ∃ u,kZ s i=u:=⟨_,rfl⟩
  rw [hu] at hsi hst htn hln ⊢
  have htr2 : ∀ o,Row 26 (sec u kv) o→cellAt o 163=some (N u.taken):=Row.cell (dL hsi _)
  by_cases hc : i<k0
  · have hlt : u.taken<to:=by omega
    have lt : (u.take.map U8).length=32:=by rw [List.length_map];exact hsi.take
    have lo : (u.other.map U8).length=32:=by rw [List.length_map];exact hsi.other
    have cst : ∀ (w' : World),Calls Tryz.prog 32 [.agg (u.take.map U8).toArray].toArray w' fun e w''=>e=.returned (.tuple #[.agg ((m5 u.take).map U8).toArray,.agg ((jX u.take).map U8).toArray])∧Ext w' w'':=fun w'=>sL u.take hsi.take w'
    have x1 : ({ u with take:=m5 u.take } : bA).ok:=⟨hsi.root,hsi.own,hsi.other,hsi.send,rfl,hsi.kept⟩
    have p1:=gj hsi kv (m5 u.take) rfl
    have p2:=fN x1 kv (u.taken+1)
    have hn1:=ay hsi kv
    have hn2:=ay x1 kv
    have hkb:=C6 u.other (jX u.take) u.taken hsi.other rfl
    have hk65:=iz (k:=⟨u.other,u.taken,jX u.take⟩) ⟨hsi.other,rfl⟩
    have ln : ((m5 u.take).map U8).length=32:=rfl
    have lm : ((jX u.take).map U8).length=32:=rfl
    have htr3 : ∀ o,Row 26 (sec { u with take:=m5 u.take } kv) o→cellAt o 163=some (N u.taken):=Row.cell (dL x1 _)
    have q1 : sec (kZ s (i+1)) kv=sec { u with take:=m5 u.take,taken:=u.taken+1 } kv:=by rw [hst];rfl
    have q2 : (aX (kZ s (i+1)).kept).flatten=(aX u.kept).flatten++dZ ⟨u.other,u.taken,jX u.take⟩:=by rw [hst];simp [aX]
    have q3 : (kZ s (i+1)).kept.length=u.kept.length+1:=by rw [hst];simp
    clear hst
    generalize m5 u.take=nx at *
    generalize hms : jX u.take=ms at *
    repeat (first | refine JL.q (by first|(apply OQ.load;exact bB;rfl;exact (.there (.there .here));exact htr2)|(apply OQ.ig (a:=u.taken) (b:=to);rfl;rfl;exact hlt)|(apply OQ.move;rfl)|(apply OQ.bM;rfl;rfl;rfl;exact (by decide);rfl)) rfl ?_ | refine JC.seq ?_ | refine JC.region ?_ | refine JL.nil ?_ | refine JE.next ?_)
    refine JC.cond_true rfl rfl ?_
    repeat (first | refine JL.q (by first|(apply OQ.af (cs:=u.take.map U8);exact aQ;exact aB;rfl;exact (.there (.there .here));exact lt;exact (Row.cells (lI hsi _)))|(apply OQ.au (vs:=[.agg (u.take.map U8).toArray]);exact qi;rfl;exact (fun w' _=>cst w'))|(apply OQ.extract;rfl;rfl)|(apply OQ.move;rfl)|(apply OQ.bM;rfl;rfl;rfl;exact (by decide);rfl)) rfl ?_ | refine JC.seq ?_ | refine JC.region ?_ | refine JC.block ?_ | refine JC.skip ?_ | refine JE.next ?_)
    refine JL.alloc hU rfl fun b7 _=>?_
    refine JL.alloc hU rfl fun b8 _=>?_
    refine JL.ag (cs:=nx.map U8) aB rfl rfl ln (aU _) (.there .here) (by simp) ?_
    refine JL.ag (cs:=ms.map U8) aB rfl rfl lm (aU _) .here (by simp) ?_
    repeat (first | refine JL.q (by first|(apply OQ.af (cs:=u.other.map U8);exact aQ;exact aB;rfl;exact (.there (.there (.there (.there .here))));exact lo;exact (Row.cells (ee hsi _)))|(apply OQ.load;exact bB;rfl;exact (.there (.there (.there (.there .here))));exact htr2)|(apply OQ.af (cs:=ms.map U8);exact aQ;exact aB;rfl;exact .here;exact lm;exact Row.all)|(apply OQ.move;rfl)|(apply OQ.bM;rfl;rfl;rfl;exact (by decide);rfl)) rfl ?_ | refine JC.seq ?_ | refine JC.region ?_ | refine JL.nil ?_ | refine JE.next ?_)
    refine JL.q (OQ.mu (cs:=dZ ⟨u.other,u.taken,ms⟩) [0,1,2] [.tmp 31,.tmp 33,.tmp 34] (vs:=[.agg (u.other.map U8).toArray,N u.taken,.agg (ms.map U8).toArray]) rfl rfl hkb) rfl ?_
    refine JL.IC (cs:=dZ ⟨u.other,u.taken,ms⟩) Tryz.underlying24 CJ rfl (by decide) (by decide) rfl hk65 rfl fun bl _=>?_
    refine JL.append (cs:=dZ ⟨u.other,u.taken,ms⟩) (m:=1) (k:=u.kept.length) (cap:=cap) (ad:=some ⟨bl,0,none⟩) (sc:=1) (xs:=(aX u.kept).flatten) (fun b' cap'=>[⟨bl,Row 57 (dZ ⟨u.other,u.taken,ms⟩),true⟩,⟨b8,Row 23 (ms.map U8),true⟩,⟨b7,Row 23 (nx.map U8),true⟩,⟨b',Sl.aE 57 65 (u.kept.length+1) cap' ((aX u.kept).flatten++dZ ⟨u.other,u.taken,ms⟩),true⟩,⟨b4,Row 26 (sec dm aP),true⟩,⟨b2,Row 26 (sec u kv),true⟩]) Tryz.underlying24 CJ rfl rfl (by intro _ _;repeat (first | exact aZ.here | apply aZ.there)) hk65 (fun w' hw'=>by obtain ⟨o,ho,hA⟩:=hw'.get .here;exact Reads.block ho (Row.all _ hA)) (fun v hv=>iH [⟨u.other,u.taken,ms⟩] v (by simpa [aX] using hv)) rfl (by decide) (by omega) (by omega) rfl fun b' cap'=>?_
    repeat (first | refine JL.q (by first|(apply OQ.af (cs:=nx.map U8);exact aQ;exact aB;rfl;exact (.there (.there .here));exact ln;exact Row.all)|(apply OQ.assign;rfl)|(apply OQ.bM;rfl;rfl;rfl;exact (by decide);rfl)) rfl ?_ | refine JC.seq ?_ | refine JC.region ?_ | refine JL.nil ?_ | refine JE.next ?_)
    refine JL.aW (r:=sec u kv) (r':=sec { u with take:=nx } kv) aB rfl rfl ln (aU _) (.there (.there (.there (.there (.there .here))))) (by rw [hn1,ln];decide) p1 ?_
    repeat (first | refine JL.q (by first|(apply OQ.load;exact bB;rfl;exact (.there (.there (.there (.there (.there .here)))));exact htr3)|(apply OQ.aY (a:=u.taken) (b:=1);rfl;rfl;exact (by omega))|(apply OQ.bM;rfl;rfl;rfl;exact (by decide);rfl)) rfl ?_ | refine JC.region ?_ | refine JL.nil ?_ | refine JE.next ?_)
    refine JL.az (r:=sec { u with take:=nx } kv) (r':=sec { u with take:=nx,taken:=u.taken+1 } kv) nE rfl rfl rfl rfl (.there (.there (.there (.there (.there .here))))) (by rw [hn2];decide) p2 ?_
    repeat (first | refine JL.nil ?_ | refine JE.aq ?_)
    refine JE.again (i:=((i,b6,cap) : Nat × Nat × Nat)) (i+1,b',cap') (by show i+1≤k0;omega) (by show k0 - (i+1)<k0 - i;omega) ?_ ?_
    · dsimp only
      rw [q3]
      exact (by repeat (first | exact ai.nil | refine ai.cons _ _ _ rfl ?_))
    · dsimp only
      rw [q1,q2,q3]
      exact .drop _ _ _ (.drop _ _ _ (.drop _ _ _ (an.refl _)))
  · obtain rfl : i=k0:=by omega
    have hge : ¬ u.taken<to:=by omega
    have hL : u.kept.length≤3000:=by omega
    rw [hu] at hn
    have hn1:=ay hsi kv
    clear hst hln
    obtain ⟨L,hLe⟩ : ∃ L,u.kept.length=L:=⟨_,rfl⟩
    rw [hLe] at hL
    rw [hLe]
    refine JC.fact (b:=b6) (A:=Sl.aE 57 65 L cap (aX u.kept).flatten) (wr:=true) .here (fun o ⟨sp,_,_,_,h⟩=>h) fun hcap=>?_
    repeat (first | refine JL.q (by first|(apply OQ.load;exact bB;rfl;exact (.there (.there .here));exact htr2)|(apply OQ.gM (a:=u.taken) (b:=to);rfl;rfl;exact hge)|(apply OQ.move;rfl)|(apply OQ.bM;rfl;rfl;rfl;exact (by decide);rfl)) rfl ?_ | refine JC.seq ?_ | refine JC.region ?_ | refine JL.nil ?_ | refine JE.next ?_)
    refine JC.cond_false rfl rfl ?_
    repeat (first | refine JC.seq ?_ | refine JC.block ?_ | refine JC.exit ?_ | refine JE.next ?_ | refine JE.ax ?_ | refine JE.aA ?_)
    refine JC.loop (fun j : Nat=>[(1,N to),(2,Pt b2 0),(4,Pt b4 0),(6,.slice (some ⟨b6,j * 65,none⟩) (L - j) (cap - j))]) (fun _=>[⟨b6,Sl.aE 57 65 L cap (aX u.kept).flatten,true⟩,⟨b4,Row 26 (sec dm aP),true⟩,⟨b2,Row 26 (sec u kv),true⟩]) (fun j=>L - j) (fun j=>j≤L - 2000) 0 (Nat.zero_le _) (by rw [Nat.zero_mul];exact (by repeat (first | exact ai.nil | refine ai.cons _ _ _ rfl ?_))) (an.refl _) ?_
    intro j hj
    by_cases hc2 : 2000<L - j
    · have e3 : decide ((2000 : Int)<((L - j : Nat) : Int))=true:=decide_eq_true (by omega)
      have e4 : Value.slice (if cap - j=1 then some ⟨b6,j * 65,none⟩ else (some (⟨b6,j * 65,none⟩ : Addr)).map (·.add (1 * 65))) (L - j - 1) (cap - j - 1)=.slice (some ⟨b6,(j+1) * 65,none⟩) (L - (j+1)) (cap - (j+1)):=by
        rw [if_neg (by omega),Nat.add_mul j 1 65,Nat.sub_add_eq,Nat.sub_add_eq]
        rfl
      repeat (first | refine JL.q (by first|(apply OQ.len (k:=L - j) (ad:=some ⟨b6,j * 65,none⟩) (cap:=cap - j);exact Tryz.underlying24;rfl)|(apply OQ.pA (b:=2000);rfl;rfl;exact e3)|(apply OQ.move;rfl)) rfl ?_ | refine JC.seq ?_ | refine JC.region ?_ | refine JL.nil ?_ | refine JE.next ?_)
      refine JC.cond_true rfl rfl ?_
      repeat (first | refine JL.q (by first|(apply OQ.to;exact (OQ.nH (lo:=1) (len:=L - j) (cap:=cap - j) (ad:=some ⟨b6,j * 65,none⟩) Tryz.underlying24 tE rfl rfl (by omega));exact e4)|(apply OQ.move;rfl)|(apply OQ.assign;rfl)) rfl ?_ | refine JC.region ?_ | refine JC.block ?_ | refine JC.skip ?_ | refine JL.nil ?_ | refine JE.next ?_ | refine JE.aq ?_)
      exact JE.again (i:=j) (j+1) (by show j+1≤L - 2000;omega) (by show L - (j+1)<L - j;omega) (by repeat (first | exact ai.nil | refine ai.cons _ _ _ rfl ?_)) (an.refl _)
    · obtain rfl : j=L - 2000:=by omega
      have e3 : decide ((2000 : Int)<((L - (L - 2000) : Nat) : Int))=false:=decide_eq_false (by omega)
      have p3:=fD hsi kv u.kept (.slice (some ⟨b6,(L - 2000) * 65,none⟩) (L - (L - 2000)) (cap - (L - 2000)))
      have hn3:=ay hsi (.slice (some ⟨b6,(L - 2000) * 65,none⟩) (L - (L - 2000)) (cap - (L - 2000)))
      repeat (first | refine JL.q (by first|(apply OQ.len (k:=L - (L - 2000)) (ad:=some ⟨b6,(L - 2000) * 65,none⟩) (cap:=cap - (L - 2000));exact Tryz.underlying24;rfl)|(apply OQ.pA (b:=2000);rfl;rfl;exact e3)|(apply OQ.move;rfl)) rfl ?_ | refine JC.seq ?_ | refine JC.region ?_ | refine JL.nil ?_ | refine JE.next ?_)
      refine JC.cond_false rfl rfl ?_
      repeat (first | refine JL.q (by first|(apply OQ.move;rfl)|(apply OQ.bM;rfl;rfl;rfl;exact (by decide);rfl)) rfl ?_ | refine JC.seq ?_ | refine JC.region ?_ | refine JC.exit ?_ | refine JE.next ?_ | refine JE.ax ?_ | refine JE.aA ?_)
      refine JL.az (r:=sec u kv) (r':=sec u (.slice (some ⟨b6,(L - 2000) * 65,none⟩) (L - (L - 2000)) (cap - (L - 2000)))) CK rfl rfl rfl rfl (.there (.there .here)) (by rw [hn1];decide) p3 ?_
      repeat (first | refine JL.q (by (apply OQ.af (cs:=sec u (.slice (some ⟨b6,(L - 2000) * 65,none⟩) (L - (L - 2000)) (cap - (L - 2000))));exact iy;exact dV;rfl;exact (.there (.there .here));exact hn3;exact Row.all)) rfl ?_ | refine JC.seq ?_ | refine JC.region ?_ | refine JL.nil ?_ | refine JE.next ?_)
      refine JL.ag (cs:=sec u (.slice (some ⟨b6,(L - 2000) * 65,none⟩) (L - (L - 2000)) (cap - (L - 2000)))) dV rfl rfl hn3 (bw rfl) (.there .here) (ay br _) ?_
      repeat (first | refine JL.q (by (apply OQ.assign;rfl)) rfl ?_ | refine JL.nil ?_ | refine JE.next ?_)
      refine JC.ret ?_
      skip
      have hnk : n.kept=u.kept.drop (L - 2000):=by rw [hn,pU,oT,hLe]
      have hnl : n.kept.length=L - (L - 2000):=by rw [hnk,List.length_drop,hLe]
      refine JE.gI rfl (RV.av iy dV rfl (.there .here) hn3 Row.all) (RV.tmp rfl) fun w' hw=>⟨⟨b6,(L - 2000) * 65,cap - (L - 2000)⟩,?_,?_⟩
      · unfold yC.v
        rw [hnl,hn]
        rfl
      · refine hw.weak (.keep _ _ _ _ _ _ (fun o ho=>?_) (an.nil _))
        rw [← hLe] at ho ⊢
        have:=Hy hsi.kept ho (j:=u.kept.length - 2000) (by omega)
        dsimp only
        rw [hnk,← hLe]
        exact this
end
section
set_option maxRecDepth 10000
open Sl ij mF dW ng
open qv (Bk)
theorem BH {l : Bk} (h : l.length=4) : b4 (iu.cv l)=l:=by
  match l,h with
  | [a,b,c,d],_=>
  have ha:=a.isLt
  have hb:=b.isLt
  have hc:=c.isLt
  have hd:=d.isLt
  rw [It,FJ _ (by omega)]
  have e : ∀ (x : BitVec 8) (n : Nat),n % 256=x.toNat→BitVec.ofNat 8 n=x:=fun x n h=>BitVec.eq_of_toNat_eq (by rw [BitVec.toNat_ofNat];exact h)
  rw [e a _ (by omega),e b _ (by omega),e c _ (by omega),e d _ (by omega)]
theorem head_take {z r : Bk} {h : Hd} (e : dy z=some (h,r)) : z.take 40=dH h:=by
  obtain ⟨_,_,_,_,h40,hc⟩:=kO e
  rw [dy,if_neg (by omega)] at e
  split at e
  · cases e
  · have e:=(Prod.mk.inj (Option.some.inj e)).1
    rw [← e]
    show z.take 40=z.take 32++b4 (iu.cv ((z.drop 32).take 4))++b4 (iu.cv ((z.drop 36).take 4))
    rw [BH (by rw [List.length_take,List.length_drop];omega),BH (by rw [List.length_take,List.length_drop];omega)]
    rw [show z.drop 36=(z.drop 32).drop 4 by rw [List.drop_drop],List.append_assoc,← List.take_add,← List.take_add]
theorem Hz {h : Hd} {l : List Kp} {i : Nat} (hi : i<l.length) (h1 : sH h (l.getD i mW)=true) (h2 : ∀ j,j<i→sH h (l.getD j mW)=false) : sI h l=some i:=by
  have g : ∀ j (hj : j<l.length),l.getD j mW=l[j]:=fun j hj=>by rw [List.getD_eq_getElem?_getD,List.getElem?_eq_getElem hj];rfl
  rw [sI,List.findIdx?_eq_some_iff_getElem]
  refine ⟨hi,by rw [← g i hi];exact h1,fun j hj=>?_⟩
  rw [← g j (by omega),h2 j hj]
  decide
theorem HA {h : Hd} {l : List Kp} (h2 : ∀ j,j<l.length→sH h (l.getD j mW)=false) : sI h l=none:=by
  rw [sI,List.findIdx?_eq_none_iff]
  intro x hx
  obtain ⟨j,hj,rfl⟩:=List.mem_iff_getElem.1 hx
  have:=h2 j hj
  rwa [List.getD_eq_getElem?_getD,List.getElem?_eq_getElem hj] at this
theorem FM {l : List Kp} (hl : ∀ k ∈ l,k.ok) (i : Nat) : (aX (l.take i)).flatten=(aX l).flatten.take (i * 65):=by
  have h:=fR (fM hl) i
  have h1 : (aX l).flatten=(aX (l.take i)).flatten++(aX (l.drop i)).flatten:=by rw [← List.flatten_append];unfold aX;rw [← List.map_append,List.take_append_drop]
  have h2 : (aX l).flatten.drop (i * 65)=(aX (l.drop i)).flatten:=by rw [h];simp [aX,List.map_drop]
  have h3:=List.take_append_drop (i * 65) (aX l).flatten
  rw [h2] at h3
  have h4:=h1.symm.trans h3.symm
  exact List.append_cancel_right h4
theorem HB {l : List Kp} (hl : ∀ k ∈ l,k.ok) (i : Nat) : (aX (l.drop i)).flatten=(aX l).flatten.drop (i * 65):=by
  rw [fR (fM hl)]
  simp [aX,List.map_drop]
theorem tI {w : World} {ba ja cap i : Nat} {l : List Kp} (hl : ∀ k ∈ l,k.ok) (h : Reads w (some ⟨ba,ja,none⟩) (aX l).flatten) (hc : l.length≤cap) : Reads w (if cap=i then some ⟨ba,ja,none⟩ else (some (⟨ba,ja,none⟩ : Addr)).map (·.add (i * 65))) (aX (l.drop i)).flatten:=by
  by_cases e : cap=i
  · rw [List.drop_of_length_le (by omega)]
    exact Reads.nil _ _
  · rw [if_neg e,HB hl]
    intro m v hv
    rw [List.getElem?_drop] at hv
    obtain ⟨b,j,e1,hc⟩:=h _ _ hv
    cases e1
    exact ⟨ba,ja+i * 65,by simp [Addr.add],by rw [Nat.add_assoc];exact hc⟩
theorem J6 {l : List Kp} (hl : ∀ k ∈ l,k.ok) {w0 w : World} {S : List Nat} {M : List aG} {b cap : Nat} {wr : Bool} (hw : ah w0 S M w) (hM : Has M b (Sl.aE 57 65 l.length cap (aX l).flatten) wr) : nF.ok w ⟨some ⟨b,0,none⟩,cap,l⟩:=by
  obtain ⟨o,ho,hA⟩:=hw.get hM
  have hh:=Sl.aE.cells _ hA
  obtain ⟨sp,rfl,h2,h3,h4⟩:=hA
  exact ⟨h4,Reads.block ho hh,hl⟩
structure J7 where
  n : bA
  K : nF
  es : List aG
structure NI (w : World) (o : Option bA) (r : J7) : Prop where
  on : o=some r.n
  ok : r.n.ok
  l : r.K.l=r.n.kept
  Kq : ∀ w',ah w [] r.es w'→r.K.ok w'
  len : r.n.kept.length≤2000
  tk : r.n.taken≤2147483648
theorem Nm (a b : aG) (A B : List aG) : (a::(A++b::B)).Perm (b::(a::A)++B):=by
  show (a::(A++b::B)).Perm (b::a::(A++B))
  exact ((List.perm_middle).cons a).trans (List.Perm.swap b a _)
structure Kr (o : bA × Bk × Nat) (k : nF) where
  K : nF
  x : aJ
  es : List aG
  l : K.l=o.1.kept
  xl : x.l=o.2.1
  Kq : K=k∨∀ {w0 w : World} {T : List Nat} {M : List aG},ah w0 T (es++M) w→K.ok w
  N2 : ∀ {w0 w : World} {T : List Nat} {M : List aG},ah w0 T (es++M) w→x.ok w
  wr : ∀ e ∈ es,e.wr=true
def Kr.err {s : bA} {k : nF} (he : k.l=s.kept) (c : Nat) : Kr (s,[],c) k:=⟨k,iW,[],he,rfl,.inl rfl,fun _=>mC _,nofun⟩
theorem Ao : aL Tryz.prog 13:=⟨_,Tryz.func13,rfl,by kernel_rfl⟩
set_option maxHeartbeats 64000000 in
theorem C7 (s : bA) (k : nF) (hs : s.ok) (he : k.l=s.kept) (hk0 : s.kept.length≤2000) (ht0 : s.taken≤2147483647) (side z : aJ) (hsl : side.l.length≤1000000) (hzl : z.l.length≤1000000) (fresh : Bk) (hf : fresh.length=32) (w : World) (hk : k.ok w) (hside : side.ok w) (hz : z.ok w) :
    Calls Tryz.prog 13 [.agg (sec s k.v).toArray,side.v,z.v,.agg (fresh.map U8).toArray].toArray w fun e w'=>∃ r : Kr (fH s side.l z.l fresh) k,e=.returned (.tuple #[.agg (sec (fH s side.l z.l fresh).1 r.K.v).toArray,r.x.v,N (fH s side.l z.l fresh).2.2])∧ah w [] r.es w':=by
  have hlf : (fresh.map U8).length=32:=by rw [List.length_map];exact hf
  have hn:=fun v=>ay hs v
  have herr : ∀ {c : Nat} {e : Ending} {w' : World},fH s side.l z.l fresh=(s,[],c)→e=.returned (.tuple #[.agg (sec s k.v).toArray,iW.v,N c])→ah w [] [] w'→(∃ r : Kr (fH s side.l z.l fresh) k,e=.returned (.tuple #[.agg (sec (fH s side.l z.l fresh).1 r.K.v).toArray,r.x.v,N (fH s side.l z.l fresh).2.2])∧ah w [] r.es w'):=fun {c e w'} h1 h2 h3=>by
    rw [h1]
    exact ⟨Kr.err he c,h2,h3⟩
  refine enter (n:=201) Tryz.func13 rfl rfl rfl (ah.start w []) ?_
  repeat (first | refine JC.seq ?_ | refine JC.region ?_)
  refine JL.box (r:=sec s k.v) rfl rfl rfl fun b4 _=>?_
  refine JL.box (r:=fresh.map U8) rfl rfl rfl fun b7 _=>?_
  refine JL.alloc uH rfl fun b8 _=>?_
  repeat (first | refine JL.q (by first|(apply OQ.move;rfl)|(apply OQ.assign;rfl)) rfl ?_ | refine JC.seq ?_ | refine JC.region ?_ | refine JL.nil ?_ | refine JE.next ?_)
  refine JL.bV (ι:=yo (dj z.l)) (vs:=[z.v]) (fun q=>.tuple #[.agg (hdc (ej z.l)).toArray,aC q.1 (dj z.l).length,N (en z.l)]) (fun q=>bS 5 q.1 ((dj z.l).map U8)) An rfl rfl (fun q=>j5 _ _ _) (fun w' hw'=>C5 z w' (hz.holds hw' rfl) hzl) ?_
  rintro ⟨qh,hqh⟩
  dsimp only
  cases hv : dy z.l with
  | none=>
    have e1 : ej z.l=bO:=by rw [ej,hv]
    have e2 : dj z.l=[]:=by rw [dj,hv]
    have e3 : en z.l=3:=by rw [en,hv]
    have hl34 : (hdc bO).length=34:=rfl
    have hd:=oV (s:=s) (side:=side.l) (fresh:=fresh) hv
    rw [e1,e2,e3]
    repeat (refine JL.q (by first|(apply OQ.extract;rfl;rfl)|(apply OQ.move;rfl)) rfl ?_)
    refine JL.alloc JX rfl fun b11 _=>?_
    refine JL.ag (cs:=hdc bO) qt rfl rfl hl34 (fE _) .here hl34 ?_
    repeat (first | refine JL.q (by first|(apply OQ.ta (a:=3) (b:=0) (c:=false);rfl;rfl;rfl)|(apply OQ.move;rfl)|(apply OQ.assign;rfl)) rfl ?_ | refine JC.seq ?_ | refine JC.region ?_ | refine JL.nil ?_ | refine JE.next ?_)
    refine JC.cond_true rfl rfl ?_
    repeat (first | refine JL.q (by first|(apply OQ.af (cs:=sec s k.v);exact iy;exact dV;rfl;exact (.there (sQ _ (.there (.there .here))));exact (hn _);exact Row.all)|(apply OQ.move;rfl)) rfl ?_ | refine JC.seq ?_ | refine JC.region ?_)
    refine JL.dG (M':=⟨b8,Row 26 (sec dm aP),true⟩::(⟨b11,Row 32 (hdc bO),true⟩::bS 5 qh (([] : Bk).map U8))++[⟨b7,Row 23 (fresh.map U8),true⟩,⟨b4,Row 26 (sec s k.v),true⟩]) (Nm _ _ _ _) ?_
    refine JL.ag (cs:=sec s k.v) dV rfl rfl (hn _) (bw rfl) .here (ay br _) ?_
    repeat (first | refine JL.q (by (apply OQ.assign;rfl)) rfl ?_ | refine JL.nil ?_ | refine JE.next ?_)
    refine JC.ret ?_
    repeat (refine JE.aK ?_)
    exact JE.jG rfl (RV.av iy dV rfl .here (hn _) Row.all) (RV.tmp rfl) (RV.tmp rfl) fun w' hw=>herr hd rfl (hw.weak (an.nil _))
  | some hr=>
  obtain ⟨h,rest⟩:=hr
  have e1 : ej z.l=h:=by rw [ej,hv]
  have e2 : dj z.l=rest:=by rw [dj,hv]
  have e3 : en z.l=0:=by rw [en,hv]
  obtain ⟨hc,hp,hm,hre,hz40,_⟩:=kO hv
  have hrl : rest.length≤1000000:=by rw [hre,List.length_drop];omega
  have hl34:=j9 hc
  have hz34 : (hdc bO).length=34:=rfl
  have hBl:=kf hc
  have hcl : (h.chain.map U8).length=32:=by rw [List.length_map];exact hc
  rw [e1,e2,e3]
  rw [e2] at hqh
  clear e1 e2 e3
  repeat (refine JL.q (by first|(apply OQ.extract;rfl;rfl)|(apply OQ.move;rfl)) rfl ?_)
  refine JL.dG (M':=⟨b8,Row 26 (sec dm aP),true⟩::⟨b7,Row 23 (fresh.map U8),true⟩::⟨b4,Row 26 (sec s k.v),true⟩::bS 5 qh (rest.map U8)) (List.perm_append_comm (l₂:=[_,_,_])) ?_
  refine JL.alloc JX rfl fun b11 _=>?_
  refine JL.ag (cs:=hdc h) qt rfl rfl hl34 (fE _) .here hz34 ?_
  repeat (first | refine JL.q (by first|(apply OQ.ta (a:=0) (b:=0) (c:=true);rfl;rfl;rfl)|(apply OQ.move;rfl)|(apply OQ.assign;rfl)) rfl ?_ | refine JC.seq ?_ | refine JC.region ?_ | refine JL.nil ?_ | refine JE.next ?_)
  refine JC.cond_false rfl rfl ?_
  have hft : (z.fst 40).l=dH h:=head_take hv
  have zf:=hz.fst 40
  have cj:=fun (w' : World) (h1 : side.ok w') (h2 : (z.fst 40).ok w')=>FI side (z.fst 40) w' h1 h2 (by rw [hft,hBl];omega)
  rw [hft] at cj
  obtain ⟨W,hW⟩ : ∃ W,side.l++dH h=W:=⟨_,rfl⟩
  have hWl : W.length=side.l.length+40:=by rw [← hW,List.length_append,hBl]
  rw [hW] at cj
  repeat (first | refine JL.q (by first|(apply OQ.fst (s:=z) (m:=40);exact Tryz.underlying27;exact j6;rfl;rfl;exact hz40;exact hz.len)|(apply OQ.move;rfl)) rfl ?_ | refine JC.seq ?_ | refine JC.region ?_ | refine JC.skip ?_ | refine JE.next ?_)
  refine JL.bV (ι:=Nat × Nat) (vs:=[side.v,(z.fst 40).v]) (fun x=>.slice (some ⟨x.1,0,none⟩) W.length x.2) (fun x=>[⟨x.1,Sl.aE 5 1 W.length x.2 (W.map U8),true⟩]) C1 rfl rfl (fun i=>by simp) (fun w' hw'=>cj w' (hside.holds hw' rfl) (zf.holds hw' rfl)) ?_
  rintro ⟨bj,kj⟩
  try dsimp only
  clear cj zf
  repeat (first | refine JL.q (by (apply OQ.assign;rfl)) rfl ?_ | refine JC.seq ?_ | refine JC.region ?_ | refine JC.block ?_ | refine JL.nil ?_ | refine JE.next ?_)
  refine JC.loop (fun i : Nat=>[(1,side.v),(2,z.v),(4,Pt b4 0),(7,Pt b7 0),(8,Pt b8 0),(11,Pt b11 0),(12,aC qh rest.length),(14,.slice (some ⟨bj,0,none⟩) W.length kj),(15,N i)]) (fun _=>⟨bj,Sl.aE 5 1 W.length kj (W.map U8),true⟩::⟨b11,Row 32 (hdc h),true⟩::⟨b8,Row 26 (sec dm aP),true⟩::⟨b7,Row 23 (fresh.map U8),true⟩::⟨b4,Row 26 (sec s k.v),true⟩::bS 5 qh (rest.map U8)) (fun i=>k.l.length - i) (fun i=>i≤k.l.length∧∀ j,j<i→sH h (k.l.getD j mW)=false) 0 ⟨Nat.zero_le _,fun j hj=>absurd hj (Nat.not_lt_zero _)⟩ (by repeat (first | exact ai.nil | refine ai.cons _ _ _ rfl ?_)) (an.refl _) ?_
  rintro i ⟨hi,hin⟩
  have hkp : ∀ o,Row 26 (sec s k.v) o→cellAt o 165=some k.v:=Row.cell (g7 hs _)
  have hkl : k.l.length≤2000:=by rw [he];exact hk0
  by_cases hlt : i<k.l.length
  · have et : decide ((i : Int)<((k.l.length : Nat) : Int))=true:=decide_eq_true (by omega)
    repeat (first | refine JL.q (by first|(apply OQ.load;exact jc;rfl;exact (.there (.there (.there (.there .here))));exact hkp)|(apply OQ.len (k:=k.l.length) (ad:=k.ad) (cap:=k.cap);exact Tryz.underlying24;rfl)|(apply OQ.ig (a:=i) (b:=k.l.length);rfl;rfl;exact hlt)|(apply OQ.move;rfl)|(apply OQ.bM;rfl;rfl;rfl;exact (by decide);rfl)) rfl ?_ | refine JC.seq ?_ | refine JC.region ?_ | refine JL.nil ?_ | refine JE.next ?_)
    refine JC.cond_true rfl rfl ?_
    obtain ⟨ba,ja,eA,la,cA⟩:=hk.at hlt
    have hok:=hk.all _ (nF.mem hlt)
    have vA : k.v=.slice (some ⟨ba,ja,none⟩) k.l.length k.cap:=by rw [← eA];rfl
    have hkp2 : ∀ o,Row 26 (sec s k.v) o→cellAt o 165=some (.slice (some ⟨ba,ja,none⟩) k.l.length k.cap):=by rw [← vA];exact hkp
    obtain ⟨x,hx⟩ : ∃ x,k.l.getD i mW=x:=⟨_,rfl⟩
    rw [hx] at hok cA
    have cN:=cA 32 (N x.num) (by simp [dZ,hok.c])
    have cC : ∀ m u,(x.chain.map U8)[m]?=some u→w.cell? ⟨ba,ja+i * 65+m,none⟩=some u:=fun m u hu=>by
      refine cA m u ?_
      have hm : m<(x.chain.map U8).length:=(List.getElem?_eq_some_iff.1 hu).1
      rw [dZ,List.getElem?_append_left hm]
      exact hu
    have lC : (x.chain.map U8).length=32:=by rw [List.length_map];exact hok.c
    have hr3 : ∀ o,Row 32 (hdc h) o→cellAt o 33=some (N h.num):=Row.cell (ke hc)
    obtain ⟨g1,he1⟩ : ∃ e,decide (x.chain=h.chain)=e:=⟨_,rfl⟩
    obtain ⟨g2,he2⟩ : ∃ e,decide ((x.num : Int)=(h.num : Int))=e:=⟨_,rfl⟩
    have hit : sH h x=(g1 && g2):=by
      rw [sH,he1,← he2]
      congr 1
      exact decide_eq_decide.2 (by omega)
    refine JC.skip (JE.next ?_)
    refine JC.seq (JC.block ?_)
    refine JC.seq ?_
    refine JC.quiet gK (by kernel_rfl) ?_
    cases g1
    case' true=>cases g2
    case true.true=>
      have hix : sI h s.kept=some i:=by rw [← he];exact Hz hlt (by rw [hx,hit];rfl) hin
      have hmk:=yc (fresh:=fresh) hix
      rw [← he,hx] at hmk
      have lK : (x.key.map U8).length=32:=by rw [List.length_map];exact hok.k
      have cK : ∀ m u,(x.key.map U8)[m]?=some u→w.cell? ⟨ba,ja+i * 65+33+m,none⟩=some u:=fun m u hu=>by
        rw [Nat.add_assoc _ 33 m]
        refine cA (33+m) u ?_
        rw [dZ,List.getElem?_append_right (by rw [lC];omega),lC,show 33+m - 32=m+1 by omega,List.getElem?_cons_succ]
        exact hu
      have hdy:=mU (side:=side.l) (fresh:=fresh) hv hmk
      have hdn:=sJ (side:=side.l) (fresh:=fresh) hv hmk
      rw [hW] at hdy hdn
      obtain ⟨o,hoe⟩ : ∃ o,gL x.key W rest=o:=⟨_,rfl⟩
      rw [hoe] at hdy hdn
      have hoK : gk (k1 x.key) (k2 x.key) x9 W rest=o:=hoe
      have hzS:=u5 qh rest
      have hzl2:=u6 hqh
      repeat (first | refine JQ.q (by first|(apply OQ.load;exact jc;rfl;exact (.there (.there (.there (.there .here))));exact hkp2)|(apply OQ.kU (i:=i) (len:=k.l.length) (cap:=k.cap) (b:=ba) (j:=ja);exact Tryz.underlying24;exact tE;rfl;rfl;exact hlt)|(apply OQ.bR;exact bB;rfl;exact la;exact (by simp);exact cN)|(apply OQ.cQ (cs:=x.chain.map U8);exact aQ;rfl;exact (lC ▸ aB);exact la;exact (by simp);exact cC)|(apply OQ.af (cs:=h.chain.map U8);exact aQ;exact aB;rfl;exact (.there .here);exact hcl;exact (Row.cells (eU hc)))|(apply OQ.load;exact bB;rfl;exact (.there .here);exact hr3)|(apply OQ.LQ;exact hok.c;exact hc;rfl;rfl;exact he1)|(apply OQ.Kg;rfl;rfl;exact he2)|(apply OQ.fJ;rfl;rfl)|(apply OQ.move;rfl)|(apply OQ.bM;rfl;rfl;rfl;exact (by decide);rfl)) rfl ?_ | refine JQ.nil ?_ | refine JE.next ?_ | refine JQ.aV rfl rfl ?_)
      refine JC.cond_true rfl rfl ?_
      repeat (first | refine JL.q (by first|(apply OQ.load;exact jc;rfl;exact (.there (.there (.there (.there .here))));exact hkp2)|(apply OQ.kU (i:=i) (len:=k.l.length) (cap:=k.cap) (b:=ba) (j:=ja);exact Tryz.underlying24;exact tE;rfl;rfl;exact hlt)|(apply OQ.cQ (cs:=x.key.map U8);exact aQ;rfl;exact (lK ▸ aB);exact la;exact (by simp);exact cK)|(apply OQ.move;rfl)|(apply OQ.bM;rfl;rfl;rfl;exact (by decide);rfl)) rfl ?_ | refine JC.seq ?_ | refine JC.region ?_)
      refine JL.q (OQ.pure (v:=.agg (x9.map U8).toArray) rfl rfl (by kernel_rfl)) rfl ?_
      repeat (refine JL.q (by (apply OQ.move;rfl)) rfl ?_)
      refine JL.bV (ι:=Hq o.1) (vs:=[.agg (x.key.map U8).toArray,.agg (x9.map U8).toArray,.slice (some ⟨bj,0,none⟩) W.length kj,aC qh rest.length]) (fun i=>.tuple #[i.1.v,N o.2]) (fun i=>i.1.bW) sO rfl rfl (fun i=>aJ.gS _) (fun w' hw'=>sP (s:=⟨some ⟨bj,0,none⟩,kj,W⟩) (z:=u0 qh rest) rfl hzS (by rw [hzl2];exact hoK) hok.k rfl (ep hw' .here) (u7 (e:=5) (M:=[]) (by rw [List.append_nil];exact hw'.weak (.drop _ _ _ (.drop _ _ _ (.drop _ _ _ (.drop _ _ _ (.drop _ _ _ (an.refl _)))))))) (by show W.length<_;omega) (by rw [hzl2];omega)) ?_
      rintro ⟨pl,hpl⟩
      dsimp only
      refine JL.dG (M':=⟨bj,Sl.aE 5 1 W.length kj (W.map U8),true⟩::⟨b11,Row 32 (hdc h),true⟩::⟨b8,Row 26 (sec dm aP),true⟩::⟨b7,Row 23 (fresh.map U8),true⟩::⟨b4,Row 26 (sec s k.v),true⟩::(pl.bW++bS 5 qh (rest.map U8))) (List.perm_append_comm_assoc _ [_,_,_,_,_] _) ?_
      by_cases ho : o.2=0
      · have hd:=hdy ho
        have eo : decide ((o.2 : Int)=0)=true:=decide_eq_true (by omega)
        repeat (first | refine JL.q (by first|(apply OQ.extract;rfl;rfl)|(apply OQ.ta (a:=(o.2 : Int)) (b:=0);rfl;rfl;exact eo)|(apply OQ.move;rfl)|(apply OQ.assign;rfl)) rfl ?_ | refine JC.seq ?_ | refine JC.region ?_ | refine JL.nil ?_ | refine JE.next ?_)
        refine JC.cond_false rfl rfl ?_
        repeat (first | refine JL.q (by (apply OQ.af (cs:=sec s k.v);exact iy;exact dV;rfl;exact (.there (.there (.there (.there .here))));exact (hn _);exact Row.all)) rfl ?_ | refine JC.seq ?_ | refine JC.region ?_ | refine JC.skip ?_ | refine JE.next ?_)
        have e4 : Value.slice (if k.cap=0 then some ⟨ba,ja,none⟩ else (some (⟨ba,ja,none⟩ : Addr)).map (·.add 0)) i k.cap=.slice (some ⟨ba,ja,none⟩) i k.cap:=by
          split <;> simp [Addr.add]
        have hcap:=hk.len
        have cF : ∀ w' : World,k.ok w'→Reads w' (some ⟨ba,ja,none⟩) (aX (k.l.take i)).flatten:=fun w' h=>by rw [FM hk.all,← eA];exact h.reads.take _
        have cB : ∀ w' : World,k.ok w'→Reads w' (if k.cap=i+1 then some ⟨ba,ja,none⟩ else (some (⟨ba,ja,none⟩ : Addr)).map (·.add ((i+1) * 65))) (aX (k.l.drop (i+1))).flatten:=fun w' h=>tI hk.all (by rw [← eA];exact h.reads) h.len
        have lF : (aX (k.l.take i)).flatten.length=i * 65:=by rw [dX (fM fun x hx=>hk.all x (List.mem_of_mem_take hx)),ec,List.length_take,Nat.min_eq_left (by omega)]
        have lB : (aX (k.l.drop (i+1))).flatten.length=(k.l.length - (i+1)) * 65:=by rw [dX (fM fun x hx=>hk.all x (List.mem_of_mem_drop hx)),ec,List.length_drop]
        have pE : (aX (k.l.take i)).flatten++(aX (k.l.drop (i+1))).flatten=(aX (s.kept.eraseIdx i)).flatten:=by rw [← he,List.eraseIdx_eq_take_drop_succ,← List.flatten_append];unfold aX;rw [← List.map_append]
        have pL : i+(k.l.length - (i+1))=(s.kept.eraseIdx i).length:=by rw [← he,List.length_eraseIdx,if_pos hlt];omega
        refine JL.alloc uH rfl fun b18 _=>?_
        refine JL.ag (cs:=sec s k.v) dV rfl rfl (hn _) (bw rfl) .here (ay br _) ?_
        repeat (first | refine JC.seq ?_ | refine JL.nil ?_ | refine JE.next ?_)
        let vs : Nat→(Nat × Nat)→Value:=fun j y=>match j with
          | 0=>.slice (some ⟨y.1,0,none⟩) 0 0
          | 1=>Pt b4 165
          | 2=>.slice (some ⟨ba,ja,none⟩) k.l.length k.cap
          | 3=>N i
          | 4=>.slice (some ⟨ba,ja,none⟩) i k.cap
          | 5=>.slice (some ⟨y.1,0,none⟩) i y.2
          | 6=>Pt b4 165
          | 7=>.slice (some ⟨ba,ja,none⟩) k.l.length k.cap
          | 8=>N i
          | 9=>N (i+1)
          | 10=>.slice (if k.cap=i+1 then some ⟨ba,ja,none⟩ else (some (⟨ba,ja,none⟩ : Addr)).map (·.add ((i+1) * 65))) (k.l.length - (i+1)) (k.cap - (i+1))
          | 11=>.slice (some ⟨y.1,0,none⟩) (i+(k.l.length - (i+1))) y.2
          | 12=>Pt b18 165
          | _=>N 0
        let Ms : Nat→(Nat × Nat)→List aG:=fun j y=>match j with
          | 0=>[⟨y.1,Sl.aE 57 65 0 0 [],true⟩]
          | 5=>[⟨y.1,Sl.aE 57 65 i y.2 (aX (k.l.take i)).flatten,true⟩]
          | 11=>[⟨y.1,Sl.aE 57 65 (i+(k.l.length - (i+1))) y.2 ((aX (k.l.take i)).flatten++(aX (k.l.drop (i+1))).flatten),true⟩]
          | 13=>[⟨b18,Row 26 (sec s (.slice (some ⟨y.1,0,none⟩) (i+(k.l.length - (i+1))) y.2)),true⟩]
          | 14=>[⟨b18,Row 26 (sec s k.v),true⟩]
          | 15=>[⟨bj,Sl.aE 5 1 W.length kj (W.map U8),true⟩]
          | 16=>[⟨b11,Row 32 (hdc h),true⟩]
          | 17=>[⟨b8,Row 26 (sec dm aP),true⟩]
          | 18=>[⟨b7,Row 23 (fresh.map U8),true⟩]
          | 19=>[⟨b4,Row 26 (sec s k.v),true⟩]
          | 20=>(pl.bW++bS 5 qh (rest.map U8))
          | _=>[]
        refine JC.grow (g:=⟨[(4,Pt b4 0),(8,Pt b8 0),(15,N i),(16,pl.v),(18,Pt b18 0)],21,vs,Ms,(fun j=>match j with | 2=>[(1,84)] | 4=>[(2,85),(3,86)] | 5=>[(0,83),(4,87)] | 7=>[(6,89)] | 9=>[(8,91)] | 10=>[(7,90),(9,92)] | 11=>[(5,88),(10,93)] | 13=>[(12,95),(11,94)] | _=>[]),(fun j=>match j with | 2=>[19] | 5=>[0] | 7=>[19] | 11=>[5] | 13=>[14] | _=>[]),(fun j=>match j with | 5=>[0] | 11=>[5] | 13=>[14] | _=>[]),(fun j=>match j with | 13=>some 11 | _=>none)⟩) [] [13,11,17,20] gK (by repeat (first | exact ai.nil | refine ai.cons _ _ _ rfl ?_)) ?_ (by kernel_rfl) (by kernel_rfl) (by kernel_rfl) ?_ ?_
        · show an (_::_::_::_::_::_::((pl.bW++bS 5 qh (rest.map U8))++[])) _;rw [List.append_nil];exact an.refl _
        · refine ⟨?_,?_,?_,?_,?_,?_,?_,?_,?_,?_,?_,?_,?_,?_,trivial⟩
          · (intro xx EF MF Q kk;exact JL.uZ Tryz.underlying24 CJ rfl fun b0 _=>JL.nil (kk (b0,0) nofun))
          · (intro xx EF MF Q kk;(try refine JL.aV rfl rfl ?_);exact JL.q (OQ.bM rfl rfl rfl (by decide) rfl) rfl (JL.nil (kk default nofun)))
          · (intro xx EF MF Q kk;(try refine JL.aV rfl rfl ?_);exact JL.q (OQ.load jc rfl .here hkp2) rfl (JL.nil (kk default nofun)))
          · (intro xx EF MF Q kk;(try refine JL.aV rfl rfl ?_);exact JL.q (OQ.move rfl) rfl (JL.nil (kk default nofun)))
          · (intro xx EF MF Q kk;(try refine JL.aV rfl rfl ?_);exact JL.q (OQ.to (OQ.nI (hi:=i) (len:=k.l.length) (cap:=k.cap) (ad:=some ⟨ba,ja,none⟩) Tryz.underlying24 tE rfl rfl (by omega)) e4) rfl (JL.nil (kk default nofun)))
          · (intro xx EF MF Q kk;exact JL.append (cs:=(aX (k.l.take i)).flatten) (m:=i) (ad:=some ⟨ba,ja,none⟩) (sc:=k.cap) (xs:=[]) (fun b' cap'=>⟨b',Sl.aE 57 65 (0+i) cap' ([]++(aX (k.l.take i)).flatten),true⟩::MF) Tryz.underlying24 CJ rfl rfl (fun _ _=>.here) lF (fun w' hw'=>cF w' (hk.holds hw' rfl)) (iH _) rfl (by decide) (by omega) (by omega) rfl fun b' cap'=>by simp only [Nat.zero_add];exact JL.nil (kk (b',cap') nofun))
          · (intro xx EF MF Q kk;(try refine JL.aV rfl rfl ?_);exact JL.q (OQ.bM rfl rfl rfl (by decide) rfl) rfl (JL.nil (kk default nofun)))
          · (intro xx EF MF Q kk;(try refine JL.aV rfl rfl ?_);exact JL.q (OQ.load jc rfl .here hkp2) rfl (JL.nil (kk default nofun)))
          · (intro xx EF MF Q kk;(try refine JL.aV rfl rfl ?_);exact JL.q (OQ.move rfl) rfl (JL.nil (kk default nofun)))
          · (intro xx EF MF Q kk;(try refine JL.aV rfl rfl ?_);exact JL.q (OQ.aY (a:=i) (b:=1) rfl rfl (by omega)) rfl (JL.nil (kk default nofun)))
          · (intro xx EF MF Q kk;(try refine JL.aV rfl rfl ?_);exact JL.q (OQ.nH (lo:=i+1) (len:=k.l.length) (cap:=k.cap) (ad:=some ⟨ba,ja,none⟩) Tryz.underlying24 tE rfl rfl (by omega)) rfl (JL.nil (kk default nofun)))
          · (intro xx EF MF Q kk;exact JL.append (k:=i) (cap:=(xx 5).2) (cs:=(aX (k.l.drop (i+1))).flatten) (m:=k.l.length - (i+1)) (ad:=(if k.cap=i+1 then some ⟨ba,ja,none⟩ else (some (⟨ba,ja,none⟩ : Addr)).map (·.add ((i+1) * 65)))) (sc:=k.cap - (i+1)) (xs:=(aX (k.l.take i)).flatten) (fun b' cap'=>⟨b',Sl.aE 57 65 (i+(k.l.length - (i+1))) cap' ((aX (k.l.take i)).flatten++(aX (k.l.drop (i+1))).flatten),true⟩::MF) Tryz.underlying24 CJ rfl rfl (fun _ _=>.here) lB (fun w' hw'=>cB w' (hk.holds hw' rfl)) (iH _) rfl (by decide) (by omega) (by omega) rfl fun b' cap'=>JL.nil (kk (b',cap') nofun))
          · (intro xx EF MF Q kk;(try refine JL.aV rfl rfl ?_);exact JL.q (OQ.bM rfl rfl rfl (by decide) rfl) rfl (JL.nil (kk default nofun)))
          · (intro xx EF MF Q kk;exact JL.az (r:=sec s k.v) (r':=sec s (.slice (some ⟨(xx 11).1,0,none⟩) (i+(k.l.length - (i+1))) (xx 11).2)) CK rfl rfl rfl rfl .here (by rw [hn];decide) (fD hs _ s.kept _) (JL.nil (kk (xx 11) (fun k h=>by cases h;rfl))))
        · intro xx hx
          have e13 : xx 13=xx 11:=hx 13 11 (by decide) rfl
          show JE _ _ _ _ _ [(4,Pt b4 0),(8,Pt b8 0),(15,N i),(16,pl.v),(18,Pt b18 0)] (⟨b18,Row 26 (sec s (.slice (some ⟨(xx 13).1,0,none⟩) (i+(k.l.length - (i+1))) (xx 13).2)),true⟩::⟨(xx 11).1,Sl.aE 57 65 (i+(k.l.length - (i+1))) (xx 11).2 ((aX (k.l.take i)).flatten++(aX (k.l.drop (i+1))).flatten),true⟩::⟨b8,Row 26 (sec dm aP),true⟩::((pl.bW++bS 5 qh (rest.map U8))++[]))
          rw [e13,List.append_nil,pE,pL]
          generalize xx 11=zz
          obtain ⟨bx,cx⟩:=zz
          clear hx e13 xx vs Ms e4 cF cB lF lB pE pL
          try dsimp only
          repeat (first | refine JL.q (by first|(apply OQ.af (cs:=sec s (.slice (some ⟨bx,0,none⟩) (s.kept.eraseIdx i).length cx));exact iy;exact dV;rfl;exact .here;exact (hn _);exact Row.all)|(apply OQ.move;rfl)) rfl ?_ | refine JC.seq ?_ | refine JC.region ?_ | refine JE.next ?_)
          refine JL.ag (cs:=sec s (.slice (some ⟨bx,0,none⟩) (s.kept.eraseIdx i).length cx)) dV rfl rfl (hn _) (bw rfl) (.there (.there .here)) (ay br _) ?_
          repeat (first | refine JL.q (by (apply OQ.assign;rfl)) rfl ?_ | refine JL.nil ?_ | refine JE.next ?_)
          refine JC.ret ?_
          repeat (first | refine JE.aK ?_ | refine JE.qA ?_)
          have hae : ∀ x ∈ s.kept.eraseIdx i,x.ok:=fun x hx=>hs.kept x (List.mem_of_mem_eraseIdx hx)
          refine JE.jG rfl (RV.av iy dV rfl (.there (.there .here)) (hn _) Row.all) (RV.tmp rfl) (RV.tmp rfl) fun w' hw=>?_
          rw [hd]
          exact ⟨⟨⟨some ⟨bx,0,none⟩,cx,s.kept.eraseIdx i⟩,pl,⟨bx,Sl.aE 57 65 (s.kept.eraseIdx i).length cx (aX (s.kept.eraseIdx i)).flatten,true⟩::pl.bW,(by show s.kept.eraseIdx i=k.l.eraseIdx i;rw [he]),hpl.val,.inr fun hw=>J6 hae hw .here,fun hw=>aJ.jf (hw.weak (.drop _ _ _ (an.refl _))) hpl.none,fun e he=>by rcases List.mem_cons.1 he with rfl | h;rfl;exact aJ.gS _ e h⟩,rfl,hw.weak (.drop _ _ _ (.keep _ _ _ _ _ _ (fun _ h=>h) (.drop _ _ _ (dN _ _))))⟩
      · have hd:=hdn ho
        have eo : decide ((o.2 : Int)=0)=false:=decide_eq_false (by omega)
        repeat (first | refine JL.q (by first|(apply OQ.extract;rfl;rfl)|(apply OQ.ta (a:=(o.2 : Int)) (b:=0);rfl;rfl;exact eo)|(apply OQ.move;rfl)|(apply OQ.assign;rfl)) rfl ?_ | refine JC.seq ?_ | refine JC.region ?_ | refine JL.nil ?_ | refine JE.next ?_)
        refine JC.cond_true rfl rfl ?_
        repeat (first | refine JL.q (by first|(apply OQ.af (cs:=sec s k.v);exact iy;exact dV;rfl;exact (.there (.there (.there (.there .here))));exact (hn _);exact Row.all)|(apply OQ.move;rfl)) rfl ?_ | refine JC.seq ?_ | refine JC.region ?_)
        refine JL.ag (cs:=sec s k.v) dV rfl rfl (hn _) (bw rfl) (.there (.there .here)) (ay br _) ?_
        repeat (first | refine JL.q (by (apply OQ.assign;rfl)) rfl ?_ | refine JL.nil ?_ | refine JE.next ?_)
        refine JC.ret ?_
        repeat (first | refine JE.aK ?_ | refine JE.qA ?_)
        exact JE.jG rfl (RV.av iy dV rfl (.there (.there .here)) (hn _) Row.all) (RV.tmp rfl) (RV.tmp rfl) fun w' hw=>herr hd rfl (hw.weak (an.nil _))
    all_goals
      repeat (first | refine JQ.q (by first|(apply OQ.load;exact jc;rfl;exact (.there (.there (.there (.there .here))));exact hkp2)|(apply OQ.kU (i:=i) (len:=k.l.length) (cap:=k.cap) (b:=ba) (j:=ja);exact Tryz.underlying24;exact tE;rfl;rfl;exact hlt)|(apply OQ.bR;exact bB;rfl;exact la;exact (by simp);exact cN)|(apply OQ.cQ (cs:=x.chain.map U8);exact aQ;rfl;exact (lC ▸ aB);exact la;exact (by simp);exact cC)|(apply OQ.af (cs:=h.chain.map U8);exact aQ;exact aB;rfl;exact (.there .here);exact hcl;exact (Row.cells (eU hc)))|(apply OQ.load;exact bB;rfl;exact (.there .here);exact hr3)|(apply OQ.LQ;exact hok.c;exact hc;rfl;rfl;exact he1)|(apply OQ.Kg;rfl;rfl;exact he2)|(apply OQ.fJ;rfl;rfl)|(apply OQ.fl;rfl;rfl)|(apply OQ.move;rfl)|(apply OQ.bM;rfl;rfl;rfl;exact (by decide);rfl)) rfl ?_ | refine JQ.nil ?_ | refine JE.next ?_ | refine JQ.aV rfl rfl ?_ | refine JQ.lu rfl rfl rfl rfl ?_)
      refine JC.cond_false rfl rfl ?_
      repeat (first | refine JL.q (by first|(apply OQ.aY (a:=i) (b:=1);rfl;rfl;exact (by omega))|(apply OQ.move;rfl)|(apply OQ.assign;rfl)) rfl ?_ | refine JC.region ?_ | refine JC.skip ?_ | refine JL.nil ?_ | refine JE.next ?_ | refine JE.aq ?_)
      refine JE.again (i:=i) (i+1) ⟨hlt,fun j hj=>?_⟩ (by omega) (by repeat (first | exact ai.nil | refine ai.cons _ _ _ rfl ?_)) (an.refl _)
      by_cases e : j=i
      · rw [e,hx,hit]
        rfl
      · exact hin j (by omega)
  · obtain rfl : i=k.l.length:=by omega
    have hix : sI h s.kept=none:=by rw [← he];exact HA hin
    clear hin hi
    have hcap0 : (h.chain.map U8).length=32:=hcl
    have hot : (s.other.map U8).length=32:=by rw [List.length_map];exact hs.other
    have hr2 : ∀ o,Row 32 (hdc h) o→cellAt o 32=some (N h.prev):=Row.cell (lJ hc)
    have hr3 : ∀ o,Row 32 (hdc h) o→cellAt o 33=some (N h.num):=Row.cell (ke hc)
    have htk : ∀ o,Row 26 (sec s k.v) o→cellAt o 97=some (.bool s.takes):=Row.cell (gN hs _)
    repeat (first | refine JL.q (by first|(apply OQ.load;exact jc;rfl;exact (.there (.there (.there (.there .here))));exact hkp)|(apply OQ.len (k:=k.l.length) (ad:=k.ad) (cap:=k.cap);exact Tryz.underlying24;rfl)|(apply OQ.gM (a:=k.l.length) (b:=k.l.length);rfl;rfl;exact hlt)|(apply OQ.move;rfl)|(apply OQ.bM;rfl;rfl;rfl;exact (by decide);rfl)) rfl ?_ | refine JC.seq ?_ | refine JC.region ?_ | refine JL.nil ?_ | refine JE.next ?_)
    refine JC.cond_false rfl rfl ?_
    repeat (first | refine JL.q (by (apply OQ.af (cs:=sec s k.v);exact iy;exact dV;rfl;exact (.there (.there (.there (.there .here))));exact (hn _);exact Row.all)) rfl ?_ | refine JC.seq ?_ | refine JC.region ?_ | refine JC.exit ?_ | refine JE.next ?_ | refine JE.ax ?_ | refine JE.aA ?_)
    refine JL.alloc uH rfl fun b19 _=>?_
    refine JL.ag (cs:=sec s k.v) dV rfl rfl (hn _) (bw rfl) .here (ay br _) ?_
    refine JL.nil (JE.next ?_)
    refine JC.seq (JC.region ?_)
    repeat (refine JL.q (by (apply OQ.assign;rfl)) rfl ?_)
    refine JL.nil (JE.next ?_)
    refine JC.mid (fun _ : J7=>[(4,Pt b4 0),(7,Pt b7 0),(8,Pt b8 0),(11,Pt b11 0),(12,aC qh rest.length),(14,.slice (some ⟨bj,0,none⟩) W.length kj),(19,Pt b19 0)]) (fun r=>⟨b19,Row 26 (sec r.n r.K.v),true⟩::⟨bj,Sl.aE 5 1 W.length kj (W.map U8),true⟩::⟨b11,Row 32 (hdc h),true⟩::⟨b8,Row 26 (sec dm aP),true⟩::⟨b7,Row 23 (fresh.map U8),true⟩::⟨b4,Row 26 (sec s k.v),true⟩::(r.es++bS 5 qh (rest.map U8))) (NI w (jB s h fresh)) ?_ ?_
    · have ha0 : (h.chain.map U8).length=32:=hcl
      by_cases hA : h.chain=s.other∧s.takes=true
      · have hon : jB s h fresh=some s:=by rw [jB,if_pos hA]
        have g1 : decide (h.chain=s.other)=true:=decide_eq_true hA.1
        have htk' : ∀ o,Row 26 (sec s k.v) o→cellAt o 97=some (.bool true):=by rw [← hA.2];exact htk
        repeat (first | refine JL.q (by first|(apply OQ.af (cs:=h.chain.map U8);exact aQ;exact aB;rfl;exact (.there (.there .here));exact hcl;exact (Row.cells (eU hc)))|(apply OQ.af (cs:=s.other.map U8);exact aQ;exact aB;rfl;exact (.there (.there (.there (.there (.there .here)))));exact hot;exact (Row.cells (ee hs _)))|(apply OQ.LP;exact hc;exact hs.other;rfl;rfl;exact g1)|(apply OQ.load;exact gv;rfl;exact (.there (.there (.there (.there (.there .here)))));exact htk')|(apply OQ.not;rfl)|(apply OQ.fl;rfl;rfl)|(apply OQ.move;rfl)|(apply OQ.bM;rfl;rfl;rfl;exact (by decide);rfl)) rfl ?_ | refine JC.seq ?_ | refine JC.region ?_ | refine JL.nil ?_ | refine JE.next ?_ | refine JL.aV rfl rfl ?_)
        refine JC.cond_false rfl rfl ?_
        repeat (refine JC.skip ?_)
        exact JE.mid (⟨s,k,[]⟩ : J7) ⟨hon,hs,he,fun w' hw'=>hk.holds hw' rfl,hk0,(by show s.taken≤_;omega)⟩ (by repeat (first | exact ai.nil | refine ai.cons _ _ _ rfl ?_)) (an.refl _)
      have hon0 : jB s h fresh=m6 s h fresh:=by rw [jB,if_neg hA]
      obtain ⟨gg1,g1⟩ : ∃ g,decide (h.chain=s.other)=g:=⟨_,rfl⟩
      obtain ⟨g2,hg2⟩ : ∃ g,s.takes=g:=⟨_,rfl⟩
      have htk' : ∀ o,Row 26 (sec s k.v) o→cellAt o 97=some (.bool g2):=by rw [← hg2];exact htk
      have hgg : (gg1 && g2)=false:=by
        rw [← g1,← hg2,Bool.and_eq_false_iff]
        by_cases h1 : h.chain=s.other
        · exact .inr (by simpa using fun h2=>hA ⟨h1,h2⟩)
        · exact .inl (decide_eq_false h1)
      cases gg1
      case' true=>
        obtain rfl : g2=false:=hgg
      all_goals
        repeat (first | refine JL.q (by first|(apply OQ.af (cs:=h.chain.map U8);exact aQ;exact aB;rfl;exact (.there (.there .here));exact hcl;exact (Row.cells (eU hc)))|(apply OQ.af (cs:=s.other.map U8);exact aQ;exact aB;rfl;exact (.there (.there (.there (.there (.there .here)))));exact hot;exact (Row.cells (ee hs _)))|(apply OQ.LP;exact hc;exact hs.other;rfl;rfl;exact g1)|(apply OQ.load;exact gv;rfl;exact (.there (.there (.there (.there (.there .here)))));exact htk')|(apply OQ.not;rfl)|(apply OQ.fl;rfl;rfl)|(apply OQ.fJ;rfl;rfl)|(apply OQ.move;rfl)|(apply OQ.bM;rfl;rfl;rfl;exact (by decide);rfl)) rfl ?_ | refine JC.seq ?_ | refine JC.region ?_ | refine JL.nil ?_ | refine JE.next ?_ | refine JL.aV rfl rfl ?_ | refine JL.lu rfl rfl rfl rfl ?_)
        refine JC.cond_true rfl rfl ?_
        refine JC.mid (fun _ : J7=>[(4,Pt b4 0),(7,Pt b7 0),(8,Pt b8 0),(11,Pt b11 0),(12,aC qh rest.length),(14,.slice (some ⟨bj,0,none⟩) W.length kj),(19,Pt b19 0)]) (fun r=>⟨b19,Row 26 (sec r.n r.K.v),true⟩::⟨bj,Sl.aE 5 1 W.length kj (W.map U8),true⟩::⟨b11,Row 32 (hdc h),true⟩::⟨b8,Row 26 (sec dm aP),true⟩::⟨b7,Row 23 (fresh.map U8),true⟩::⟨b4,Row 26 (sec s k.v),true⟩::(r.es++bS 5 qh (rest.map U8))) (NI w (if s.takes=true then leave s h.prev else some s)) ?_ ?_
        · by_cases hst : s.takes=true
          · have htk2 : ∀ o,Row 26 (sec s k.v) o→cellAt o 97=some (.bool true):=by rw [← hst];exact htk
            repeat (first | refine JL.q (by first|(apply OQ.load;exact gv;rfl;exact (.there (.there (.there (.there (.there .here)))));exact htk2)|(apply OQ.bM;rfl;rfl;rfl;exact (by decide);rfl)) rfl ?_ | refine JC.seq ?_ | refine JC.region ?_ | refine JL.nil ?_ | refine JE.next ?_)
            refine JC.cond_true rfl rfl ?_
            cases hlv : leave s h.prev with
            | none=>
              have hd:=mT (side:=side.l) hv (sK (fresh:=fresh) hix (by rw [hon0,m6,if_pos hst,hlv];rfl))
              repeat (first | refine JL.q (by first|(apply OQ.af (cs:=sec s k.v);exact iy;exact dV;rfl;exact .here;exact (hn _);exact Row.all)|(apply OQ.load;exact bB;rfl;exact (.there (.there .here));exact hr2)|(apply OQ.au (vs:=[.agg (sec s k.v).toArray,N h.prev]);exact jn;rfl;exact (fun w' _=>uR s k hs h.prev hlv w' (by omega) (by omega)))|(apply OQ.extract;rfl;rfl)|(apply OQ.move;rfl)|(apply OQ.bM;rfl;rfl;rfl;exact (by decide);rfl)) rfl ?_ | refine JC.seq ?_ | refine JC.region ?_)
              refine JL.ag (cs:=sec s k.v) dV rfl rfl (hn _) (bw rfl) .here (hn _) ?_
              repeat (first | refine JL.q (by first|(apply OQ.not;rfl)|(apply OQ.move;rfl)|(apply OQ.assign;rfl)) rfl ?_ | refine JC.seq ?_ | refine JC.region ?_ | refine JL.nil ?_ | refine JE.next ?_)
              refine JC.cond_true rfl rfl ?_
              repeat (first | refine JL.q (by (apply OQ.af (cs:=sec s k.v);exact iy;exact dV;rfl;exact (.there (.there (.there (.there (.there .here)))));exact (hn _);exact Row.all)) rfl ?_ | refine JC.seq ?_ | refine JC.region ?_)
              refine JL.ag (cs:=sec s k.v) dV rfl rfl (hn _) (bw rfl) (.there (.there (.there .here))) (ay br _) ?_
              repeat (first | refine JL.q (by (apply OQ.assign;rfl)) rfl ?_ | refine JL.nil ?_ | refine JE.next ?_)
              refine JC.ret ?_
              repeat (refine JE.aK ?_)
              exact JE.jG rfl (RV.av iy dV rfl (.there (.there (.there .here))) (hn _) Row.all) (RV.tmp rfl) (RV.tmp rfl) fun w' hw=>herr hd rfl (hw.weak (an.nil _))
            | some n1=>
            obtain ⟨hmo,hml,hmt⟩:=me hs hlv
            have hmm:=fun v=>ay hmo v
            repeat (first | refine JL.q (by first|(apply OQ.af (cs:=sec s k.v);exact iy;exact dV;rfl;exact .here;exact (hn _);exact Row.all)|(apply OQ.load;exact bB;rfl;exact (.there (.there .here));exact hr2)|(apply OQ.bM;rfl;rfl;rfl;exact (by decide);rfl)) rfl ?_ | refine JC.seq ?_ | refine JC.region ?_)
            refine JL.bV (ι:=yC n1.kept) (vs:=[.agg (sec s k.v).toArray,N h.prev]) (fun r=>.tuple #[.agg (sec n1 r.v).toArray,.bool true]) (fun r=>r.bW) jn rfl rfl (fun r=>r.wr) (fun w' hw'=>sW s k hs he hk0 h.prev n1 hlv w' (by omega) (by omega) (hk.holds hw' rfl)) ?_
            intro r
            refine JL.dG (M':=⟨b19,Row 26 (sec s k.v),true⟩::⟨bj,Sl.aE 5 1 W.length kj (W.map U8),true⟩::⟨b11,Row 32 (hdc h),true⟩::⟨b8,Row 26 (sec dm aP),true⟩::⟨b7,Row 23 (fresh.map U8),true⟩::⟨b4,Row 26 (sec s k.v),true⟩::(r.bW++bS 5 qh (rest.map U8))) (List.perm_append_comm_assoc _ [_,_,_,_,_,_] _) ?_
            have htv1 : r.v.oneCell'=true:=rfl
            repeat (refine JL.q (by first|(apply OQ.extract;rfl;rfl)|(apply OQ.move;rfl)) rfl ?_)
            refine JL.ag (cs:=sec n1 r.v) dV rfl rfl (hmm _) (bw htv1) .here (hn _) ?_
            repeat (first | refine JL.q (by first|(apply OQ.not;rfl)|(apply OQ.move;rfl)|(apply OQ.assign;rfl)) rfl ?_ | refine JC.seq ?_ | refine JC.region ?_ | refine JL.nil ?_ | refine JE.next ?_)
            refine JC.cond_false rfl rfl ?_
            repeat (refine JC.skip ?_)
            exact JE.mid (⟨n1,r.K,r.bW⟩ : J7) ⟨by rw [if_pos hst],hmo,rfl,fun w' hw'=>yC.ok (M:=[]) hmo.kept (by rw [List.append_nil];exact hw'),hml,(by show n1.taken≤_;omega)⟩ (by repeat (first | exact ai.nil | refine ai.cons _ _ _ rfl ?_)) (an.refl _)
          · have htk2 : ∀ o,Row 26 (sec s k.v) o→cellAt o 97=some (.bool false):=by rw [← (by simpa using hst : s.takes=false)];exact htk
            repeat (first | refine JL.q (by first|(apply OQ.load;exact gv;rfl;exact (.there (.there (.there (.there (.there .here)))));exact htk2)|(apply OQ.bM;rfl;rfl;rfl;exact (by decide);rfl)) rfl ?_ | refine JC.seq ?_ | refine JC.region ?_ | refine JL.nil ?_ | refine JE.next ?_)
            refine JC.cond_false rfl rfl ?_
            repeat (refine JC.skip ?_)
            exact JE.mid (⟨s,k,[]⟩ : J7) ⟨by rw [if_neg hst],hs,he,fun w' hw'=>hk.holds hw' rfl,hk0,(by show s.taken≤_;omega)⟩ (by repeat (first | exact ai.nil | refine ai.cons _ _ _ rfl ?_)) (an.refl _)
        rintro ⟨n1,mV,es1⟩ ⟨on1,hno,hKl,hKo,hKn,hnt⟩
        dsimp only at on1 hno hKl hKo hKn hnt ⊢
        have honT : jB s h fresh=some (ir n1 h.chain fresh):=by
          rw [hon0,m6]
          by_cases hst : s.takes=true
          · rw [if_pos hst] at on1 ⊢
            rw [on1]
            rfl
          · rw [if_neg hst] at on1 ⊢
            cases on1
            rfl
        have okT:=pV hno hc hf
        have lT : mV.l=(ir n1 h.chain fresh).kept:=hKl
        have nT : (ir n1 h.chain fresh).kept.length≤2000:=hKn
        have tT : (ir n1 h.chain fresh).taken≤2147483648:=Nat.zero_le _
        have eT : ir n1 h.chain fresh=⟨cr (cr n1.root (aH n1.own h.chain)) (aH fresh h.chain),fresh,h.chain,true,true,dO (cr n1.root (aH n1.own h.chain)) (aH fresh h.chain),dO n1.root (aH n1.own h.chain),0,0,n1.sent,n1.kept⟩:=rfl
        have cM:=fun w' : World=>uB n1.own h.chain hno.own hc w'
        have cM2:=fun w' : World=>uB fresh h.chain hf hc w'
        have hm1 : (aH n1.own h.chain).length=32:=iS _
        have hm2 : (aH fresh h.chain).length=32:=iS _
        have cT:=fun w' : World=>yx n1.root _ hno.root hm1 w'
        have hla : (cr n1.root (aH n1.own h.chain)).length=32:=fG _ _
        have cT2:=fun w' : World=>yx _ _ hla hm2 w'
        have hla2 : (cr (cr n1.root (aH n1.own h.chain)) (aH fresh h.chain)).length=32:=fG _ _
        have hlt : (dO n1.root (aH n1.own h.chain)).length=32:=eV _ _
        have hlt2 : (dO (cr n1.root (aH n1.own h.chain)) (aH fresh h.chain)).length=32:=eV _ _
        generalize ir n1 h.chain fresh=tu at *
        generalize dO (cr n1.root (aH n1.own h.chain)) (aH fresh h.chain)=c2 at *
        generalize cr (cr n1.root (aH n1.own h.chain)) (aH fresh h.chain)=a2 at *
        generalize dO n1.root (aH n1.own h.chain)=c1 at *
        generalize cr n1.root (aH n1.own h.chain)=a1 at *
        generalize aH n1.own h.chain=m1 at *
        generalize aH fresh h.chain=m2 at *
        have l1 : (a1.map U8).length=32:=by rw [List.length_map];exact hla
        have l2 : (c1.map U8).length=32:=by rw [List.length_map];exact hlt
        have l3 : (a2.map U8).length=32:=by rw [List.length_map];exact hla2
        have l4 : (c2.map U8).length=32:=by rw [List.length_map];exact hlt2
        have l5 : (n1.root.map U8).length=32:=by rw [List.length_map];exact hno.root
        have l6 : (n1.own.map U8).length=32:=by rw [List.length_map];exact hno.own
        obtain ⟨kv,hkv⟩ : ∃ kv,mV.v=kv:=⟨_,rfl⟩
        have hkv1 : kv.oneCell'=true:=by rw [← hkv];rfl
        rw [hkv]
        have hn0:=ay hno kv
        have k1 : ({ n1 with other:=h.chain } : bA).ok:=⟨hno.root,hno.own,hc,hno.send,hno.take,hno.kept⟩
        have p1:=jr hno kv h.chain hc
        obtain ⟨s1,e101⟩ : ∃ x,({ n1 with other:=h.chain } : bA)=x:=⟨_,rfl⟩
        rw [e101] at k1 p1
        have hn1:=ay k1 kv
        have k2 : ({ s1 with root:=a1 } : bA).ok:=⟨hla,k1.own,k1.other,k1.send,k1.take,k1.kept⟩
        have p2:=fC k1 kv a1 hla
        obtain ⟨s2,e102⟩ : ∃ x,({ s1 with root:=a1 } : bA)=x:=⟨_,rfl⟩
        rw [e102] at k2 p2
        have hn2:=ay k2 kv
        have k3 : ({ s2 with take:=c1 } : bA).ok:=⟨k2.root,k2.own,k2.other,k2.send,hlt,k2.kept⟩
        have p3:=gj k2 kv c1 hlt
        obtain ⟨s3,e103⟩ : ∃ x,({ s2 with take:=c1 } : bA)=x:=⟨_,rfl⟩
        rw [e103] at k3 p3
        have hn3:=ay k3 kv
        have k4 : ({ s3 with own:=fresh } : bA).ok:=⟨k3.root,hf,k3.other,k3.send,k3.take,k3.kept⟩
        have p4:=jg k3 kv fresh hf
        obtain ⟨s4,e104⟩ : ∃ x,({ s3 with own:=fresh } : bA)=x:=⟨_,rfl⟩
        rw [e104] at k4 p4
        have hn4:=ay k4 kv
        have k5 : ({ s4 with root:=a2 } : bA).ok:=⟨hla2,k4.own,k4.other,k4.send,k4.take,k4.kept⟩
        have p5:=fC k4 kv a2 hla2
        obtain ⟨s5,e105⟩ : ∃ x,({ s4 with root:=a2 } : bA)=x:=⟨_,rfl⟩
        rw [e105] at k5 p5
        have hn5:=ay k5 kv
        have k6 : ({ s5 with send:=c2 } : bA).ok:=⟨k5.root,k5.own,k5.other,hlt2,k5.take,k5.kept⟩
        have p6:=iA k5 kv c2 hlt2
        obtain ⟨s6,e106⟩ : ∃ x,({ s5 with send:=c2 } : bA)=x:=⟨_,rfl⟩
        rw [e106] at k6 p6
        have hn6:=ay k6 kv
        have k7 : ({ s6 with bZ:=true } : bA).ok:=⟨k6.root,k6.own,k6.other,k6.send,k6.take,k6.kept⟩
        have p7:=js k6 kv true
        obtain ⟨s7,e107⟩ : ∃ x,({ s6 with bZ:=true } : bA)=x:=⟨_,rfl⟩
        rw [e107] at k7 p7
        have hn7:=ay k7 kv
        have k8 : ({ s7 with takes:=true } : bA).ok:=⟨k7.root,k7.own,k7.other,k7.send,k7.take,k7.kept⟩
        have p8:=nh k7 kv true
        obtain ⟨s8,e108⟩ : ∃ x,({ s7 with takes:=true } : bA)=x:=⟨_,rfl⟩
        rw [e108] at k8 p8
        have hn8:=ay k8 kv
        have k9 : ({ s8 with prev:=n1.sent } : bA).ok:=⟨k8.root,k8.own,k8.other,k8.send,k8.take,k8.kept⟩
        have p9:=ow k8 kv n1.sent
        obtain ⟨s9,e109⟩ : ∃ x,({ s8 with prev:=n1.sent } : bA)=x:=⟨_,rfl⟩
        rw [e109] at k9 p9
        have hn9:=ay k9 kv
        have k10 : ({ s9 with sent:=0 } : bA).ok:=⟨k9.root,k9.own,k9.other,k9.send,k9.take,k9.kept⟩
        have p10:=j8 k9 kv 0
        obtain ⟨s10,e110⟩ : ∃ x,({ s9 with sent:=0 } : bA)=x:=⟨_,rfl⟩
        rw [e110] at k10 p10
        have hn10:=ay k10 kv
        have k11 : ({ s10 with taken:=0 } : bA).ok:=⟨k10.root,k10.own,k10.other,k10.send,k10.take,k10.kept⟩
        have p11:=fN k10 kv 0
        obtain ⟨s11,e111⟩ : ∃ x,({ s10 with taken:=0 } : bA)=x:=⟨_,rfl⟩
        rw [e111] at k11 p11
        have hn11:=ay k11 kv
        have g1 : s1.root=n1.root∧s1.own=n1.own∧s1.other=h.chain:=by rw [← e101];exact ⟨rfl,rfl,rfl⟩
        have g4 : s4.root=a1∧s4.own=fresh∧s4.other=h.chain:=by rw [← e104,← e103,← e102,← e101];exact ⟨rfl,rfl,rfl⟩
        have g8 : s8.sent=n1.sent:=by rw [← e108,← e107,← e106,← e105,← e104,← e103,← e102,← e101]
        have gT : sec tu kv=sec s11 kv:=by rw [eT,← e111,← e110,← e109,← e108,← e107,← e106,← e105,← e104,← e103,← e102,← e101]
        have r1:=jH k1 kv
        have o1:=j7 k1 kv
        have t1:=ee k1 kv
        rw [g1.1] at r1
        rw [g1.2.1] at o1
        rw [g1.2.2] at t1
        have r4:=jH k4 kv
        have o4:=j7 k4 kv
        have t4:=ee k4 kv
        rw [g4.1] at r4
        rw [g4.2.1] at o4
        rw [g4.2.2] at t4
        have e8:=jI k8 kv
        rw [g8] at e8
        clear eT e111 e110 e109 e108 e107 e106 e105 e104 e103 e102 e101 g1 g4 g8
        repeat (first | refine JL.q (by first|(apply OQ.af (cs:=h.chain.map U8);exact aQ;exact aB;rfl;exact (.there (.there .here));exact hcl;exact (Row.cells (eU hc)))|(apply OQ.bM;rfl;rfl;rfl;exact (by decide);rfl)) rfl ?_ | refine JC.seq ?_ | refine JC.region ?_)
        refine JL.aW (r:=sec n1 kv) (r':=sec s1 kv) aB rfl rfl hcl (aU _) .here (by rw [hn0,hcl];decide) p1 ?_
        repeat (first | refine JC.seq ?_ | refine JL.nil ?_ | refine JE.next ?_)
        let vs : Nat→Nat→Value:=fun j y=>match j with
          | 0=>Pt b19 0
          | 1=>.agg (n1.root.map U8).toArray
          | 2=>Pt b19 32
          | 3=>.agg (n1.own.map U8).toArray
          | 4=>Pt b19 64
          | 5=>.agg (h.chain.map U8).toArray
          | 6=>.agg (m1.map U8).toArray
          | 7=>.tuple #[.agg (a1.map U8).toArray,.agg (c1.map U8).toArray]
          | 8=>.tuple #[.agg (a1.map U8).toArray,.agg (c1.map U8).toArray]
          | 9=>.agg (a1.map U8).toArray
          | 10=>.agg (c1.map U8).toArray
          | 11=>Pt b19 0
          | 13=>Pt b19 130
          | _=>N 0
        let Ms : Nat→Nat→List aG:=fun j y=>match j with
          | 12=>[⟨b19,Row 26 (sec s2 kv),true⟩]
          | 14=>[⟨b19,Row 26 (sec s3 kv),true⟩]
          | 15=>[⟨b19,Row 26 (sec s1 kv),true⟩]
          | 16=>[⟨bj,Sl.aE 5 1 W.length kj (W.map U8),true⟩]
          | 17=>[⟨b11,Row 32 (hdc h),true⟩]
          | 18=>[⟨b8,Row 26 (sec dm aP),true⟩]
          | 19=>[⟨b7,Row 23 (fresh.map U8),true⟩]
          | 20=>[⟨b4,Row 26 (sec s k.v),true⟩]
          | 21=>(es1++bS 5 qh (rest.map U8))
          | _=>[]
        refine JC.grow (g:=⟨[(4,Pt b4 0),(7,Pt b7 0),(8,Pt b8 0),(11,Pt b11 0),(12,aC qh rest.length),(14,.slice (some ⟨bj,0,none⟩) W.length kj),(19,Pt b19 0)],22,vs,Ms,(fun j=>match j with | 1=>[(0,125)] | 3=>[(2,127)] | 5=>[(4,129)] | 6=>[(3,128),(5,130)] | 7=>[(1,126),(6,131)] | 8=>[(7,132)] | 9=>[(8,124)] | 10=>[(8,124)] | 12=>[(11,135),(9,133)] | 14=>[(13,136),(10,134)] | _=>[]),(fun j=>match j with | 1=>[15] | 3=>[15] | 5=>[15] | 12=>[15] | 14=>[12] | _=>[]),(fun j=>match j with | 12=>[15] | 14=>[12] | _=>[]),(fun j=>match j with | _=>none)⟩) [] [14,16,17,18,19,20,21] gK (by repeat (first | exact ai.nil | refine ai.cons _ _ _ rfl ?_)) ?_ (by kernel_rfl) (by kernel_rfl) (by kernel_rfl) ?_ ?_
        · show an (_::_::_::_::_::_::((es1++bS 5 qh (rest.map U8))++[])) _;rw [List.append_nil];exact an.refl _
        · refine ⟨?_,?_,?_,?_,?_,?_,?_,?_,?_,?_,?_,?_,?_,?_,?_,trivial⟩
          · (intro xx EF MF Q kk;(try refine JL.aV rfl rfl ?_);exact JL.q (OQ.bM rfl rfl rfl (by decide) rfl) rfl (JL.nil (kk default nofun)))
          · (intro xx EF MF Q kk;(try refine JL.aV rfl rfl ?_);exact JL.q (OQ.af (cs:=n1.root.map U8) aQ aB rfl .here l5 (Row.cells r1)) rfl (JL.nil (kk default nofun)))
          · (intro xx EF MF Q kk;(try refine JL.aV rfl rfl ?_);exact JL.q (OQ.bM rfl rfl rfl (by decide) rfl) rfl (JL.nil (kk default nofun)))
          · (intro xx EF MF Q kk;(try refine JL.aV rfl rfl ?_);exact JL.q (OQ.af (cs:=n1.own.map U8) aQ aB rfl .here l6 (Row.cells o1)) rfl (JL.nil (kk default nofun)))
          · (intro xx EF MF Q kk;(try refine JL.aV rfl rfl ?_);exact JL.q (OQ.bM rfl rfl rfl (by decide) rfl) rfl (JL.nil (kk default nofun)))
          · (intro xx EF MF Q kk;(try refine JL.aV rfl rfl ?_);exact JL.q (OQ.af (cs:=h.chain.map U8) aQ aB rfl .here hcl (Row.cells t1)) rfl (JL.nil (kk default nofun)))
          · (intro xx EF MF Q kk;(try refine JL.aV rfl rfl ?_);exact JL.q (OQ.au (vs:=[.agg (n1.own.map U8).toArray,.agg (h.chain.map U8).toArray]) so rfl fun w' _=>cM w') rfl (JL.nil (kk default nofun)))
          · (intro xx EF MF Q kk;(try refine JL.aV rfl rfl ?_);exact JL.q (OQ.au (vs:=[.agg (n1.root.map U8).toArray,.agg (m1.map U8).toArray]) uP rfl fun w' _=>cT w') rfl (JL.nil (kk default nofun)))
          · (intro xx EF MF Q kk;(try refine JL.aV rfl rfl ?_);exact JL.q (OQ.move rfl) rfl (JL.nil (kk default nofun)))
          · (intro xx EF MF Q kk;(try refine JL.aV rfl rfl ?_);exact JL.q (OQ.extract rfl rfl) rfl (JL.nil (kk default nofun)))
          · (intro xx EF MF Q kk;(try refine JL.aV rfl rfl ?_);exact JL.q (OQ.extract rfl rfl) rfl (JL.nil (kk default nofun)))
          · (intro xx EF MF Q kk;(try refine JL.aV rfl rfl ?_);exact JL.q (OQ.bM rfl rfl rfl (by decide) rfl) rfl (JL.nil (kk default nofun)))
          · (intro xx EF MF Q kk;exact JL.aW (r:=sec s1 kv) (r':=sec s2 kv) aB rfl rfl l1 (aU _) .here (by rw [hn1,l1];decide) p2 (JL.nil (kk default nofun)))
          · (intro xx EF MF Q kk;(try refine JL.aV rfl rfl ?_);exact JL.q (OQ.bM rfl rfl rfl (by decide) rfl) rfl (JL.nil (kk default nofun)))
          · (intro xx EF MF Q kk;exact JL.aW (r:=sec s2 kv) (r':=sec s3 kv) aB rfl rfl l2 (aU _) .here (by rw [hn2,l2];decide) p3 (JL.nil (kk default nofun)))
        · intro xx hx
          show JE _ _ _ _ _ [(4,Pt b4 0),(7,Pt b7 0),(8,Pt b8 0),(11,Pt b11 0),(12,aC qh rest.length),(14,.slice (some ⟨bj,0,none⟩) W.length kj),(19,Pt b19 0)] (⟨b19,Row 26 (sec s3 kv),true⟩::⟨bj,Sl.aE 5 1 W.length kj (W.map U8),true⟩::⟨b11,Row 32 (hdc h),true⟩::⟨b8,Row 26 (sec dm aP),true⟩::⟨b7,Row 23 (fresh.map U8),true⟩::⟨b4,Row 26 (sec s k.v),true⟩::((es1++bS 5 qh (rest.map U8))++[]))
          rw [List.append_nil]
          clear hx xx vs Ms
          repeat (first | refine JL.q (by first|(apply OQ.af (cs:=fresh.map U8);exact aQ;exact aB;rfl;exact (.there (.there (.there (.there .here))));exact hlf;exact Row.all)|(apply OQ.bM;rfl;rfl;rfl;exact (by decide);rfl)) rfl ?_ | refine JC.seq ?_ | refine JC.region ?_ | refine JE.next ?_)
          refine JL.aW (r:=sec s3 kv) (r':=sec s4 kv) aB rfl rfl hlf (aU _) .here (by rw [hn3,hlf];decide) p4 ?_
          repeat (first | refine JC.seq ?_ | refine JL.nil ?_ | refine JE.next ?_)
          let vs : Nat→Nat→Value:=fun j y=>match j with
            | 0=>Pt b19 0
            | 1=>.agg (a1.map U8).toArray
            | 2=>Pt b19 32
            | 3=>.agg (fresh.map U8).toArray
            | 4=>Pt b19 64
            | 5=>.agg (h.chain.map U8).toArray
            | 6=>.agg (m2.map U8).toArray
            | 7=>.tuple #[.agg (a2.map U8).toArray,.agg (c2.map U8).toArray]
            | 8=>.tuple #[.agg (a2.map U8).toArray,.agg (c2.map U8).toArray]
            | 9=>.agg (a2.map U8).toArray
            | 10=>.agg (c2.map U8).toArray
            | 11=>Pt b19 0
            | 13=>Pt b19 98
            | _=>N 0
          let Ms : Nat→Nat→List aG:=fun j y=>match j with
            | 12=>[⟨b19,Row 26 (sec s5 kv),true⟩]
            | 14=>[⟨b19,Row 26 (sec s6 kv),true⟩]
            | 15=>[⟨b19,Row 26 (sec s4 kv),true⟩]
            | 16=>[⟨bj,Sl.aE 5 1 W.length kj (W.map U8),true⟩]
            | 17=>[⟨b11,Row 32 (hdc h),true⟩]
            | 18=>[⟨b8,Row 26 (sec dm aP),true⟩]
            | 19=>[⟨b7,Row 23 (fresh.map U8),true⟩]
            | 20=>[⟨b4,Row 26 (sec s k.v),true⟩]
            | 21=>(es1++bS 5 qh (rest.map U8))
            | _=>[]
          refine JC.grow (g:=⟨[(4,Pt b4 0),(7,Pt b7 0),(8,Pt b8 0),(11,Pt b11 0),(12,aC qh rest.length),(14,.slice (some ⟨bj,0,none⟩) W.length kj),(19,Pt b19 0)],22,vs,Ms,(fun j=>match j with | 1=>[(0,140)] | 3=>[(2,142)] | 5=>[(4,144)] | 6=>[(3,143),(5,145)] | 7=>[(1,141),(6,146)] | 8=>[(7,147)] | 9=>[(8,139)] | 10=>[(8,139)] | 12=>[(11,150),(9,148)] | 14=>[(13,151),(10,149)] | _=>[]),(fun j=>match j with | 1=>[15] | 3=>[15] | 5=>[15] | 12=>[15] | 14=>[12] | _=>[]),(fun j=>match j with | 12=>[15] | 14=>[12] | _=>[]),(fun j=>match j with | _=>none)⟩) [] [14,16,17,18,19,20,21] gK (by repeat (first | exact ai.nil | refine ai.cons _ _ _ rfl ?_)) ?_ (by kernel_rfl) (by kernel_rfl) (by kernel_rfl) ?_ ?_
          · show an (_::_::_::_::_::_::((es1++bS 5 qh (rest.map U8))++[])) _;rw [List.append_nil];exact an.refl _
          · refine ⟨?_,?_,?_,?_,?_,?_,?_,?_,?_,?_,?_,?_,?_,?_,?_,trivial⟩
            · (intro xx EF MF Q kk;(try refine JL.aV rfl rfl ?_);exact JL.q (OQ.bM rfl rfl rfl (by decide) rfl) rfl (JL.nil (kk default nofun)))
            · (intro xx EF MF Q kk;(try refine JL.aV rfl rfl ?_);exact JL.q (OQ.af (cs:=a1.map U8) aQ aB rfl .here l1 (Row.cells r4)) rfl (JL.nil (kk default nofun)))
            · (intro xx EF MF Q kk;(try refine JL.aV rfl rfl ?_);exact JL.q (OQ.bM rfl rfl rfl (by decide) rfl) rfl (JL.nil (kk default nofun)))
            · (intro xx EF MF Q kk;(try refine JL.aV rfl rfl ?_);exact JL.q (OQ.af (cs:=fresh.map U8) aQ aB rfl .here hlf (Row.cells o4)) rfl (JL.nil (kk default nofun)))
            · (intro xx EF MF Q kk;(try refine JL.aV rfl rfl ?_);exact JL.q (OQ.bM rfl rfl rfl (by decide) rfl) rfl (JL.nil (kk default nofun)))
            · (intro xx EF MF Q kk;(try refine JL.aV rfl rfl ?_);exact JL.q (OQ.af (cs:=h.chain.map U8) aQ aB rfl .here hcl (Row.cells t4)) rfl (JL.nil (kk default nofun)))
            · (intro xx EF MF Q kk;(try refine JL.aV rfl rfl ?_);exact JL.q (OQ.au (vs:=[.agg (fresh.map U8).toArray,.agg (h.chain.map U8).toArray]) so rfl fun w' _=>cM2 w') rfl (JL.nil (kk default nofun)))
            · (intro xx EF MF Q kk;(try refine JL.aV rfl rfl ?_);exact JL.q (OQ.au (vs:=[.agg (a1.map U8).toArray,.agg (m2.map U8).toArray]) uP rfl fun w' _=>cT2 w') rfl (JL.nil (kk default nofun)))
            · (intro xx EF MF Q kk;(try refine JL.aV rfl rfl ?_);exact JL.q (OQ.move rfl) rfl (JL.nil (kk default nofun)))
            · (intro xx EF MF Q kk;(try refine JL.aV rfl rfl ?_);exact JL.q (OQ.extract rfl rfl) rfl (JL.nil (kk default nofun)))
            · (intro xx EF MF Q kk;(try refine JL.aV rfl rfl ?_);exact JL.q (OQ.extract rfl rfl) rfl (JL.nil (kk default nofun)))
            · (intro xx EF MF Q kk;(try refine JL.aV rfl rfl ?_);exact JL.q (OQ.bM rfl rfl rfl (by decide) rfl) rfl (JL.nil (kk default nofun)))
            · (intro xx EF MF Q kk;exact JL.aW (r:=sec s4 kv) (r':=sec s5 kv) aB rfl rfl l3 (aU _) .here (by rw [hn4,l3];decide) p5 (JL.nil (kk default nofun)))
            · (intro xx EF MF Q kk;(try refine JL.aV rfl rfl ?_);exact JL.q (OQ.bM rfl rfl rfl (by decide) rfl) rfl (JL.nil (kk default nofun)))
            · (intro xx EF MF Q kk;exact JL.aW (r:=sec s5 kv) (r':=sec s6 kv) aB rfl rfl l4 (aU _) .here (by rw [hn5,l4];decide) p6 (JL.nil (kk default nofun)))
          · intro xx hx
            show JE _ _ _ _ _ [(4,Pt b4 0),(7,Pt b7 0),(8,Pt b8 0),(11,Pt b11 0),(12,aC qh rest.length),(14,.slice (some ⟨bj,0,none⟩) W.length kj),(19,Pt b19 0)] (⟨b19,Row 26 (sec s6 kv),true⟩::⟨bj,Sl.aE 5 1 W.length kj (W.map U8),true⟩::⟨b11,Row 32 (hdc h),true⟩::⟨b8,Row 26 (sec dm aP),true⟩::⟨b7,Row 23 (fresh.map U8),true⟩::⟨b4,Row 26 (sec s k.v),true⟩::((es1++bS 5 qh (rest.map U8))++[]))
            rw [List.append_nil]
            clear hx xx vs Ms
            repeat (first | refine JL.q (by (apply OQ.bM;rfl;rfl;rfl;exact (by decide);rfl)) rfl ?_ | refine JC.seq ?_ | refine JC.region ?_ | refine JE.next ?_)
            refine JL.az (r:=sec s6 kv) (r':=sec s7 kv) wh rfl rfl rfl rfl .here (by rw [hn6];decide) p7 ?_
            repeat (first | refine JL.q (by (apply OQ.bM;rfl;rfl;rfl;exact (by decide);rfl)) rfl ?_ | refine JC.seq ?_ | refine JC.region ?_ | refine JL.nil ?_ | refine JE.next ?_)
            refine JL.az (r:=sec s7 kv) (r':=sec s8 kv) wh rfl rfl rfl rfl .here (by rw [hn7];decide) p8 ?_
            repeat (first | refine JL.q (by first|(apply OQ.load;exact bB;rfl;exact .here;exact (Row.cell e8))|(apply OQ.bM;rfl;rfl;rfl;exact (by decide);rfl)) rfl ?_ | refine JC.seq ?_ | refine JC.region ?_ | refine JL.nil ?_ | refine JE.next ?_)
            refine JL.az (r:=sec s8 kv) (r':=sec s9 kv) nE rfl rfl rfl rfl .here (by rw [hn8];decide) p9 ?_
            repeat (first | refine JL.q (by (apply OQ.bM;rfl;rfl;rfl;exact (by decide);rfl)) rfl ?_ | refine JC.seq ?_ | refine JC.region ?_ | refine JL.nil ?_ | refine JE.next ?_)
            refine JL.az (r:=sec s9 kv) (r':=sec s10 kv) nE rfl rfl rfl rfl .here (by rw [hn9];decide) p10 ?_
            repeat (first | refine JL.q (by (apply OQ.bM;rfl;rfl;rfl;exact (by decide);rfl)) rfl ?_ | refine JC.region ?_ | refine JL.nil ?_ | refine JE.next ?_)
            refine JL.az (r:=sec s10 kv) (r':=sec s11 kv) nE rfl rfl rfl rfl .here (by rw [hn10];decide) p11 ?_
            repeat (refine JL.nil ?_)
            rw [← gT,← hkv]
            exact JE.mid (⟨tu,mV,es1⟩ : J7) ⟨honT,okT,lT,hKo,nT,tT⟩ (by repeat (first | exact ai.nil | refine ai.cons _ _ _ rfl ?_)) (an.refl _)
    rintro ⟨n,kk,es⟩ ⟨hon,hno,hKl,hKo,hKn,hnt⟩
    dsimp only at hon hno hKl hKo hKn hnt ⊢
    have hnn:=fun v=>ay hno v
    have hnk : ∀ o,Row 26 (sec n kk.v) o→cellAt o 163=some (N n.taken):=Row.cell (dL hno _)
    have hkO : ∀ {w' : World} {A : List aG} {e1 e2 e3 e4 e5 e6 : aG},ah w [] (e1::e2::e3::e4::e5::e6::(es++A)) w'→kk.ok w':=fun hw=>hKo _ (hw.weak (.drop _ _ _ (.drop _ _ _ (.drop _ _ _ (.drop _ _ _ (.drop _ _ _ (.drop _ _ _ (dN _ _))))))))
    by_cases hold : h.num<n.taken
    · have hd:=mT (side:=side.l) hv (Bp hix hon hold)
      repeat (first | refine JL.q (by first|(apply OQ.load;exact bB;rfl;exact (.there (.there .here));exact hr3)|(apply OQ.load;exact bB;rfl;exact .here;exact hnk)|(apply OQ.ig (a:=h.num) (b:=n.taken);rfl;rfl;exact hold)|(apply OQ.bM;rfl;rfl;rfl;exact (by decide);rfl)) rfl ?_ | refine JC.seq ?_ | refine JC.region ?_ | refine JL.nil ?_ | refine JE.next ?_)
      refine JC.cond_true rfl rfl ?_
      repeat (first | refine JL.q (by (apply OQ.af (cs:=sec s k.v);exact iy;exact dV;rfl;exact (.there (.there (.there (.there (.there .here)))));exact (hn _);exact Row.all)) rfl ?_ | refine JC.seq ?_ | refine JC.region ?_)
      refine JL.ag (cs:=sec s k.v) dV rfl rfl (hn _) (bw rfl) (.there (.there (.there .here))) (ay br _) ?_
      repeat (first | refine JL.q (by (apply OQ.assign;rfl)) rfl ?_ | refine JL.nil ?_ | refine JE.next ?_)
      refine JC.ret ?_
      repeat (refine JE.aK ?_)
      exact JE.jG rfl (RV.av iy dV rfl (.there (.there (.there .here))) (hn _) Row.all) (RV.tmp rfl) (RV.tmp rfl) fun w' hw=>herr hd rfl (hw.weak (an.nil _))
    repeat (first | refine JL.q (by first|(apply OQ.load;exact bB;rfl;exact (.there (.there .here));exact hr3)|(apply OQ.load;exact bB;rfl;exact .here;exact hnk)|(apply OQ.gM (a:=h.num) (b:=n.taken);rfl;rfl;exact hold)|(apply OQ.bM;rfl;rfl;rfl;exact (by decide);rfl)) rfl ?_ | refine JC.seq ?_ | refine JC.region ?_ | refine JL.nil ?_ | refine JE.next ?_)
    refine JC.cond_false rfl rfl ?_
    cases hlv : leave n h.num with
    | none=>
      have hd:=mT (side:=side.l) hv (Bq hix hon hold hlv)
      repeat (first | refine JL.q (by first|(apply OQ.af (cs:=sec n kk.v);exact iy;exact dV;rfl;exact .here;exact (hnn _);exact Row.all)|(apply OQ.load;exact bB;rfl;exact (.there (.there .here));exact hr3)|(apply OQ.au (vs:=[.agg (sec n kk.v).toArray,N h.num]);exact jn;rfl;exact (fun w' _=>uR n kk hno h.num hlv w' (by omega) hnt))|(apply OQ.extract;rfl;rfl)|(apply OQ.move;rfl)|(apply OQ.bM;rfl;rfl;rfl;exact (by decide);rfl)) rfl ?_ | refine JC.seq ?_ | refine JC.region ?_ | refine JC.skip ?_ | refine JE.next ?_)
      refine JL.ag (cs:=sec n kk.v) dV rfl rfl (hnn _) (bw rfl) .here (hnn _) ?_
      repeat (first | refine JL.q (by first|(apply OQ.not;rfl)|(apply OQ.move;rfl)|(apply OQ.assign;rfl)) rfl ?_ | refine JC.seq ?_ | refine JC.region ?_ | refine JL.nil ?_ | refine JE.next ?_)
      refine JC.cond_true rfl rfl ?_
      repeat (first | refine JL.q (by (apply OQ.af (cs:=sec s k.v);exact iy;exact dV;rfl;exact (.there (.there (.there (.there (.there .here)))));exact (hn _);exact Row.all)) rfl ?_ | refine JC.seq ?_ | refine JC.region ?_)
      refine JL.ag (cs:=sec s k.v) dV rfl rfl (hn _) (bw rfl) (.there (.there (.there .here))) (ay br _) ?_
      repeat (first | refine JL.q (by (apply OQ.assign;rfl)) rfl ?_ | refine JL.nil ?_ | refine JE.next ?_)
      refine JC.ret ?_
      repeat (refine JE.aK ?_)
      exact JE.jG rfl (RV.av iy dV rfl (.there (.there (.there .here))) (hn _) Row.all) (RV.tmp rfl) (RV.tmp rfl) fun w' hw=>herr hd rfl (hw.weak (an.nil _))
    | some m=>
    have hmk:=wg hix hon hold hlv
    obtain ⟨hmo,hml,hmt⟩:=me hno hlv
    have hmm:=fun v=>ay hmo v
    repeat (first | refine JL.q (by first|(apply OQ.af (cs:=sec n kk.v);exact iy;exact dV;rfl;exact .here;exact (hnn _);exact Row.all)|(apply OQ.load;exact bB;rfl;exact (.there (.there .here));exact hr3)|(apply OQ.bM;rfl;rfl;rfl;exact (by decide);rfl)) rfl ?_ | refine JC.seq ?_ | refine JC.region ?_ | refine JC.skip ?_ | refine JE.next ?_)
    refine JL.bV (ι:=yC m.kept) (vs:=[.agg (sec n kk.v).toArray,N h.num]) (fun r=>.tuple #[.agg (sec m r.v).toArray,.bool true]) (fun r=>r.bW) jn rfl rfl (fun r=>r.wr) (fun w' hw'=>sW n kk hno hKl hKn h.num m hlv w' (by omega) hnt (hkO hw')) ?_
    intro r
    refine JL.dG (M':=⟨b19,Row 26 (sec n kk.v),true⟩::⟨bj,Sl.aE 5 1 W.length kj (W.map U8),true⟩::⟨b11,Row 32 (hdc h),true⟩::⟨b8,Row 26 (sec dm aP),true⟩::⟨b7,Row 23 (fresh.map U8),true⟩::⟨b4,Row 26 (sec s k.v),true⟩::(r.bW++(es++bS 5 qh (rest.map U8)))) (List.perm_append_comm_assoc _ [_,_,_,_,_,_] _) ?_
    have htv1 : r.v.oneCell'=true:=rfl
    repeat (refine JL.q (by first|(apply OQ.extract;rfl;rfl)|(apply OQ.move;rfl)) rfl ?_)
    refine JL.ag (cs:=sec m r.v) dV rfl rfl (hmm _) (bw htv1) .here (hnn _) ?_
    repeat (first | refine JL.q (by first|(apply OQ.not;rfl)|(apply OQ.move;rfl)|(apply OQ.assign;rfl)) rfl ?_ | refine JC.seq ?_ | refine JC.region ?_ | refine JL.nil ?_ | refine JE.next ?_)
    refine JC.cond_false rfl rfl ?_
    have lt : (m.take.map U8).length=32:=by rw [List.length_map];exact hmo.take
    have cst : ∀ (w' : World),Calls Tryz.prog 32 [.agg (m.take.map U8).toArray].toArray w' fun e w''=>e=.returned (.tuple #[.agg ((m5 m.take).map U8).toArray,.agg ((jX m.take).map U8).toArray])∧Ext w' w'':=fun w'=>sL m.take hmo.take w'
    have x1 : ({ m with take:=m5 m.take } : bA).ok:=⟨hmo.root,hmo.own,hmo.other,hmo.send,rfl,hmo.kept⟩
    have p1:=gj hmo r.v (m5 m.take) rfl
    have p2:=fN x1 r.v (m.taken+1)
    have hn2:=ay x1 r.v
    have ln : ((m5 m.take).map U8).length=32:=rfl
    have lm : ((jX m.take).map U8).length=32:=rfl
    have lk : (jX m.take).length=32:=rfl
    have htr3 : ∀ o,Row 26 (sec { m with take:=m5 m.take } r.v) o→cellAt o 163=some (N m.taken):=Row.cell (dL x1 _)
    have htn:=oU hmo
    have q1 : sec (ef m) r.v=sec { m with take:=m5 m.take,taken:=m.taken+1 } r.v:=rfl
    have q2 : (ef m).kept=m.kept:=rfl
    have hnt3:=ay htn r.v
    have hdy:=mU (side:=side.l) (fresh:=fresh) hv hmk
    have hdn:=sJ (side:=side.l) (fresh:=fresh) hv hmk
    rw [hW] at hdy hdn
    generalize ef m=tm at *
    generalize m5 m.take=nx at *
    generalize jX m.take=ms at *
    obtain ⟨o,hoe⟩ : ∃ o,gL ms W rest=o:=⟨_,rfl⟩
    rw [hoe] at hdy hdn
    have hoK : gk (k1 ms) (k2 ms) x9 W rest=o:=hoe
    have hzS:=u5 qh rest
    have hzl2:=u6 hqh
    repeat (first | refine JL.q (by first|(apply OQ.af (cs:=m.take.map U8);exact aQ;exact aB;rfl;exact .here;exact lt;exact (Row.cells (lI hmo _)))|(apply OQ.au (vs:=[.agg (m.take.map U8).toArray]);exact qi;rfl;exact (fun w' _=>cst w'))|(apply OQ.extract;rfl;rfl)|(apply OQ.move;rfl)|(apply OQ.bM;rfl;rfl;rfl;exact (by decide);rfl)) rfl ?_ | refine JC.seq ?_ | refine JC.region ?_ | refine JC.skip ?_ | refine JE.next ?_)
    refine JL.alloc hU rfl fun b21 _=>?_
    refine JL.alloc hU rfl fun b22 _=>?_
    refine JL.ag (cs:=nx.map U8) aB rfl rfl ln (aU _) (.there .here) (by simp) ?_
    refine JL.ag (cs:=ms.map U8) aB rfl rfl lm (aU _) .here (by simp) ?_
    repeat (first | refine JL.q (by first|(apply OQ.af (cs:=nx.map U8);exact aQ;exact aB;rfl;exact (.there .here);exact ln;exact Row.all)|(apply OQ.bM;rfl;rfl;rfl;exact (by decide);rfl)) rfl ?_ | refine JC.seq ?_ | refine JC.region ?_ | refine JL.nil ?_ | refine JE.next ?_)
    refine JL.aW (r:=sec m r.v) (r':=sec { m with take:=nx } r.v) aB rfl rfl ln (aU _) (.there (.there .here)) (by rw [hmm,ln];decide) p1 ?_
    repeat (first | refine JL.q (by first|(apply OQ.load;exact bB;rfl;exact (.there (.there .here));exact htr3)|(apply OQ.aY (a:=m.taken) (b:=1);rfl;rfl;exact (by omega))|(apply OQ.bM;rfl;rfl;rfl;exact (by decide);rfl)) rfl ?_ | refine JC.seq ?_ | refine JC.region ?_ | refine JL.nil ?_ | refine JE.next ?_)
    refine JL.az (r:=sec { m with take:=nx } r.v) (r':=sec { m with take:=nx,taken:=m.taken+1 } r.v) nE rfl rfl rfl rfl (.there (.there .here)) (by rw [hn2];decide) p2 ?_
    rw [← q1]
    repeat (first | refine JL.q (by (apply OQ.af (cs:=ms.map U8);exact aQ;exact aB;rfl;exact .here;exact lm;exact Row.all)) rfl ?_ | refine JC.seq ?_ | refine JC.region ?_ | refine JL.nil ?_ | refine JE.next ?_)
    refine JL.q (OQ.pure (v:=.agg (x9.map U8).toArray) rfl rfl (by kernel_rfl)) rfl ?_
    repeat (refine JL.q (by (apply OQ.move;rfl)) rfl ?_)
    refine JL.bV (ι:=Hq o.1) (vs:=[.agg (ms.map U8).toArray,.agg (x9.map U8).toArray,.slice (some ⟨bj,0,none⟩) W.length kj,aC qh rest.length]) (fun i=>.tuple #[i.1.v,N o.2]) (fun i=>i.1.bW) sO rfl rfl (fun i=>aJ.gS _) (fun w' hw'=>sP (s:=⟨some ⟨bj,0,none⟩,kj,W⟩) (z:=u0 qh rest) rfl hzS (by rw [hzl2];exact hoK) lk rfl (ep hw' (.there (.there (.there .here)))) (u7 (e:=5) (M:=[]) (by rw [List.append_nil];exact hw'.weak (.drop _ _ _ (.drop _ _ _ (.drop _ _ _ (.drop _ _ _ (.drop _ _ _ (.drop _ _ _ (.drop _ _ _ (.drop _ _ _ (fm _ (fm _ (an.refl _)))))))))))) ) (by show W.length<_;omega) (by rw [hzl2];omega)) ?_
    rintro ⟨pl,hpl⟩
    dsimp only
    refine JL.dG (M':=⟨b22,Row 23 (ms.map U8),true⟩::⟨b21,Row 23 (nx.map U8),true⟩::⟨b19,Row 26 (sec tm r.v),true⟩::⟨bj,Sl.aE 5 1 W.length kj (W.map U8),true⟩::⟨b11,Row 32 (hdc h),true⟩::⟨b8,Row 26 (sec dm aP),true⟩::⟨b7,Row 23 (fresh.map U8),true⟩::⟨b4,Row 26 (sec s k.v),true⟩::(pl.bW++(r.bW++(es++bS 5 qh (rest.map U8))))) (List.perm_append_comm_assoc _ [_,_,_,_,_,_,_,_] _) ?_
    by_cases ho : o.2=0
    · have hd:=hdy ho
      have eo : decide ((o.2 : Int)=0)=true:=decide_eq_true (by omega)
      repeat (first | refine JL.q (by first|(apply OQ.extract;rfl;rfl)|(apply OQ.ta (a:=(o.2 : Int)) (b:=0);rfl;rfl;exact eo)|(apply OQ.move;rfl)|(apply OQ.assign;rfl)) rfl ?_ | refine JC.seq ?_ | refine JC.region ?_ | refine JL.nil ?_ | refine JE.next ?_)
      refine JC.cond_false rfl rfl ?_
      repeat (first | refine JL.q (by first|(apply OQ.af (cs:=sec tm r.v);exact iy;exact dV;rfl;exact (.there (.there .here));exact hnt3;exact Row.all)|(apply OQ.move;rfl)) rfl ?_ | refine JC.seq ?_ | refine JC.region ?_ | refine JC.skip ?_ | refine JE.next ?_)
      refine JL.ag (cs:=sec tm r.v) dV rfl rfl hnt3 (bw htv1) (.there (.there (.there (.there (.there .here))))) (ay br _) ?_
      repeat (first | refine JL.q (by (apply OQ.assign;rfl)) rfl ?_ | refine JL.nil ?_ | refine JE.next ?_)
      refine JC.ret ?_
      skip
      refine JE.jG rfl (RV.av iy dV rfl (.there (.there (.there (.there (.there .here))))) hnt3 Row.all) (RV.tmp rfl) (RV.tmp rfl) fun w' hw=>?_
      rw [hd]
      exact ⟨⟨r.K,pl,pl.bW++r.bW,q2.symm,hpl.val,.inr fun hw=>yC.ok hmo.kept (hw.weak (by rw [List.append_assoc];exact fm _ (an.refl _))),fun hw=>aJ.jf (by rw [List.append_assoc] at hw;exact hw) hpl.none,fun e he=>by rcases List.mem_append.1 he with h | h;exact aJ.gS _ e h;exact r.wr e h⟩,rfl,hw.weak (.drop _ _ _ (.drop _ _ _ (.drop _ _ _ (.drop _ _ _ (.drop _ _ _ (.drop _ _ _ (.drop _ _ _ (.drop _ _ _ (by rw [← List.append_assoc];exact dN _ _)))))))))⟩
    · have hd:=hdn ho
      have eo : decide ((o.2 : Int)=0)=false:=decide_eq_false (by omega)
      repeat (first | refine JL.q (by first|(apply OQ.extract;rfl;rfl)|(apply OQ.ta (a:=(o.2 : Int)) (b:=0);rfl;rfl;exact eo)|(apply OQ.move;rfl)|(apply OQ.assign;rfl)) rfl ?_ | refine JC.seq ?_ | refine JC.region ?_ | refine JL.nil ?_ | refine JE.next ?_)
      refine JC.cond_true rfl rfl ?_
      repeat (first | refine JL.q (by first|(apply OQ.af (cs:=sec s k.v);exact iy;exact dV;rfl;exact (.there (.there (.there (.there (.there (.there (.there .here)))))));exact (hn _);exact Row.all)|(apply OQ.move;rfl)) rfl ?_ | refine JC.seq ?_ | refine JC.region ?_)
      refine JL.ag (cs:=sec s k.v) dV rfl rfl (hn _) (bw rfl) (.there (.there (.there (.there (.there .here))))) (ay br _) ?_
      repeat (first | refine JL.q (by (apply OQ.assign;rfl)) rfl ?_ | refine JL.nil ?_ | refine JE.next ?_)
      refine JC.ret ?_
      repeat (refine JE.aK ?_)
      exact JE.jG rfl (RV.av iy dV rfl (.there (.there (.there (.there (.there .here))))) (hn _) Row.all) (RV.tmp rfl) (RV.tmp rfl) fun w' hw=>herr hd rfl (hw.weak (an.nil _))
end
section
open Sl ij mF dW ng
open qv (Bk)
theorem C8 {s n : bA} {h : Hd} {fresh key : Bk} (hs : s.ok) (hc : h.chain.length=32) (hf : fresh.length=32) (hk : s.kept.length≤2000) (e : jU s h fresh=.inr (n,key)) : n.ok∧n.kept.length≤2000:=by
  rw [jU] at e
  split at e
  · next i hi=>
    have e:=(Prod.mk.inj (Sum.inr.inj e)).1
    rw [← e]
    refine ⟨qq hs i,?_⟩
    show (s.kept.eraseIdx i).length≤2000
    have:=List.length_eraseIdx_le s.kept i
    omega
  · split at e
    · cases e
    · next m hm=>
      split at e
      · cases e
      · split at e
        · cases e
        · next q hq=>
          have e:=(Prod.mk.inj (Sum.inr.inj e)).1
          have hmo : m.ok:=by
            rw [jB] at hm
            split at hm
            · cases hm;exact hs
            · exact (we hs hc hf hk hm).1
          obtain ⟨h1,h2,_⟩:=me hmo hq
          rw [← e]
          exact ⟨oU h1,h2⟩
theorem C9 (key side z : Bk) : (gL key side z).1.length≤z.length:=by
  show (gk _ _ _ _ _).1.length≤_
  unfold gk
  split
  · exact Nat.zero_le _
  · split
    · show (dQ _ _ _ _).length≤_
      rw [c6,List.length_take]
      omega
    · exact Nat.zero_le _
theorem uS {s : bA} (hs : s.ok) (hk : s.kept.length≤2000) {side z fresh : Bk} (hf : fresh.length=32) : (fH s side z fresh).1.ok∧(fH s side z fresh).1.kept.length≤2000∧(fH s side z fresh).2.1.length≤z.length:=by
  cases hv : dy z with
  | none=>rw [oV hv];exact ⟨hs,hk,Nat.zero_le _⟩
  | some hr=>
    obtain ⟨h,r⟩:=hr
    obtain ⟨hc,_,_,hre,_,_⟩:=kO hv
    cases hm : jU s h fresh with
    | inl c=>rw [mT hv hm];exact ⟨hs,hk,Nat.zero_le _⟩
    | inr nk=>
      obtain ⟨n,key⟩:=nk
      by_cases ho : (gL key (side++dH h) r).2=0
      · rw [mU hv hm ho]
        obtain ⟨h1,h2⟩:=C8 hs hc hf hk hm
        refine ⟨h1,h2,?_⟩
        show (gL _ _ _).1.length≤_
        have:=C9 key (side++dH h) r
        rw [hre,List.length_drop] at this
        rw [hre]
        omega
      · rw [sJ hv hm ho]
        exact ⟨hs,hk,Nat.zero_le _⟩
end
section
set_option maxRecDepth 10000
open Sl ij mF dW ng
open qv (Bk)
theorem wv {w0 w : World} {S : List Nat} {M : List aG} {b : Nat} {l : Bk} {wr : Bool} (hw : ah w0 S M w) (hM : Has M b (FX 5 (l.map U8)) wr) : aJ.ok w ⟨some ⟨b,0,none⟩,l.length,l⟩:=by
  obtain ⟨o,ho,hA⟩:=hw.get hM
  exact ⟨Nat.le_refl _,Reads.block ho (FX.all _ hA)⟩
theorem J8 (x : Acc) (l : List Value) : ∀ e ∈ bS 5 x l,e.wr=true:=fun e h=>by
  cases x with
  | none=>cases h
  | some p=>simp only [bS,List.mem_singleton] at h;rw [h]
theorem HC (x : aJ) (q : Acc) (ks : List Kp) : ∀ e ∈ x.bW++fV q ks,e.wr=true:=fun e he=>by
  rcases List.mem_append.1 he with h | h
  · exact aJ.gS _ e h
  · exact jC _ _ e h
theorem Ap (root own other fresh body : Bk) (h1 : root.length=32) (h2 : own.length=32) (h3 : other.length=32) (h4 : fresh.length=32) (hb : body.length≤300) :
    ∃ (A A1 S T : bA) (z : Bk),de root own (fj other)=A∧dI root other=S∧A.ok∧A.kept=[]∧A.sent=0∧A.prev=0∧A1.ok∧A1.kept=[]∧jA A [120] body=(A1,z,0)∧z.length=body.length+72∧S.ok∧S.kept=[]∧S.taken=0∧fH S [120] z fresh=(T,body,0):=by
  have hF:=pT root own (fj other) h2 (ie _)
  have dn:=Fl root own other fresh [120] body 0 h2 h3 (by omega)
  rw [CG] at dn
  refine ⟨de root own (fj other),ya (de root own (fj other)),dI root other,_,sD (de root own (fj other)) [120] body,rfl,rfl,hF,rfl,rfl,rfl,v8 hF,rfl,wm rfl (by show ¬ 2147483647≤0;decide) _ _,?_,nZ _ _ h1 h3,rfl,rfl,dn⟩
  rw [sD,List.length_append,kf (show (sC (de root own (fj other))).chain.length=32 from ie _)]
  have : (ng.iw (jX (de root own (fj other)).send) ([120]++dH (sC (de root own (fj other)))) body).length=body.length+32:=iB _ _ _ _ _
  omega
set_option maxHeartbeats 64000000 in
theorem oX (root own other fresh : Bk) (body : aJ) (at_ : Int) (dQ : BitVec 8) (w : World) (h1 : root.length=32) (h2 : own.length=32) (h3 : other.length=32) (h4 : fresh.length=32) (hb : body.ok w) (hG : g9 w) (hQ : GQ w) :
    Calls Tryz.prog 4 [.agg (root.map U8).toArray,.agg (own.map U8).toArray,.agg (other.map U8).toArray,.agg (fresh.map U8).toArray,body.v,I at_,U8 dQ].toArray w fun e w'=>e=.returned (.bool true)∧Ext w w':=by
  have l1 : (root.map U8).length=32:=by rw [List.length_map];exact h1
  have l2 : (own.map U8).length=32:=by rw [List.length_map];exact h2
  have l3 : (other.map U8).length=32:=by rw [List.length_map];exact h3
  have l4 : (fresh.map U8).length=32:=by rw [List.length_map];exact h4
  have csp:=fun (w' : World) (hG' : g9 w') (hQ' : GQ w')=>wu w' hG' hQ'
  have cn:=fun (w' : World)=>sB other h3 w'
  have cm:=fun (w' : World)=>sB own h2 w'
  have hY : (fj other).length=32:=ie _
  have hX : (fj own).length=32:=ie _
  have i1:=Ir (b:=fj other) h3
  have cf:=fun (w' : World) (hG' : g9 w')=>uO root own (fj own) (fj other) h1 h2 hX hY w' hG'
  have cs:=fun (w' : World)=>sS root other (fj other) h1 h3 hY w'
  refine enter (n:=125) Tryz.func4 rfl rfl rfl (ah.start w []) ?_
  repeat (first | refine JC.seq ?_ | refine JC.region ?_)
  refine JL.box (r:=root.map U8) rfl rfl rfl fun b7 _=>?_
  refine JL.box (r:=own.map U8) rfl rfl rfl fun b8 _=>?_
  refine JL.box (r:=other.map U8) rfl rfl rfl fun b9 _=>?_
  refine JL.box (r:=fresh.map U8) rfl rfl rfl fun b10 _=>?_
  repeat (first | refine JL.q (by first|(apply OQ.au (vs:=[]);exact tH;rfl;exact (fun w' hw'=>csp w' (hG.aM hw'.aM (by simp)) (hQ.aM hw'.aM (by simp))))|(apply OQ.not;rfl)|(apply OQ.assign;rfl)) rfl ?_ | refine JC.seq ?_ | refine JC.region ?_ | refine JL.nil ?_ | refine JE.next ?_)
  refine JC.cond_false rfl rfl ?_
  obtain ⟨gb,hgb⟩ : ∃ g,decide ((300 : Int)<((body.l.length : Nat) : Int))=g:=⟨_,rfl⟩
  cases gb
  case true=>
    repeat (first | refine JL.q (by first|(apply OQ.len (k:=body.l.length) (ad:=body.ad) (cap:=body.cap);exact Tryz.underlying27;rfl)|(apply OQ.pA (b:=300);rfl;rfl;exact hgb)|(apply OQ.move;rfl)) rfl ?_ | refine JC.seq ?_ | refine JC.region ?_ | refine JC.skip ?_ | refine JL.nil ?_ | refine JE.next ?_)
    refine JC.cond_true rfl rfl ?_
    repeat (first | refine JL.q (by (apply OQ.assign;rfl)) rfl ?_ | refine JC.seq ?_ | refine JC.region ?_ | refine JL.nil ?_ | refine JE.next ?_)
    refine JC.ret ?_
    repeat (refine JE.aK ?_)
    exact JE.aR rfl (RV.tmp rfl) fun w' hw=>⟨rfl,hw.aM⟩
  have hbl : body.l.length≤300:=by have:=of_decide_eq_false hgb;omega
  repeat (first | refine JL.q (by first|(apply OQ.len (k:=body.l.length) (ad:=body.ad) (cap:=body.cap);exact Tryz.underlying27;rfl)|(apply OQ.pA (b:=300);rfl;rfl;exact hgb)|(apply OQ.move;rfl)) rfl ?_ | refine JC.seq ?_ | refine JC.region ?_ | refine JC.skip ?_ | refine JL.nil ?_ | refine JE.next ?_)
  refine JC.cond_false rfl rfl ?_
  obtain ⟨A,A1,S,T,Z,eA,eS,aok,ak,asn,apn,a1ok,a1k,eE,lZ,sok,sk,stk,eD⟩:=Ap root own other fresh body.l h1 h2 h3 h4 hbl
  rw [eA] at cf
  rw [eS] at cs
  have lY : ((fj other).map U8).length=32:=by rw [List.length_map,hY]
  have lP : ((other++fj other).map U8).length=64:=by rw [List.length_map,List.length_append,h3,hY]
  change (∀ w',Calls _ _ _ w' fun e w''=>e=.returned (.agg ((other++fj other).map U8).toArray)∧Ext w' w'') at cn
  change (∀ w',Calls _ _ _ w' fun e w''=>e=.returned (.agg ((own++fj own).map U8).toArray)∧Ext w' w'') at cm
  generalize fj other=Y at *
  generalize fj own=X at *
  have nA:=fun v=>ay aok v
  have nA1:=fun v=>ay a1ok v
  have nS:=fun v=>ay sok v
  repeat (first | refine JL.q (by first|(apply OQ.af (cs:=other.map U8);exact aQ;exact aB;rfl;exact (.there .here);exact l3;exact Row.all)|(apply OQ.au (vs:=[.agg (other.map U8).toArray]);exact pS;rfl;exact (fun w' _=>cn w'))) rfl ?_ | refine JC.seq ?_ | refine JC.region ?_ | refine JC.skip ?_ | refine JE.next ?_)
  refine JL.alloc JU rfl fun b15 _=>?_
  refine JL.ag (cs:=(other++Y).map U8) x7 rfl rfl lP (aU _) .here rfl ?_
  repeat (first | refine JC.seq ?_ | refine JL.nil ?_ | refine JE.next ?_)
  let vs : Nat→Nat→Value:=fun j y=>match j with
    | 0=>.agg (root.map U8).toArray
    | 1=>.agg (own.map U8).toArray
    | 2=>.agg ((own++X).map U8).toArray
    | 3=>Pt b15 32
    | 4=>.agg (Y.map U8).toArray
    | 5=>.agg (sec A aP).toArray
    | 6=>.agg (root.map U8).toArray
    | 7=>.agg ((other++Y).map U8).toArray
    | 8=>.agg (sec S aP).toArray
    | 9=>Pt y 0
    | 10=>Pt y 0
    | _=>N 0
  let Ms : Nat→Nat→List aG:=fun j y=>match j with
    | 9=>[⟨y,Row 26 (sec dm aP),true⟩]
    | 10=>[⟨y,Row 26 (sec dm aP),true⟩]
    | 11=>[⟨y,Row 26 (sec A aP),true⟩]
    | 12=>[⟨y,Row 26 (sec S aP),true⟩]
    | 13=>[⟨b15,Row 46 ((other++Y).map U8),true⟩]
    | 14=>[⟨b10,Row 23 (fresh.map U8),true⟩]
    | 15=>[⟨b9,Row 23 (other.map U8),true⟩]
    | 16=>[⟨b8,Row 23 (own.map U8),true⟩]
    | 17=>[⟨b7,Row 23 (root.map U8),true⟩]
    | _=>[]
  refine JC.grow (g:=⟨[(4,body.v),(5,I at_),(6,U8 dQ),(7,Pt b7 0),(8,Pt b8 0),(10,Pt b10 0),(15,Pt b15 0)],18,vs,Ms,(fun j=>match j with | 2=>[(1,38)] | 4=>[(3,40)] | 5=>[(0,37),(2,39),(4,41)] | 8=>[(6,43),(7,44)] | 11=>[(9,16),(5,42)] | 12=>[(10,17),(8,45)] | _=>[]),(fun j=>match j with | 0=>[17] | 1=>[16] | 4=>[13] | 6=>[17] | 7=>[13] | 11=>[9] | 12=>[10] | _=>[]),(fun j=>match j with | 11=>[9] | 12=>[10] | _=>[]),(fun j=>match j with | 11=>some 9 | 12=>some 10 | _=>none)⟩) [(9,16),(10,17)] [11,12,14] gK (by repeat (first | exact ai.nil | refine ai.cons _ _ _ rfl ?_)) ?_ (by kernel_rfl) (by kernel_rfl) (by kernel_rfl) ?_ ?_
  · exact an.refl _
  · refine ⟨?_,?_,?_,?_,?_,?_,?_,?_,?_,?_,?_,?_,?_,trivial⟩
    · (intro xx EF MF Q kk;(try refine JL.aV rfl rfl ?_);exact JL.q (OQ.af (cs:=root.map U8) aQ aB rfl .here l1 Row.all) rfl (JL.nil (kk default nofun)))
    · (intro xx EF MF Q kk;(try refine JL.aV rfl rfl ?_);exact JL.q (OQ.af (cs:=own.map U8) aQ aB rfl .here l2 Row.all) rfl (JL.nil (kk default nofun)))
    · (intro xx EF MF Q kk;(try refine JL.aV rfl rfl ?_);exact JL.q (OQ.au (vs:=[.agg (own.map U8).toArray]) pS rfl (fun w' _=>cm w')) rfl (JL.nil (kk default nofun)))
    · (intro xx EF MF Q kk;(try refine JL.aV rfl rfl ?_);exact JL.q (OQ.bM rfl rfl rfl (by decide) rfl) rfl (JL.nil (kk default nofun)))
    · (intro xx EF MF Q kk;(try refine JL.aV rfl rfl ?_);exact JL.q (OQ.af (cs:=Y.map U8) aQ aB rfl .here lY (Row.cells i1)) rfl (JL.nil (kk default nofun)))
    · (intro xx EF MF Q kk;(try refine JL.aV rfl rfl ?_);exact JL.q (OQ.au (vs:=[.agg (root.map U8).toArray,.agg ((own++X).map U8).toArray,.agg (Y.map U8).toArray]) sR rfl (fun w' hw'=>cf w' (hG.aM hw'.aM (by simp)))) rfl (JL.nil (kk default nofun)))
    · (intro xx EF MF Q kk;(try refine JL.aV rfl rfl ?_);exact JL.q (OQ.af (cs:=root.map U8) aQ aB rfl .here l1 Row.all) rfl (JL.nil (kk default nofun)))
    · (intro xx EF MF Q kk;(try refine JL.aV rfl rfl ?_);exact JL.q (OQ.af (cs:=(other++Y).map U8) Fb x7 rfl .here lP Row.all) rfl (JL.nil (kk default nofun)))
    · (intro xx EF MF Q kk;(try refine JL.aV rfl rfl ?_);exact JL.q (OQ.au (vs:=[.agg (root.map U8).toArray,.agg ((other++Y).map U8).toArray]) qu rfl (fun w' _=>cs w')) rfl (JL.nil (kk default nofun)))
    · (intro xx EF MF Q kk;exact JL.alloc uH rfl fun b0 _=>JL.nil (kk b0 nofun))
    · (intro xx EF MF Q kk;exact JL.alloc uH rfl fun b0 _=>JL.nil (kk b0 nofun))
    · (intro xx EF MF Q kk;exact JL.ag (cs:=sec A aP) dV rfl rfl (nA _) (bw rfl) .here (ay br _) (JL.nil (kk (xx 9) (fun k h=>by cases h;rfl))))
    · (intro xx EF MF Q kk;exact JL.ag (cs:=sec S aP) dV rfl rfl (nS _) (bw rfl) .here (ay br _) (JL.nil (kk (xx 10) (fun k h=>by cases h;rfl))))
  · intro xx hx
    have e11 : xx 11=xx 9:=hx 11 9 (by decide) rfl
    have e12 : xx 12=xx 10:=hx 12 10 (by decide) rfl
    show JE _ _ _ _ _ [(16,Pt (xx 9) 0),(17,Pt (xx 10) 0),(4,body.v),(5,I at_),(6,U8 dQ),(7,Pt b7 0),(8,Pt b8 0),(10,Pt b10 0),(15,Pt b15 0)] [⟨xx 11,Row 26 (sec A aP),true⟩,⟨xx 12,Row 26 (sec S aP),true⟩,⟨b10,Row 23 (fresh.map U8),true⟩]
    rw [e11,e12]
    generalize xx 9=b16
    generalize xx 10=b17
    clear hx e11 e12 xx vs Ms
    repeat (first | refine JL.q (by (apply OQ.af (cs:=sec A aP);exact iy;exact dV;rfl;exact .here;exact (nA _);exact Row.all)) rfl ?_ | refine JC.seq ?_ | refine JC.region ?_ | refine JE.next ?_)
    refine JL.fh (v:=U8 (120 : BitVec 8)) Tryz.underlying27 tW rfl rfl rfl rfl fun bl _=>?_
    refine JL.mark (r:=[U8 (120 : BitVec 8)]) (te:=5) Tryz.underlying27 Tryz.underlying5 rfl .here rfl ?_
    repeat (refine JL.q (by (apply OQ.move;rfl)) rfl ?_)
    have cE:=fun (b : Nat) (w' : World) (g1 : g9 w') (g2 : GQ w') (hx : aJ.ok w' ⟨some ⟨b,0,none⟩,1,[120]⟩) (hy : body.ok w')=>by
      have:=yq A sU aok ak.symm (by rw [ak];decide) (by omega) (by omega) ⟨some ⟨b,0,none⟩,1,[120]⟩ body (by show (1 : Nat)≤_;decide) (by omega) w' g1 g2 (jW _) hx hy
      dsimp only at this
      rw [eE] at this
      dsimp only at this
      rw [a1k] at this
      exact this
    refine JL.bV (ι:=LN (A1,Z,0)) (vs:=[.agg (sec A aP).toArray,.slice (some ⟨bl,0,none⟩) 1 1,body.v]) (fun r=>.tuple #[.agg (sec A1 (aC r.q 0)).toArray,aC r.x Z.length,N 0]) (fun r=>bS 5 r.x (Z.map U8)) pZ rfl rfl (fun r=>J8 _ _) (fun w' hw'=>(cE bl w' (hG.aM hw'.aM (by simp)) (hQ.aM hw'.aM (by simp)) (wv (l:=[120]) hw' .here) (hb.holds hw' rfl)).mono fun _ _ ⟨r,e,h⟩=>⟨r,e,h.weak (dN _ _)⟩) ?_
    rintro ⟨q1,x,_,hx⟩
    dsimp only at hx ⊢
    have Kq : ∀ w' M',ah w [] (bS 5 x (Z.map U8)++M') w'→(u0 x Z).ok w':=fun w' M' h=>u7 h
    have kl : (u0 x Z).l=Z:=u6 hx
    rw [← u5 x Z]
    generalize u0 x Z=kx at *
    obtain ⟨QX,hQX⟩ : ∃ QX,bS 5 x (Z.map U8)=QX:=⟨_,rfl⟩
    rw [hQX] at Kq ⊢
    refine JL.dG (M':=⟨bl,FX 5 ([120].map U8),true⟩::⟨b16,Row 26 (sec A aP),true⟩::⟨b17,Row 26 (sec S aP),true⟩::⟨b10,Row 23 (fresh.map U8),true⟩::QX) (List.perm_append_comm (l₂:=[_,_,_,_])) ?_
    repeat (refine JL.q (by first|(apply OQ.extract;rfl;rfl)|(apply OQ.move;rfl)) rfl ?_)
    refine JL.alloc uH rfl fun b18 _=>?_
    refine JL.ag (cs:=sec A1 (aC q1 0)) dV rfl rfl (nA1 _) (bw (by cases q1 <;> rfl)) .here (ay br _) ?_
    repeat (first | refine JL.q (by first|(apply OQ.ta (a:=0) (b:=0) (c:=true);rfl;rfl;rfl)|(apply OQ.move;rfl)|(apply OQ.assign;rfl)) rfl ?_ | refine JC.seq ?_ | refine JC.region ?_ | refine JL.nil ?_ | refine JE.next ?_)
    refine JC.cond_false rfl rfl ?_
    refine JC.skip (JE.next ?_)
    refine JC.weak (E':=[(4,body.v),(5,I at_),(6,U8 dQ),(10,Pt b10 0),(17,Pt b17 0),(19,kx.v)]) (M':=⟨b17,Row 26 (sec S aP),true⟩::⟨b10,Row 23 (fresh.map U8),true⟩::QX) ?_ (by repeat (first | exact ai.nil | refine ai.cons _ _ _ rfl ?_)) (.drop _ _ _ (.drop _ _ _ (.drop _ _ _ (an.refl _))))
    have kok2 : ∀ {w' : World} {e1 e2 : aG},ah w [] (e1::e2::QX) w'→kx.ok w':=fun hw=>Kq _ [] (by rw [List.append_nil];exact hw.weak (.drop _ _ _ (.drop _ _ _ (an.refl _))))
    have lK : kx.l.length=body.l.length+72:=by rw [kl];exact lZ
    repeat (first | refine JC.seq ?_ | refine JC.region ?_)
    refine JL.Aw Tryz.underlying27 tW rfl fun b57 _=>?_
    repeat (refine JL.q (by (apply OQ.move;rfl)) rfl ?_)
    refine JL.append (cs:=kx.l.map U8) (m:=kx.l.length) (ad:=kx.ad) (sc:=kx.cap) (xs:=[]) (fun b' cap'=>⟨b',Sl.aE 5 1 (0+kx.l.length) cap' ([]++kx.l.map U8),true⟩::⟨b17,Row 26 (sec S aP),true⟩::⟨b10,Row 23 (fresh.map U8),true⟩::QX) Tryz.underlying27 tW rfl rfl (fun _ _=>.here) (by rw [List.length_map,Nat.mul_one]) (fun w' hw'=>(kok2 (hw'.weak (.drop _ _ _ (an.refl _)))).reads) (fun v hv=>by obtain ⟨q,_,rfl⟩:=List.mem_map.1 hv;rfl) rfl (by decide) (by omega) (by omega) rfl fun bd cd=>?_
    rw [Nat.zero_add,List.nil_append]
    obtain ⟨a0,ha0⟩ : ∃ a0 : Nat,(at_ % 65536).toNat=a0:=⟨_,rfl⟩
    have ea : I (at_ % 65536)=N a0:=by
      unfold I N
      rw [← ha0,Int.toNat_of_nonneg (by omega)]
    obtain ⟨j,hj⟩ : ∃ j,a0 % kx.l.length=j:=⟨_,rfl⟩
    have hjl : j<kx.l.length:=by rw [← hj];exact Nat.mod_lt _ (by omega)
    have hget : (kx.l.map U8)[j]?=some (U8 (kx.l.getD j 0)):=by rw [List.getElem?_map,List.getElem?_eq_getElem hjl,List.getD_eq_getElem?_getD,List.getElem?_eq_getElem hjl];rfl
    have hset : (kx.l.map U8).set j (U8 (kx.l.getD j 0 ^^^ dQ))=(kx.l.set j (kx.l.getD j 0 ^^^ dQ)).map U8:=by rw [List.map_set]
    have er : ∀ C : World→Prop,∀ E : Env,N (a0 % kx.l.length)=N j:=fun _ _=>by rw [hj]
    obtain ⟨bad,hbad⟩ : ∃ bad,kx.l.set j (kx.l.getD j 0 ^^^ dQ)=bad:=⟨_,rfl⟩
    have lbad : bad.length=kx.l.length:=by rw [← hbad,List.length_set]
    rw [hbad] at hset
    repeat (first | refine JL.q (by first|(apply OQ.to;exact (OQ.DE (k:=16) (a:=at_) (m:=65535) (r:=65536) (by decide) (by decide) (by decide) rfl rfl);exact ea)|(apply OQ.len (k:=kx.l.length) (ad:=some ⟨bd,0,none⟩) (cap:=cd);exact Tryz.underlying27;rfl)|(apply OQ.to;exact (OQ.yI (a:=a0) (b:=kx.l.length) rfl rfl (by omega));exact (congrArg N hj))|(apply OQ.je (i:=j) (len:=kx.l.length) (cap:=cd) (b:=bd);exact Tryz.underlying27;exact j6;rfl;rfl;exact hjl)|(apply OQ.load;exact F1;rfl;exact .here;exact (Sl.aE.cell hget))|(apply OQ.yK;rfl;rfl)|(apply OQ.move;rfl)|(apply OQ.assign;rfl)) rfl ?_ | refine JC.seq ?_ | refine JC.region ?_ | refine JL.nil ?_ | refine JE.next ?_)
    refine JL.ur j6 rfl rfl rfl rfl .here (by rw [List.length_map];exact hjl) hset ?_
    rw [← lbad]
    obtain ⟨okD,klD,lenD⟩:=uS sok (by rw [sk];decide) (side:=[120]) (z:=bad) h4
    have hde:=BE (s:=S) (side:=[120]) (z:=bad) (fresh:=fresh)
    obtain ⟨okT,_,_⟩:=uS sok (by rw [sk];decide) (side:=[120]) (z:=Z) h4
    rw [eD] at okT
    dsimp only at okT
    have cD:=fun (b : Nat) (w' : World) (g1 : g9 w') (g2 : GQ w') (hx : aJ.ok w' ⟨some ⟨b,0,none⟩,1,[120]⟩) (hy : aJ.ok w' ⟨some ⟨bd,0,none⟩,cd,bad⟩)=>yp S sU sok sk.symm (by rw [sk];decide) (by rw [stk];decide) ⟨some ⟨b,0,none⟩,1,[120]⟩ ⟨some ⟨bd,0,none⟩,cd,bad⟩ (by show (1 : Nat)≤_;decide) (by show bad.length≤_;omega) fresh h4 w' g1 g2 (jW _) hx hy
    have cR:=fun (b : Nat) (w' : World) (hx : aJ.ok w' ⟨some ⟨b,0,none⟩,1,[120]⟩) (hy : aJ.ok w' ⟨some ⟨bd,0,none⟩,cd,bad⟩)=>C7 S sU sok sk.symm (by rw [sk];decide) (by rw [stk];decide) ⟨some ⟨b,0,none⟩,1,[120]⟩ ⟨some ⟨bd,0,none⟩,cd,bad⟩ (by show (1 : Nat)≤_;decide) (by show bad.length≤_;omega) fresh h4 w' (jW _) hx hy
    dsimp only at cD cR
    generalize hoo : fH S [120] bad fresh=o at *
    clear hoo
    obtain ⟨o1,o2,oc⟩:=o
    dsimp only at hde okD klD lenD cD cR
    have lo:=fun v=>ay okD v
    repeat (first | refine JL.q (by (apply OQ.af (cs:=sec S aP);exact iy;exact dV;rfl;exact (.there .here);exact (nS _);exact Row.all)) rfl ?_ | refine JC.seq ?_ | refine JC.region ?_ | refine JL.nil ?_ | refine JE.next ?_)
    refine JL.fh (v:=U8 (120 : BitVec 8)) Tryz.underlying27 tW rfl rfl rfl rfl fun bl2 _=>?_
    refine JL.mark (r:=[U8 (120 : BitVec 8)]) (te:=5) Tryz.underlying27 Tryz.underlying5 rfl .here rfl ?_
    repeat (refine JL.q (by first|(apply OQ.af (cs:=fresh.map U8);exact aQ;exact aB;rfl;exact (.there (.there (.there .here)));exact l4;exact Row.all)|(apply OQ.move;rfl)) rfl ?_)
    refine JL.bV (ι:=Ni (o1,o2,oc)) (vs:=[.agg (sec S aP).toArray,.slice (some ⟨bl2,0,none⟩) 1 1,.slice (some ⟨bd,0,none⟩) bad.length cd,.agg (fresh.map U8).toArray]) (fun r=>.tuple #[.agg (sec o1 (aC r.q o1.kept.length)).toArray,r.x.1.v,N oc]) (fun r=>r.x.1.bW++fV r.q o1.kept) uN rfl rfl (fun r=>HC _ _ _) (fun w' hw'=>cD bl2 w' (hG.aM hw'.aM (by simp)) (hQ.aM hw'.aM (by simp)) (wv (l:=[120]) hw' .here) (ep hw' (.there .here))) ?_
    rintro ⟨q,⟨pl,hpl⟩,hq⟩
    dsimp only at hq ⊢
    refine JL.dG (M':=⟨bl2,FX 5 ([120].map U8),true⟩::⟨bd,Sl.aE 5 1 bad.length cd (bad.map U8),true⟩::⟨b17,Row 26 (sec S aP),true⟩::⟨b10,Row 23 (fresh.map U8),true⟩::((pl.bW++fV q o1.kept)++QX)) (List.perm_append_comm_assoc _ [_,_,_,_] _) ?_
    repeat (refine JL.q (by first|(apply OQ.extract;rfl;rfl)|(apply OQ.move;rfl)) rfl ?_)
    refine JL.alloc uH rfl fun b22 _=>?_
    refine JL.ag (cs:=sec o1 (aC q o1.kept.length)) dV rfl rfl (lo _) (bw (by cases q <;> rfl)) .here (ay br _) ?_
    repeat (first | refine JL.q (by first|(apply OQ.af (cs:=sec S aP);exact iy;exact dV;rfl;exact (.there (.there (.there .here)));exact (nS _);exact Row.all)|(apply OQ.assign;rfl)) rfl ?_ | refine JC.seq ?_ | refine JC.region ?_ | refine JL.nil ?_ | refine JE.next ?_)
    refine JL.fh (v:=U8 (120 : BitVec 8)) Tryz.underlying27 tW rfl rfl rfl rfl fun bl3 _=>?_
    refine JL.mark (r:=[U8 (120 : BitVec 8)]) (te:=5) Tryz.underlying27 Tryz.underlying5 rfl .here rfl ?_
    repeat (refine JL.q (by first|(apply OQ.af (cs:=fresh.map U8);exact aQ;exact aB;rfl;exact (.there (.there (.there (.there (.there .here)))));exact l4;exact Row.all)|(apply OQ.move;rfl)) rfl ?_)
    refine JL.bV (ι:=Kr (o1,o2,oc) sU) (vs:=[.agg (sec S aP).toArray,.slice (some ⟨bl3,0,none⟩) 1 1,.slice (some ⟨bd,0,none⟩) bad.length cd,.agg (fresh.map U8).toArray]) (fun r=>.tuple #[.agg (sec o1 r.K.v).toArray,r.x.v,N oc]) (fun r=>r.es) Ao rfl rfl (fun r=>r.wr) (fun w' hw'=>cR bl3 w' (wv (l:=[120]) hw' .here) (ep hw' (.there (.there (.there .here))))) ?_
    rintro r
    have ovr : r.K.v.oneCell'=true:=rfl
    refine JL.dG (M':=⟨bl3,FX 5 ([120].map U8),true⟩::⟨b22,Row 26 (sec o1 (aC q o1.kept.length)),true⟩::⟨bl2,FX 5 ([120].map U8),true⟩::⟨bd,Sl.aE 5 1 bad.length cd (bad.map U8),true⟩::⟨b17,Row 26 (sec S aP),true⟩::⟨b10,Row 23 (fresh.map U8),true⟩::(r.es++((pl.bW++fV q o1.kept)++QX))) (List.perm_append_comm_assoc _ [_,_,_,_,_,_] _) ?_
    repeat (refine JL.q (by first|(apply OQ.extract;rfl;rfl)|(apply OQ.move;rfl)) rfl ?_)
    refine JL.alloc uH rfl fun b25 _=>?_
    refine JL.ag (cs:=sec o1 r.K.v) dV rfl rfl (lo _) (bw ovr) .here (ay br _) ?_
    have kR : ∀ {w' : World} {e1 e2 e3 e4 e5 e6 e7 : aG} {B : List aG},ah w [] (e1::e2::e3::e4::e5::e6::e7::(r.es++B)) w'→r.K.ok w':=fun hw=>by
      rcases r.Kq with h | h
      · rw [h]
        exact jW _
      · exact h (hw.weak (.drop _ _ _ (.drop _ _ _ (.drop _ _ _ (.drop _ _ _ (.drop _ _ _ (.drop _ _ _ (.drop _ _ _ (an.refl _)))))))))
    have xR : ∀ {w' : World} {e1 e2 e3 e4 e5 e6 e7 : aG} {B : List aG},ah w [] (e1::e2::e3::e4::e5::e6::e7::(r.es++B)) w'→r.x.ok w':=fun hw=>r.N2 (hw.weak (.drop _ _ _ (.drop _ _ _ (.drop _ _ _ (.drop _ _ _ (.drop _ _ _ (.drop _ _ _ (.drop _ _ _ (an.refl _)))))))))
    have kQ : ∀ {w' : World} {e1 e2 e3 e4 e5 e6 e7 : aG},ah w [] (e1::e2::e3::e4::e5::e6::e7::(r.es++((pl.bW++fV q o1.kept)++QX))) w'→(tF q o1.kept).ok w':=fun hw=>Bv (M:=QX) okD.kept (hw.weak (.drop _ _ _ (.drop _ _ _ (.drop _ _ _ (.drop _ _ _ (.drop _ _ _ (.drop _ _ _ (.drop _ _ _ (fm _ (by rw [List.append_assoc];exact fm _ (an.refl _)))))))))))
    have xQ : ∀ {w' : World} {e1 e2 e3 e4 e5 e6 e7 : aG},ah w [] (e1::e2::e3::e4::e5::e6::e7::(r.es++((pl.bW++fV q o1.kept)++QX))) w'→pl.ok w':=fun hw=>aJ.jf (M:=fV q o1.kept++QX) (hw.weak (.drop _ _ _ (.drop _ _ _ (.drop _ _ _ (.drop _ _ _ (.drop _ _ _ (.drop _ _ _ (.drop _ _ _ (fm _ (by rw [List.append_assoc];exact an.refl _)))))))))) hpl.none
    have cS : ∀ w' : World,(tF q o1.kept).ok w'→r.K.ok w'→Calls Tryz.prog 14 [.agg (sec o1 (aC q o1.kept.length)).toArray,.agg (sec o1 r.K.v).toArray].toArray w' fun e w''=>e=.returned (.bool true)∧Ext w' w'':=fun w' h h'=>by
      have:=yw o1 (tF q o1.kept) r.K okD w' h h' (wj hq) r.l (by omega)
      rw [Ah] at this
      exact this
    have cT : ∀ w' : World,pl.ok w'→r.x.ok w'→Calls Tryz.prog 11 [pl.v,r.x.v].toArray w' fun e w''=>e=.returned (.bool true)∧Ext w' w'':=fun w' h h'=>DN rfl rfl h h' (by rw [hpl.val];show o2.length<_;omega) (hpl.val.trans r.xl.symm)
    have eoc : decide ((oc : Int)=(oc : Int))=true:=decide_eq_true rfl
    repeat (first | refine JL.q (by first|(apply OQ.ta (a:=oc) (b:=oc);rfl;rfl;exact eoc)|(apply OQ.af (cs:=sec o1 (aC q o1.kept.length));exact iy;exact dV;rfl;exact (.there (.there .here));exact (lo _);exact Row.all)|(apply OQ.af (cs:=sec o1 r.K.v);exact iy;exact dV;rfl;exact .here;exact (lo _);exact Row.all)|(apply OQ.au (vs:=[.agg (sec o1 (aC q o1.kept.length)).toArray,.agg (sec o1 r.K.v).toArray]);exact yu;rfl;exact (fun w' hw'=>cS w' (kQ hw') (kR hw')))|(apply OQ.au (vs:=[pl.v,r.x.v]);exact mH;rfl;exact (fun w' hw'=>cT w' (xQ hw') (xR hw')))|(apply OQ.not;rfl)|(apply OQ.fl;rfl;rfl)|(apply OQ.move;rfl)|(apply OQ.assign;rfl)) rfl ?_ | refine JC.seq ?_ | refine JC.region ?_ | refine JL.nil ?_ | refine JE.next ?_ | refine JL.aV rfl rfl ?_)
    refine JC.cond_false rfl rfl ?_
    by_cases ho : oc=0
    · have eo : decide ((oc : Int)=0)=true:=decide_eq_true (by omega)
      repeat (first | refine JL.q (by first|(apply OQ.Kg (a:=oc) (b:=0);rfl;rfl;exact eo)|(apply OQ.move;rfl)) rfl ?_ | refine JC.seq ?_ | refine JC.region ?_ | refine JC.skip ?_ | refine JL.nil ?_ | refine JE.next ?_)
      refine JC.cond_true rfl rfl ?_
      repeat (first | refine JL.q (by (apply OQ.assign;rfl)) rfl ?_ | refine JC.seq ?_ | refine JC.region ?_ | refine JL.nil ?_ | refine JE.next ?_)
      refine JC.ret ?_
      repeat (refine JE.aK ?_)
      exact JE.aR rfl (RV.tmp rfl) fun w' hw=>⟨rfl,hw.aM⟩
    have eo : decide ((oc : Int)=0)=false:=decide_eq_false (by omega)
    obtain ⟨hS1,_⟩:=hde ho
    have cL:=fun (b : Nat) (w' : World) (g1 : g9 w') (g2 : GQ w') (hx : aJ.ok w' ⟨some ⟨b,0,none⟩,1,[120]⟩) (hy : kx.ok w') (hK : (tF q o1.kept).ok w')=>by
      have:=yp o1 (tF q o1.kept) okD (wj hq) klD (by rw [hS1,stk];decide) ⟨some ⟨b,0,none⟩,1,[120]⟩ kx (by show (1 : Nat)≤_;decide) (by omega) fresh h4 w' g1 g2 hK hx hy
      dsimp only at this
      rw [kl,Ah,hS1,eD] at this
      rw [← hS1] at this
      dsimp only at this
      exact this
    have lT:=fun v=>ay okT v
    have kX : ∀ {w' : World} {e0 e1 e2 e3 e4 e5 e6 e7 : aG} {B1 B2 : List aG},ah w [] (e0::e1::e2::e3::e4::e5::e6::e7::(B1++(B2++QX))) w'→kx.ok w':=fun hw=>Kq _ [] (by rw [List.append_nil];exact hw.weak (.drop _ _ _ (.drop _ _ _ (.drop _ _ _ (.drop _ _ _ (.drop _ _ _ (.drop _ _ _ (.drop _ _ _ (.drop _ _ _ (fm _ (fm _ (an.refl _))))))))))))
    have kQ2 : ∀ {w' : World} {e0 e1 e2 e3 e4 e5 e6 e7 : aG},ah w [] (e0::e1::e2::e3::e4::e5::e6::e7::(r.es++((pl.bW++fV q o1.kept)++QX))) w'→(tF q o1.kept).ok w':=fun hw=>kQ (hw.weak (.drop _ _ _ (an.refl _)))
    repeat (first | refine JL.q (by first|(apply OQ.Kg (a:=oc) (b:=0);rfl;rfl;exact eo)|(apply OQ.move;rfl)) rfl ?_ | refine JC.seq ?_ | refine JC.region ?_ | refine JC.skip ?_ | refine JL.nil ?_ | refine JE.next ?_)
    refine JC.cond_false rfl rfl ?_
    repeat (first | refine JL.q (by (apply OQ.af (cs:=sec o1 (aC q o1.kept.length));exact iy;exact dV;rfl;exact (.there (.there .here));exact (lo _);exact Row.all)) rfl ?_ | refine JC.seq ?_ | refine JC.region ?_ | refine JC.skip ?_ | refine JE.next ?_)
    refine JL.fh (v:=U8 (120 : BitVec 8)) Tryz.underlying27 tW rfl rfl rfl rfl fun bl4 _=>?_
    refine JL.mark (r:=[U8 (120 : BitVec 8)]) (te:=5) Tryz.underlying27 Tryz.underlying5 rfl .here rfl ?_
    repeat (refine JL.q (by first|(apply OQ.af (cs:=fresh.map U8);exact aQ;exact aB;rfl;exact (.there (.there (.there (.there (.there (.there (.there .here)))))));exact l4;exact Row.all)|(apply OQ.move;rfl)) rfl ?_)
    refine JL.bV (ι:=Ni (T,body.l,0)) (vs:=[.agg (sec o1 (aC q o1.kept.length)).toArray,.slice (some ⟨bl4,0,none⟩) 1 1,kx.v,.agg (fresh.map U8).toArray]) (fun r=>.tuple #[.agg (sec T (aC r.q T.kept.length)).toArray,r.x.1.v,N 0]) (fun r=>r.x.1.bW) uN rfl rfl (fun r=>aJ.gS _) (fun w' hw'=>(cL bl4 w' (hG.aM hw'.aM (by simp)) (hQ.aM hw'.aM (by simp)) (wv (l:=[120]) hw' .here) (kX hw') (kQ2 hw')).mono fun _ _ ⟨r,e,h⟩=>⟨r,e,h.weak (dN _ _)⟩) ?_
    rintro ⟨q4,⟨pl4,hpl4⟩,_⟩
    dsimp only
    repeat (refine JL.q (by first|(apply OQ.extract;rfl;rfl)|(apply OQ.move;rfl)) rfl ?_)
    refine JL.alloc uH rfl fun b28 _=>?_
    refine JL.ag (cs:=sec T (aC q4 T.kept.length)) dV rfl rfl (lT _) (bw (by cases q4 <;> rfl)) .here (ay br _) ?_
    have cZ : ∀ w' : World,pl4.ok w'→body.ok w'→Calls Tryz.prog 11 [pl4.v,body.v].toArray w' fun e w''=>e=.returned (.bool true)∧Ext w' w'':=fun w' h h'=>DN rfl rfl h h' (by rw [hpl4.val];show body.l.length<_;omega) hpl4.val
    repeat (first | refine JL.q (by first|(apply OQ.Dt;rfl;rfl;rfl)|(apply OQ.au (vs:=[pl4.v,body.v]);exact mH;rfl;exact (fun w' hw'=>cZ w' (aJ.jf (hw'.weak (.drop _ _ _ (an.refl _))) hpl4.none) (hb.holds hw' rfl)))|(apply OQ.fJ;rfl;rfl)|(apply OQ.move;rfl)|(apply OQ.assign;rfl)) rfl ?_ | refine JC.seq ?_ | refine JC.region ?_ | refine JL.nil ?_ | refine JE.next ?_ | refine JL.aV rfl rfl ?_)
    refine JC.ret ?_
    skip
    exact JE.aR rfl (RV.tmp rfl) fun w' hw=>⟨rfl,hw.aM⟩
end
section
set_option maxRecDepth 10000
open Go.ChangeShapes Go.WideShapes Go.ChangeAt Go.RowKit
open Sl
set_option linter.unusedVariables false
theorem Nn : ownKnob Tryz.prog.godebug=none:=by kernel_rfl
theorem mw : laidOutB Tryz.prog=true:=by kernel_rfl
theorem FN {z : Int} (h : (Lit.int .u8 z).wf=true) : U8 (BitVec.ofInt 8 z)=.int .u8 z:=by
  have h0 : 0≤z∧z≤255:=by
    have h1 : (decide (0≤z) && decide (z≤255))=true:=h
    simpa using h1
  have h2 : ((BitVec.ofInt 8 z).toNat : Int)=z:=by
    rw [BitVec.toNat_ofInt]
    omega
  unfold U8
  rw [h2]
theorem HD {H : Type} {enc : TypeId × Value→H} {W : World} {base fuel m : Nat} {t : TypeId} (hu : Tryz.prog.underlying t=some (.array m 5)) (hc : Tryz.prog.cellsOf t=m) {v : Value} {x : DataW H × List MemPlace} (hok : Value.okWide Tryz.prog W .any base t v) (h : DataW.trod enc Tryz.prog W 0 (fun _=>true) true fuel t v.cells.toList=some x) :
    ∃ r : List (BitVec 8),v=.agg (r.map U8).toArray∧r.length=m:=by
  obtain ⟨xs,m',_,ex,_,hl,hel⟩:=DataW.trod_array hu h
  have c5 : Tryz.prog.cellsOf 5=1:=by kernel_rfl
  simp only [Value.okWide,hu] at hok
  obtain ⟨cs,rfl,hsz,_⟩:=hok
  rw [hc] at hsz
  have hk : ∀ i,∃ k : BitVec 8,i<m→cs[i]?=some (U8 k):=by
    intro i
    by_cases hi : i<m
    · have h1:=hel i hi
      rw [c5,Nat.mul_one,List.getElem?_eq_getElem (by omega)] at h1
      obtain ⟨z,e1,e2,hw⟩:=DataW.trod_int (show Tryz.prog.underlying 5=some (.int .u8) by kernel_rfl) h1
      refine ⟨BitVec.ofInt 8 z,fun _=>?_⟩
      have h0 : ((cs.toList.drop i).take 1)[0]?=some (.int .u8 z):=by
        have : (Value.agg cs).cells=cs:=rfl
        rw [this] at e1
        rw [e1];rfl
      rw [FN hw]
      simpa using h0
    · exact ⟨0,fun h=>absurd h hi⟩
  let f : Nat→BitVec 8:=fun i=>Classical.choose (hk i)
  have hf : ∀ i,i<m→cs[i]?=some (U8 (f i)):=fun i=>Classical.choose_spec (hk i)
  refine ⟨(List.range m).map f,?_,by simp⟩
  congr 1
  apply Array.ext_getElem?
  intro i
  by_cases hi : i<m
  · rw [hf i hi]
    simp [hi]
  · rw [Array.getElem?_eq_none (by omega),Array.getElem?_eq_none (by simp;omega)]
theorem wz {H : Type} {enc : TypeId × Value→H} {W : World} {base fuel : Nat} {v : Value} {x : DataW H × List MemPlace} (hok : Value.okWide Tryz.prog W .any base 23 v) (h : DataW.trod enc Tryz.prog W 0 (fun _=>true) true fuel 23 v.cells.toList=some x) :
    ∃ r : List (BitVec 8),v=.agg (r.map U8).toArray∧r.length=32:=HD (by kernel_rfl) (by kernel_rfl) hok h
theorem J9 {z : Int} (h : (Lit.int .u8 z).wf=true) : ∃ a : BitVec 8,z=(a.toNat : Int):=by
  have h1:=FN h
  unfold U8 at h1
  exact ⟨_,(Value.int.inj h1).2.symm⟩
def BI (zs : List Int) : List (BitVec 8):=zs.map (BitVec.ofInt 8)
theorem Ka {H : Type} {enc : TypeId × Value→H} {W : World} {fuel : Nat} {v : Value} {x : DataW H × List MemPlace} (h : DataW.trod enc Tryz.prog W 0 (fun _=>true) true fuel 27 [v]=some x) : ∃ k : aJ,v=k.v∧k.ok W∧k.cap≤maxLen:=by
  rcases open_ints (show Tryz.prog.underlying 27=some (.slice 5) by kernel_rfl) (show Tryz.prog.underlying 5=some (.int .u8) by kernel_rfl) (by kernel_rfl) h with ⟨hcs,_⟩ | ⟨x,l,c,zs,hcs,_,hl,hm,hz,_,hcell,hwz⟩
  · cases hcs
    exact ⟨⟨none,0,[]⟩,rfl,⟨by simp,Reads.nil _ _⟩,by decide⟩
  · cases hcs
    simp only [if_true] at hz
    have hlen : (BI (zs.take l)).length=l:=by simp [BI];omega
    refine ⟨⟨some x,c,BI (zs.take l)⟩,by simp [aJ.v,hlen],⟨by rw [hlen];exact hl,?_⟩,hm⟩
    intro i v hv
    have hi : i<l:=by
      have:=(List.getElem?_eq_some_iff.1 hv).1
      simpa [hlen] using this
    have hc:=hcell i (by omega)
    obtain ⟨b,o,sp⟩:=x
    cases sp with
    | some s=>
      have hc:=hcell 0 (by omega)
      simp only [World.cell?,Addr.add,if_true] at hc
      split at hc <;> simp at hc
    | none=>
      refine ⟨b,o,rfl,?_⟩
      have e1 : zs.getD i 0=zs[i]'(by omega):=by simp [List.getD,show i<zs.length by omega]
      have e2:=FN (hwz (zs[i]'(by omega)) (List.getElem_mem _))
      have e3 : v=.int .u8 (zs.getD i 0):=by
        simp only [BI,List.map_map,List.getElem?_map,List.getElem?_take] at hv
        rw [if_pos hi,List.getElem?_eq_getElem (by omega)] at hv
        simp only [Option.map_some,Function.comp,Option.some.injEq] at hv
        rw [← hv,e2,e1]
      rw [e3]
      have e4 : (⟨b,o,none⟩ : Addr).add i=⟨b,o+i,none⟩:=by
        unfold Addr.add
        split
        · subst i;rfl
        · rfl
      rw [e4] at hc
      exact hc
end
section
set_option maxRecDepth 10000
open Go.ChangeShapes Go.WideShapes Go.ChangeAt Go.RowKit
open Sl
set_option linter.unusedVariables false
end
section
set_option maxRecDepth 10000
open Go.ChangeShapes Go.WideShapes Go.ChangeAt Go.RowKit
open Sl ng
set_option linter.unusedVariables false
end
section
open Go.ChangeShapes Go.WideShapes Go.ChangeAt Go.RowKit
open Sl ij mF
set_option linter.unusedVariables false
set_option maxRecDepth 100000
theorem kP {P : Program} {w : World} {n : String} {d : DataW Unit} : ∀ {L : List (String × DataW Unit)} {ps : List MemPlace},DataW.LaidVars P w L ps→(n,d) ∈ L→
    ∃ g t cs fuel p,P.globalNamed n=some g∧(P.globals[g]?).map (·.type)=some t∧w.var? P n=some cs∧DataW.trod (fun _=>()) P w 0 (fun _=>true) false fuel t cs.toList=some (d,p)
  | [],_,_,h=>by cases h
  | (n',d')::L,ps,⟨g,t,cs,fuel,p,q,h1,h2,h3,h4,h5,_⟩,h=>by
    rcases List.mem_cons.1 h with h | h
    · cases h
      exact ⟨g,t,cs,fuel,p,h1,h2,h3,h4⟩
    · exact kP h5 h
theorem wA {α : Type} {a b : List α} (n : Nat) (hl : a.length=n * 4) (hb : b.length=n * 4) (h : ∀ i<n,(a.drop (i * 4)).take 4=(b.drop (i * 4)).take 4) : a=b:=by
  apply List.ext_getElem?
  intro j
  by_cases hj : j<n * 4
  · have h1:=congrArg (·[j % 4]?) (h (j / 4) (by omega))
    simp only [List.getElem?_take,List.getElem?_drop,Nat.mod_lt j (by decide : 0<4),if_true] at h1
    rwa [show j / 4 * 4+j % 4=j by omega] at h1
  · rw [List.getElem?_eq_none (by omega),List.getElem?_eq_none (by omega)]
def mz (i : Nat) : DataW Unit:=Lib.tabData .i64 ((o4 i).map fun x : Nat=>(x : Int))
def Kb : DataW Unit:=.agg [mz 0,mz 1,mz 2,mz 3,mz 4,mz 5,mz 6,mz 7]
theorem LR {W : World} {ps : List MemPlace} {L : List (String × DataW Unit)} (h : DataW.LaidVars Tryz.prog W L ps) (hm : ("despatch/stream.quarters",Kb) ∈ L) : GQ W:=by
  obtain ⟨g,t,cs,fuel,p,h1,h2,h3,h4⟩:=kP h hm
  have hg : Tryz.prog.globalNamed "despatch/stream.quarters" = some 0:=by kernel_rfl
  obtain rfl:=Option.some.inj (hg.symm.trans h1)
  obtain rfl:=Option.some.inj ((show (Tryz.prog.globals[0]?).map (·.type)=some 161 by kernel_rfl).symm.trans h2)
  obtain ⟨xs,m,_,ex,hlen,hl,hel⟩:=DataW.trod_array (show Tryz.prog.underlying 161=some (.array 8 160) by kernel_rfl) h4
  have c4 : Tryz.prog.cellsOf 160=4:=by kernel_rfl
  have c32 : Tryz.prog.cellsOf 161=32:=by kernel_rfl
  rw [c32] at hlen
  have hxs : xs.map (·.1)=[mz 0,mz 1,mz 2,mz 3,mz 4,mz 5,mz 6,mz 7]:=by
    have:=congrArg Prod.fst ex
    simpa [Kb] using this.symm
  have hcs : cs.toList=qw.map N:=by
    refine wA 8 hlen rfl fun i hi=>?_
    have h5:=hel i hi
    rw [c4] at h5
    have h6 : (xs.map (·.1))[i]?=some (mz i):=by
      rw [hxs]
      have : i=0∨i=1∨i=2∨i=3∨i=4∨i=5∨i=6∨i=7:=by omega
      rcases this with rfl | rfl | rfl | rfl | rfl | rfl | rfl | rfl <;> rfl
    rw [List.getElem?_map] at h6
    obtain ⟨y,hy,hy1⟩:=Option.map_eq_some_iff.1 h6
    rw [hy] at h5
    obtain ⟨y1,y2⟩:=y
    subst hy1
    have h7:=Lib.cells_of_tab (show Tryz.prog.underlying 160=some (.array 4 3) by kernel_rfl) (show Tryz.prog.underlying 3=some (.int .i64) by kernel_rfl) (by kernel_rfl) c4 h5
    rw [h7,HW i hi,List.map_map]
    rfl
  unfold World.var? at h3
  rw [hg] at h3
  simp only [Option.bind_some] at h3
  split at h3
  · rename_i cs' e fr hb
    obtain rfl:=Option.some.inj h3
    refine ⟨e,fr,?_⟩
    rw [hb,← hcs]
  · cases h3
theorem Kc {W : World} {ps : List MemPlace} {L : List (String × DataW Unit)} (h : DataW.LaidVars Tryz.prog W L ps) (hm : ("despatch/hash.rounds",Lib.tabData .u32 (K.map fun x=>(x.toNat : Int))) ∈ L) : g9 W:=by
  obtain ⟨g,t,cs,fuel,p,h1,h2,h3,h4⟩:=kP h hm
  have hg : Tryz.prog.globalNamed "despatch/hash.rounds" = some 1:=by kernel_rfl
  obtain rfl:=Option.some.inj (hg.symm.trans h1)
  obtain rfl:=Option.some.inj ((show (Tryz.prog.globals[1]?).map (·.type)=some 134 by kernel_rfl).symm.trans h2)
  have hcs:=Lib.cells_of_tab (show Tryz.prog.underlying 134=some (.array 64 95) by kernel_rfl) (show Tryz.prog.underlying 95=some (.int .u32) by kernel_rfl) (by kernel_rfl) (by kernel_rfl) h4
  unfold World.var? at h3
  rw [hg] at h3
  simp only [Option.bind_some] at h3
  split at h3
  · rename_i cs' e fr hb
    obtain rfl:=Option.some.inj h3
    refine ⟨e,fr,?_⟩
    rw [hb]
    have : cs'=(cs'.toList).toArray:=by simp
    rw [this,hcs,List.map_map]
    rfl
  · cases h3
theorem sZ : ((Rows.ratchetDecryptsRow.laid).all fun x=>x.2.handleName?.isNone)=true:=by kernel_rfl
theorem HE : Rows.ratchetDecryptsRow.laid=[("despatch/hash.rounds",Lib.tabData .u32 (K.map fun x=>(x.toNat : Int))),("despatch/stream.quarters",Kb)]:=by kernel_rfl
theorem oY {W : World} (h : laidMetH Tryz.prog Rows.ratchetDecryptsRow.laid W) : g9 W∧GQ W:=by
  rw [MakeChecks.laidMetH_plain _ _ _ sZ,HE] at h
  obtain ⟨ps,h,_⟩:=h
  exact ⟨Kc h (by simp),LR h (by simp)⟩
theorem HF (os : Os) (args : Array Value) : laidMetH Tryz.prog Rows.ratchetDecryptsRow.laid ((World.laidAll Tryz.prog os Rows.ratchetDecryptsRow.laid).forCall (fun _ _=>0) ⟨#[],args,[]⟩).memory:=by
  rw [MakeChecks.laidMetH_plain _ _ _ sZ]
  exact laidMet_laidAll _ (by kernel_rfl) (by kernel_rfl)
theorem Da (os : Os) : (World.laidAll Tryz.prog os Rows.ratchetDecryptsRow.laid).Shaped Tryz.prog:=World.shaped_of_ZipB (by kernel_rfl) (by kernel_rfl)
end
end Go.Proofs.YtgkninhgcpbfnaaGreatDoor
