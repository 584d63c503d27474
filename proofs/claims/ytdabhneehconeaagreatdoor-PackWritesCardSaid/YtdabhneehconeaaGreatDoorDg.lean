/-
  Of no statement by itself: the texts QuoB, Slgo, QuoC, TokD, TkE, TkF, TkD, TkG, MibF, MimK, LtE, LtF, LtG, LtH in one.
  Conditions: each theorem's own.
-/
import Derived.Test.YtdabhneehconeaaGreatDoorDf
set_option linter.unusedSimpArgs false
set_option linter.unusedVariables false
set_option maxRecDepth 10000
set_option maxHeartbeats 64000000
open Go.Proofs.YtdabhneehconeaaGreatDoor.YY
namespace Go.Proofs.YtdabhneehconeaaGreatDoor
section
open Sl aq gv
theorem OQ.Ck{P:Program}{n:Nat}{E:Env}{C:World->Prop}{dst:Option Tmp}{t t' ty:TypeId}{pos:String}{aft:Array Edge}{g:Option (Nat × Bool)}{x y:Operand}{a b:BitVec 8}{c:Bool}(hx:ev E x=some (U8 a))(hy:ev E y=some (U8 b))(h:decide (a=b)=c):OQ P n E C ⟨dst,.binOp .eql t x y t',ty,pos,aft,g⟩ (.bool c):=h▸OQ.Pq hx hy
theorem OQ.nE{P:Program}{n:Nat}{E:Env}{dst:Option Tmp}{ty:TypeId}{pos:String}{aft:Array Edge}{g:Option (Nat × Bool)}{w0:World}{S:List Nat}{M:List aL}{f:FuncId}{xs:List Operand}{ats:Array TypeId}{vs:List Value}{b c:Bool}(hg:aJ P f)(hx:pK E xs=some vs)(hc:∀ w,aa w0 S M w->Calls P f vs.toArray w fun e w'=>e=.returned (.bool b)/\Ext w w')(h:b=c) :
  OQ P n E (aa w0 S M) ⟨dst,.call ⟨.value (.func f),xs.toArray,ats⟩,ty,pos,aft,g⟩ (.bool c):=h▸OQ.ai hg hx hc
theorem OQ.Li{P:Program}{n:Nat}{E:Env}{C:World->Prop}{dst:Option Tmp}{t t' ty:TypeId}{pos:String}{aft:Array Edge}{g:Option (Nat × Bool)}{x y:Operand}{a b:BitVec 8}(hx:ev E x=some (U8 a))(hy:ev E y=some (U8 b))(h:b.toNat<=a.toNat):OQ P n E C ⟨dst,.binOp .sub t x y t',ty,pos,aft,g⟩ (U8 (a-b)):=
 OQ.bin hx hy rfl fun _=>mE (k:=.u8) (show IntKind.u8.wrap ((a.toNat:Int)-b.toNat)=((a-b).toNat:Int) by
  rw[BitVec.toNat_sub_of_le Y668,<- Int.ofNat_sub h,A6,Nat.mod_eq_of_lt (by have:=a.isLt;omega)])
theorem Qx:∀ a b:Fin 16,IntKind.i64.wrap ((BitVec.ofInt 64 ((16*a.val:Nat):Int) ||| BitVec.ofInt 64 ((b.val:Nat):Int)).toNat:Int)=((16*a.val+b.val:Nat):Int):=by decide +kernel
theorem OQ.Ss{P:Program}{n:Nat}{E:Env}{C:World->Prop}{dst:Option Tmp}{t t' ty:TypeId}{pos:String}{aft:Array Edge}{g:Option (Nat × Bool)}{x y:Operand}{a b:Nat}(hx:ev E x=some (N (16*a)))(hy:ev E y=some (N b))(ha:a<16)(hb:b<16):OQ P n E C ⟨dst,.binOp .or t x y t',ty,pos,aft,g⟩ (N (16*a+b)):=
 OQ.bin hx hy rfl fun _=>mE (k:=.i64) (Qx ⟨a,ha⟩ ⟨b,hb⟩)
theorem OQ.Qy{P:Program}{n:Nat}{E:Env}{C:World->Prop}{dst:Option Tmp}{t t' ty:TypeId}{pos:String}{aft:Array Edge}{g:Option (Nat × Bool)}{x y:Operand}{a:Nat}(hx:ev E x=some (N a))(hy:ev E y=some (.int .u64 4))(ha:a<16):OQ P n E C ⟨dst,.binOp .shl t x y t',ty,pos,aft,g⟩ (N (16*a)):=
 OQ.to (OQ.Td (a:=(a:Int)) (m:=16) (yk:=.u64) (k:=4) rfl Y610 hx hy Y609 Y609) (congrArg (Value.int .i64) Y609)
theorem St:Tryz.prog.follows .mixedOrders=true:=by kernel_rfl
theorem sZ:aJ Tryz.prog 236:=⟨_,Tryz.func236,rfl,by kernel_rfl⟩
theorem jE:aJ Tryz.prog 193:=⟨_,Tryz.func193,rfl,by kernel_rfl⟩
theorem mu:aJ Tryz.prog 206:=⟨_,Tryz.func206,rfl,by kernel_rfl⟩
theorem jF:aJ Tryz.prog 208:=⟨_,Tryz.func208,rfl,by kernel_rfl⟩
theorem mw:aJ Tryz.prog 207:=⟨_,Tryz.func207,rfl,by kernel_rfl⟩
theorem kJ:aJ Tryz.prog 239:=⟨_,Tryz.func239,rfl,by kernel_rfl⟩
theorem yD:aJ Tryz.prog 209:=⟨_,Tryz.func209,rfl,by kernel_rfl⟩
theorem wo(c:Bt)(w:World):Calls Tryz.prog 236 [U8 c].toArray w fun e w'=>e=.returned (.bool (bl c))/\Ext w w':=by
 refine enter (n:=9) Tryz.func236 rfl rfl rfl (aa.start w []) ?_
 rw[show bl c=(decide (c=32)||decide (c=9)) from rfl]
 cases h1:decide (c=32) <;> cases h2:decide (c=9)
 all_goals (repeat(first|refine JL.q (by first|(apply OQ.Ck (b:=32);rfl;rfl;exact h1)|(apply OQ.Ck (b:=9);rfl;rfl;exact h2)) rfl ?_|refine JL.bG rfl rfl ?_|refine JL.aM rfl rfl rfl rfl ?_|refine Y12 ?_))
 all_goals exact JC.ret (JE.aK rfl (RV.tmp rfl) fun w' hw=>⟨rfl,hw.aH⟩)
def crlf(l:List Bt):Bool:=(decide ((2:Int)<=(l.length:Int))&&decide (l.getD 0 0=13))&&decide (l.getD 1 0=10)
theorem Ej(s:ay)(w:World)(hs:s.ok w):Calls Tryz.prog 193 [s.v].toArray w fun e w'=>e=.returned (.bool (crlf s.l))/\Ext w w':=by
 refine enter (n:=18) Tryz.func193 rfl rfl rfl (aa.start w []) ?_
 unfold crlf
 cases h2:decide ((2:Int)<=(s.l.length:Int))
 · repeat(first|refine JL.q (by(apply OQ.dn (b:=2);rfl;rfl;exact h2)) rfl ?_|refine JL.aM rfl rfl rfl rfl ?_|refine Y99 ?_)
   exact Y244
 · have h2':2<=s.l.length:=by have:=of_decide_eq_true h2;omega
   obtain⟨ba,ja,hae,hca⟩:=hs.reads.at Y624
   have i0:0<s.l.length:=by omega
   have i1:1<s.l.length:=by omega
   have hc0:=hca 0 _ (dF U8 0 i0)
   have hc1:=hca 1 _ (dF U8 0 i1)
   have hav:s.v=.slice (some ⟨ba,ja,none⟩) s.l.length s.cap:=by rw[<- hae];rfl
   generalize s.l.getD 0 0=c at hc0⊢
   generalize s.l.getD 1 0=d at hc1⊢
   cases h13:decide (c=13) <;> cases h10:decide (d=10)
   all_goals (repeat(first|refine JL.q (by first|(apply OQ.dn (b:=2);rfl;rfl;exact h2)|exact Y474|exact Y475|exact Y476|exact Y477|(apply OQ.Ck (b:=13);rfl;rfl;exact h13)|exact Y478) rfl ?_|refine JL.bG rfl rfl ?_|refine JL.aM rfl rfl rfl rfl ?_|refine Y173 ?_))
   all_goals exact JC.ret (JE.aK rfl (RV.tmp rfl) fun w' hw=>⟨rfl,hw.aH⟩)
theorem Cl:∀ (l:List aq.By) (i:Nat),i<=iq l->i<l.length->bl (l.getD i 0)=true->i+1<=iq l
 | [],i,_,h,_=>by cases h
 | c::l,i,hi,hl,hb=>by
   rw[we] at hi⊢
   cases hc:bl c
   · rw[hc,if_neg Y610] at hi
     obtain rfl:i=0:=by omega
     rw[List.getD_cons_zero,hc] at hb
     cases hb
   · rw[hc,if_pos rfl] at hi
     rw[if_pos rfl]
     cases i with
     | zero=>omega
     | succ i=>
       have:=Cl l i Y609 Y626 (by simpa using hb)
       omega
theorem Cm:∀ (l:List aq.By) (i:Nat),i<=iq l->i<l.length->bl (l.getD i 0)=false->iq l=i
 | [],i,_,h,_=>by cases h
 | c::l,i,hi,hl,hb=>by
   rw[we] at hi⊢
   cases hc:bl c
   · rw[hc,if_neg Y610] at hi
     rw[if_neg Y610]
     omega
   · rw[hc,if_pos rfl] at hi
     rw[if_pos rfl]
     cases i with
     | zero=>rw[List.getD_cons_zero,hc] at hb;cases hb
     | succ i=>
       have:=Cm l i Y609 Y626 (by simpa using hb)
       omega
theorem wq(s:ay)(w:World)(hs:s.ok w)(hl:s.l.length<9223372036854775807):Calls Tryz.prog 206 [s.v].toArray w fun e w'=>e=.returned (N (iq s.l))/\Ext w w':=by
 refine enter (n:=19) Tryz.func206 rfl rfl rfl (aa.start w []) ?_
 refine Y85 ?_
 refine JC.loop (fun i:Nat=>[(0,s.v),(5,s.v),(6,N s.l.length),(7,N i)]) (fun _=>[]) (fun i=>s.l.length-i) (fun i=>i<=iq s.l) 0 (Nat.zero_le _) Y640 (aj.refl _) ?_
 intro i hi
 have hle:=v8 s.l
 refine Y22 ?_
 refine JC.cond rfl (fun h=>?_) (fun h=>?_)
 · have hi':i<s.l.length:=of_decide_eq_true h
   clear h
   obtain⟨ba,ja,hae,hca⟩:=hs.reads.at Y624
   have hc:=hca i _ (dF U8 0 hi')
   have hav:s.v=.slice (some ⟨ba,ja,none⟩) s.l.length s.cap:=by rw[<- hae];rfl
   have e1:=Cl s.l i hi hi'
   have e2:=Cm s.l i hi hi'
   generalize s.l.getD i 0=c at hc e1 e2
   cases hb:bl c
   · rw[e2 hb]
     repeat(first|refine JL.q Y724 rfl ?_|refine Y52 ?_)
     refine Y246 ?_
     refine Y24 ?_
     refine Y247 ?_
     refine Y2 ?_
     exact Y248
   · repeat(first|refine JL.q Y724 rfl ?_|refine Y52 ?_)
     refine Y245 ?_
     refine Y25 ?_
     exact JE.again (i:=i) (i+1) (e1 hb) Y609 Y640 (aj.refl _)
 · have hi':¬ i<s.l.length:=of_decide_eq_false h
   obtain rfl:i=s.l.length:=by omega
   have e:iq s.l=s.l.length:=by omega
   rw[e]
   clear h
   repeat(first|refine JL.q (by first|exact Y323|exact Y324|exact Y378) rfl ?_|refine JC.seq ?_|refine JC.region ?_|refine JC.exit ?_|refine JL.nil ?_|refine JE.next ?_|refine JE.ak ?_|refine JE.aC ?_)
   refine Y247 ?_
   exact Y248
theorem Lj(l:List aq.By):wW l=if crlf l then 2 else if l.length=0 then 0 else if l.getD 0 0=10 then 1 else 0:=by
 match l with
 | []=>rfl
 | [c]=>
   have h:crlf [c]=false:=rfl
   have h2:¬ (c=13/\([]:List aq.By).head?=some 10):=fun e=>by cases e.2
   rw[qB,h,if_neg h2,if_neg (Bool.false_ne_true),if_neg (show ¬ [c].length=0 from Nat.one_ne_zero),List.getD_cons_zero]
 | c::d::r=>
   rw[qB]
   have h2:decide ((2:Int)<=(((c::d::r).length:Nat):Int))=true:=decide_eq_true (by simp only[List.length_cons];omega)
   unfold crlf
   rw[h2,if_neg (by simp:¬ (c::d::r).length=0)]
   simp only[List.getD_cons_zero,List.getD_cons_succ,List.head?_cons,Option.some.injEq,Bool.true_and,Bool.and_eq_true,decide_eq_true_eq]
   by_cases h10:c=10
   · have h13:¬ (c=13/\d=10):=fun e=>by rw[h10] at e;exact absurd e.1 Y610
     rw[if_pos h10,if_neg h13,if_pos h10]
   · rw[if_neg h10,if_neg h10]
theorem o8(s:ay)(w:World)(hs:s.ok w):Calls Tryz.prog 208 [s.v].toArray w fun e w'=>e=.returned (N (wW s.l))/\Ext w w':=by
 refine enter (n:=16) Tryz.func208 rfl rfl rfl (aa.start w []) ?_
 rw[Lj s.l]
 have cB:=fun w' (hw':aa w [] [] w')=>Ej s w' (hs.holds hw' rfl)
 cases hb:crlf s.l
 · rw[if_neg Y610]
   cases h0:decide ((0:Int)<(s.l.length:Int))
   · have h0':s.l.length=0:=by have:=of_decide_eq_false h0;omega
     rw[if_pos h0']
     refine Y174 ?_
     refine Y252 ?_
     repeat(first|refine JL.q Y653 rfl ?_|refine JL.aM rfl rfl rfl rfl ?_|refine Y99 ?_)
     refine Y252 ?_
     refine Y175 ?_
     refine Y247 ?_
     exact Y248
   · have i0:0<s.l.length:=by have:=of_decide_eq_true h0;omega
     rw[if_neg Y609]
     obtain⟨ba,ja,hae,hca⟩:=hs.reads.at Y624
     have hc0:=hca 0 _ (dF U8 0 i0)
     have hav:s.v=.slice (some ⟨ba,ja,none⟩) s.l.length s.cap:=by rw[<- hae];rfl
     generalize s.l.getD 0 0=c at hc0⊢
     cases h10:decide (c=10)
     · rw[if_neg (of_decide_eq_false h10)]
       refine Y174 ?_
       refine Y252 ?_
       repeat(first|refine JL.q Y725 rfl ?_|refine JL.bG rfl rfl ?_|refine Y100 ?_)
       refine Y252 ?_
       refine Y175 ?_
       refine Y247 ?_
       exact Y248
     · rw[if_pos (of_decide_eq_true h10)]
       refine Y174 ?_
       refine Y252 ?_
       repeat(first|refine JL.q Y725 rfl ?_|refine JL.bG rfl rfl ?_|refine Y100 ?_)
       refine Y271 ?_
       refine Y3 ?_
       refine Y247 ?_
       refine Y2 ?_
       exact Y248
 · rw[if_pos rfl]
   refine Y174 ?_
   refine Y271 ?_
   refine Y3 ?_
   refine Y247 ?_
   refine Y2 ?_
   exact Y248
theorem Ll(l:List aq.By):oD l=(decide ((l.length:Int)=0)||decide ((0:Int)<(wW l:Int))):=by
 unfold oD
 congr 1
 · exact decide_eq_decide.2 ⟨fun h=>by rw[h];rfl,fun h=>List.eq_nil_of_length_eq_zero Y609⟩
 · exact Y255
theorem Cn(s:ay)(w:World)(hs:s.ok w):Calls Tryz.prog 207 [s.v].toArray w fun e w'=>e=.returned (.bool (oD s.l))/\Ext w w':=by
 refine enter (n:=11) Tryz.func207 rfl rfl rfl (aa.start w []) ?_
 rw[Ll s.l]
 have cE:=fun w' (hw':aa w [] [] w')=>o8 s w' (hs.holds hw' rfl)
 cases h0:decide ((s.l.length:Int)=0) <;> cases h1:decide ((0:Int)<(wW s.l:Int))
 all_goals (repeat(first|refine JL.q (by first|exact Y429|(apply OQ.ai (vs:=[s.v]);exact jF;rfl;exact cE)|exact Y333) rfl ?_|refine JL.bG rfl rfl ?_|refine JL.aM rfl rfl rfl rfl ?_|refine Y173 ?_))
 all_goals exact JC.ret (JE.aK rfl (RV.tmp rfl) fun w' hw=>⟨rfl,hw.aH⟩)
theorem Su(c:aq.By)(h:48<=c.toNat)(h':c.toNat<=57):kj c=(((c-48).toNat:Nat):Int):=by
 unfold kj
 rw[if_pos ⟨h,h'⟩,BitVec.toNat_sub_of_le Y668]
 exact(Int.ofNat_sub h).symm
theorem Sv(c:aq.By)(h:65<=c.toNat)(h':c.toNat<=70):kj c=(((c-65).toNat+10:Nat):Int):=by
 unfold kj
 rw[if_neg Y609,if_pos ⟨h,h'⟩,BitVec.toNat_sub_of_le Y668,show(65:aq.By).toNat=65 from rfl]
 omega
theorem Sw(c:aq.By)(h:97<=c.toNat)(h':c.toNat<=102):kj c=(((c-97).toNat+10:Nat):Int):=by
 unfold kj
 rw[if_neg Y609,if_neg Y609,if_pos ⟨h,h'⟩,BitVec.toNat_sub_of_le Y668,show(97:aq.By).toNat=97 from rfl]
 omega
theorem F9(c:aq.By)(h1:¬ (48<=c.toNat/\c.toNat<=57))(h2:¬ (65<=c.toNat/\c.toNat<=70))(h3:¬ (97<=c.toNat/\c.toNat<=102)):kj c=-1:=by
 unfold kj
 rw[if_neg h1,if_neg h2,if_neg h3]
theorem Ga(c:aq.By):-1<=kj c/\kj c<16:=by
 unfold kj
 split
 · omega
 · split
   · omega
   · split <;> omega
theorem yE(c:Bt)(w:World):Calls Tryz.prog 239 [U8 c].toArray w fun e w'=>e=.returned (.int .i64 (kj c))/\Ext w w':=by
 refine enter (n:=35) Tryz.func239 rfl rfl rfl (aa.start w []) ?_
 have hc:=c.isLt
 rcases(by omega:(c.toNat<48)\/(48<=c.toNat/\c.toNat<=57)\/(58<=c.toNat/\c.toNat<=64)\/(65<=c.toNat/\c.toNat<=70)\/(71<=c.toNat/\c.toNat<=96)\/(97<=c.toNat/\c.toNat<=102)\/(103<=c.toNat)) with h|h|h|h|h|h|h
 · rw[F9 c Y609 Y609 Y609]
   have ha0:decide ((48:Int)<=(c.toNat:Int))=false:=decide_eq_false Y609
   have hb0:decide ((c.toNat:Int)<=57)=true:=decide_eq_true Y609
   have ha1:decide ((65:Int)<=(c.toNat:Int))=false:=decide_eq_false Y609
   have hb1:decide ((c.toNat:Int)<=70)=true:=decide_eq_true Y609
   have ha2:decide ((97:Int)<=(c.toNat:Int))=false:=decide_eq_false Y609
   have hb2:decide ((c.toNat:Int)<=102)=true:=decide_eq_true Y609
   repeat(first|refine JL.q (by first|exact Y481|exact Y331|exact Y323|exact Y324) rfl ?_|refine JC.seq ?_|refine JC.region ?_|refine JC.block ?_|refine JL.nil ?_|refine JE.next ?_|refine JL.aM rfl rfl rfl rfl ?_)
   refine Y252 ?_
   repeat(first|refine JL.q (by exact Y482) rfl ?_|refine JL.aM rfl rfl rfl rfl ?_|refine Y170 ?_)
   refine Y252 ?_
   repeat(first|refine JL.q (by exact Y483) rfl ?_|refine JL.aM rfl rfl rfl rfl ?_|refine Y170 ?_)
   refine Y252 ?_
   refine Y175 ?_
   refine Y247 ?_
   exact Y248
 · rw[Su c h.1 h.2]
   have ha0:decide ((48:Int)<=(c.toNat:Int))=true:=decide_eq_true Y609
   have hb0:decide ((c.toNat:Int)<=57)=true:=decide_eq_true Y609
   repeat(first|refine JL.q Y726 rfl ?_|refine JL.bG rfl rfl ?_|refine Y176 ?_)
   refine Y271 ?_
   repeat(first|refine JL.q (by(apply OQ.Li (b:=48);rfl;rfl;exact h.1)) rfl ?_|refine Y177 ?_)
   refine Y247 ?_
   refine Y2 ?_
   exact Y248
 · rw[F9 c Y609 Y609 Y609]
   have ha0:decide ((48:Int)<=(c.toNat:Int))=true:=decide_eq_true Y609
   have hb0:decide ((c.toNat:Int)<=57)=false:=decide_eq_false Y609
   have ha1:decide ((65:Int)<=(c.toNat:Int))=false:=decide_eq_false Y609
   have hb1:decide ((c.toNat:Int)<=70)=true:=decide_eq_true Y609
   have ha2:decide ((97:Int)<=(c.toNat:Int))=false:=decide_eq_false Y609
   have hb2:decide ((c.toNat:Int)<=102)=true:=decide_eq_true Y609
   repeat(first|refine JL.q Y726 rfl ?_|refine JL.bG rfl rfl ?_|refine Y176 ?_)
   refine Y252 ?_
   repeat(first|refine JL.q (by exact Y482) rfl ?_|refine JL.aM rfl rfl rfl rfl ?_|refine Y170 ?_)
   refine Y252 ?_
   repeat(first|refine JL.q (by exact Y483) rfl ?_|refine JL.aM rfl rfl rfl rfl ?_|refine Y170 ?_)
   refine Y252 ?_
   refine Y175 ?_
   refine Y247 ?_
   exact Y248
 · rw[Sv c h.1 h.2]
   have ha0:decide ((48:Int)<=(c.toNat:Int))=true:=decide_eq_true Y609
   have hb0:decide ((c.toNat:Int)<=57)=false:=decide_eq_false Y609
   have ha1:decide ((65:Int)<=(c.toNat:Int))=true:=decide_eq_true Y609
   have hb1:decide ((c.toNat:Int)<=70)=true:=decide_eq_true Y609
   repeat(first|refine JL.q Y726 rfl ?_|refine JL.bG rfl rfl ?_|refine Y176 ?_)
   refine Y252 ?_
   repeat(first|refine JL.q Y727 rfl ?_|refine JL.bG rfl rfl ?_|refine Y79 ?_)
   refine Y271 ?_
   repeat(first|refine JL.q (by first|(apply OQ.Li (b:=65);rfl;rfl;exact h.1)|(apply OQ.aY (b:=10);rfl;rfl;exact(by have:=(c-65).isLt;omega))) rfl ?_|refine Y177 ?_)
   refine Y247 ?_
   refine Y2 ?_
   exact Y248
 · rw[F9 c Y609 Y609 Y609]
   have ha0:decide ((48:Int)<=(c.toNat:Int))=true:=decide_eq_true Y609
   have hb0:decide ((c.toNat:Int)<=57)=false:=decide_eq_false Y609
   have ha1:decide ((65:Int)<=(c.toNat:Int))=true:=decide_eq_true Y609
   have hb1:decide ((c.toNat:Int)<=70)=false:=decide_eq_false Y609
   have ha2:decide ((97:Int)<=(c.toNat:Int))=false:=decide_eq_false Y609
   have hb2:decide ((c.toNat:Int)<=102)=true:=decide_eq_true Y609
   repeat(first|refine JL.q Y726 rfl ?_|refine JL.bG rfl rfl ?_|refine Y176 ?_)
   refine Y252 ?_
   repeat(first|refine JL.q Y727 rfl ?_|refine JL.bG rfl rfl ?_|refine Y79 ?_)
   refine Y252 ?_
   repeat(first|refine JL.q (by exact Y483) rfl ?_|refine JL.aM rfl rfl rfl rfl ?_|refine Y170 ?_)
   refine Y252 ?_
   refine Y175 ?_
   refine Y247 ?_
   exact Y248
 · rw[Sw c h.1 h.2]
   have ha0:decide ((48:Int)<=(c.toNat:Int))=true:=decide_eq_true Y609
   have hb0:decide ((c.toNat:Int)<=57)=false:=decide_eq_false Y609
   have ha1:decide ((65:Int)<=(c.toNat:Int))=true:=decide_eq_true Y609
   have hb1:decide ((c.toNat:Int)<=70)=false:=decide_eq_false Y609
   have ha2:decide ((97:Int)<=(c.toNat:Int))=true:=decide_eq_true Y609
   have hb2:decide ((c.toNat:Int)<=102)=true:=decide_eq_true Y609
   repeat(first|refine JL.q Y726 rfl ?_|refine JL.bG rfl rfl ?_|refine Y176 ?_)
   refine Y252 ?_
   repeat(first|refine JL.q Y727 rfl ?_|refine JL.bG rfl rfl ?_|refine Y79 ?_)
   refine Y252 ?_
   repeat(first|refine JL.q Y728 rfl ?_|refine JL.bG rfl rfl ?_|refine Y79 ?_)
   refine Y271 ?_
   repeat(first|refine JL.q (by first|(apply OQ.Li (b:=97);rfl;rfl;exact h.1)|(apply OQ.aY (b:=10);rfl;rfl;exact(by have:=(c-97).isLt;omega))) rfl ?_|refine Y177 ?_)
   refine Y247 ?_
   refine Y2 ?_
   exact Y248
 · rw[F9 c Y609 Y609 Y609]
   have ha0:decide ((48:Int)<=(c.toNat:Int))=true:=decide_eq_true Y609
   have hb0:decide ((c.toNat:Int)<=57)=false:=decide_eq_false Y609
   have ha1:decide ((65:Int)<=(c.toNat:Int))=true:=decide_eq_true Y609
   have hb1:decide ((c.toNat:Int)<=70)=false:=decide_eq_false Y609
   have ha2:decide ((97:Int)<=(c.toNat:Int))=true:=decide_eq_true Y609
   have hb2:decide ((c.toNat:Int)<=102)=false:=decide_eq_false Y609
   repeat(first|refine JL.q Y726 rfl ?_|refine JL.bG rfl rfl ?_|refine Y176 ?_)
   refine Y252 ?_
   repeat(first|refine JL.q Y727 rfl ?_|refine JL.bG rfl rfl ?_|refine Y79 ?_)
   refine Y252 ?_
   repeat(first|refine JL.q Y728 rfl ?_|refine JL.bG rfl rfl ?_|refine Y79 ?_)
   refine Y252 ?_
   refine Y175 ?_
   refine Y247 ?_
   exact Y248
theorem N1(s:ay)(w:World)(hs:s.ok w):Calls Tryz.prog 209 [s.v].toArray w fun e w'=>e=.returned (.tuple #[U8 ((vX s.l).getD 0),.bool (vX s.l).isSome])/\Ext w w':=by
 refine enter (n:=28) Tryz.func209 rfl rfl rfl (aa.start w []) ?_
 cases h3:decide ((s.l.length:Int)<3)
 · have h3':3<=s.l.length:=by have:=of_decide_eq_false h3;omega
   obtain⟨ba,ja,hae,hca⟩:=hs.reads.at Y624
   have i1:1<s.l.length:=by omega
   have i2:2<s.l.length:=by omega
   have hc1:=hca 1 _ (dF U8 0 i1)
   have hc2:=hca 2 _ (dF U8 0 i2)
   have hav:s.v=.slice (some ⟨ba,ja,none⟩) s.l.length s.cap:=by rw[<- hae];rfl
   have eH:vX s.l=if 3<=s.l.length/\0<=kj (s.l.getD 1 0)/\0<=kj (s.l.getD 2 0) then some (BitVec.ofInt 8 (16*kj (s.l.getD 1 0)+kj (s.l.getD 2 0))) else none:=rfl
   have b1:=Ga (s.l.getD 1 0)
   have b2:=Ga (s.l.getD 2 0)
   have w1:=fun w'=>yE (s.l.getD 1 0) w'
   have w2:=fun w'=>yE (s.l.getD 2 0) w'
   generalize hp:kj (s.l.getD 1 0)=p at eH b1 w1
   generalize hq:kj (s.l.getD 2 0)=q at eH b2 w2
   generalize s.l.getD 1 0=c at hc1 w1
   generalize s.l.getD 2 0=d at hc2 w2
   repeat(first|refine JL.q (by(apply OQ.fV (b:=3);rfl;rfl;exact h3)) rfl ?_|refine Y103 ?_)
   refine Y252 ?_
   refine Y38 ?_
   refine JC.quiet St Y636 ?_
   repeat(first|refine JL.q Y729 rfl ?_|refine JQ.q Y729 rfl ?_|refine JC.seq ?_|refine JC.region ?_|refine JQ.nil ?_|refine JE.next ?_)
   cases hpn:decide (p<0)
   · cases hqn:decide (q<0)
     · have hp0:0<=p:=by have:=of_decide_eq_false hpn;omega
       have hq0:0<=q:=by have:=of_decide_eq_false hqn;omega
       rw[if_pos ⟨h3',hp0,hq0⟩] at eH
       rw[eH]
       clear eH hpn hqn
       obtain⟨a,rfl⟩:∃ a:Nat,p=(a:Int):=⟨p.toNat,by omega⟩
       obtain⟨b,rfl⟩:∃ b:Nat,q=(b:Int):=⟨q.toNat,by omega⟩
       have ha:a<16:=by omega
       have hb:b<16:=by omega
       have n1:decide ((a:Int)<0)=false:=decide_eq_false Y609
       have n2:decide ((b:Int)<0)=false:=decide_eq_false Y609
       have e16:(16*(a:Int)+(b:Int))=((16*a+b:Nat):Int):=by omega
       rw[e16]
       repeat(first|refine JL.q (by(apply OQ.fV (b:=0);rfl;rfl;exact n1)) rfl ?_|refine JL.bG rfl rfl ?_|refine Y178 ?_)
       refine Y252 ?_
       repeat(first|refine JL.q (by first|(apply OQ.Qy (a:=a);rfl;rfl;exact ha)|(apply OQ.Ss (a:=a) (b:=b);rfl;rfl;exact ha;exact hb)|(apply OQ.MQ;exact Tryz.underlying3;exact Tryz.underlying5;rfl)|exact Y323|exact Y324) rfl ?_|refine JC.seq ?_|refine JC.region ?_|refine JC.skip ?_|refine JL.nil ?_|refine JE.next ?_)
       refine Y247 ?_
       exact Y259
     · have hq0:¬ 0<=q:=by have:=of_decide_eq_true hqn;omega
       rw[if_neg fun h=>hq0 h.2.2] at eH
       rw[eH]
       repeat(first|refine JL.q (by first|(apply OQ.fV (b:=0);rfl;rfl;exact hpn)|(apply OQ.fV (b:=0);rfl;rfl;exact hqn)) rfl ?_|refine JL.bG rfl rfl ?_|refine Y178 ?_)
       refine Y271 ?_
       refine Y3 ?_
       refine Y247 ?_
       refine Y250 ?_
       exact Y259
   · have hp0:¬ 0<=p:=by have:=of_decide_eq_true hpn;omega
     rw[if_neg fun h=>hp0 h.2.1] at eH
     rw[eH]
     repeat(first|refine JL.q (by first|(apply OQ.fV (b:=0);rfl;rfl;exact hpn)|exact Y330|exact Y323) rfl ?_|refine JL.nil ?_|refine JE.next ?_|refine JL.aM rfl rfl rfl rfl ?_)
     refine Y271 ?_
     refine Y3 ?_
     refine Y247 ?_
     refine Y250 ?_
     exact Y259
 · have h3':¬ 3<=s.l.length:=by have:=of_decide_eq_true h3;omega
   have eH:vX s.l=none:=if_neg fun h=>h3' h.1
   rw[eH]
   repeat(first|refine JL.q (by(apply OQ.fV (b:=3);rfl;rfl;exact h3)) rfl ?_|refine Y103 ?_)
   refine Y271 ?_
   refine Y3 ?_
   refine Y247 ?_
   refine Y250 ?_
   exact Y259
end
section
namespace Sl
def iJ(J:Nat->Act->World->Prop)(Q:Exit->Act->World->Prop):Exit->Act->World->Prop
 | .goto l',a,w=>J l' a w
 | e,a,w=>Q e a w
abbrev xk(n:Nat)(w0:World)(S:List Nat){ι:Type}(lab:ι->Nat)(Ei:ι->Env)(Mi:ι->List aL)(p:ι->Prop):Nat->Act->World->Prop:=fun l a w=>∃ j,p j/\lab j=l/\bF n (Ei j) a/\aa w0 S (Mi j) w
section
variable {P:Program} {n:Nat} {w0:World} {S:List Nat} {Q:Exit->Act->World->Prop} {E:Env} {M:List aL}
theorem JC.scopes{ι:Type}(lab:ι->Nat)(rest:ι->Code)(Ei:ι->Env)(Mi:ι->List aL)(μ:ι->Nat)(I:ι->Prop){c:Code}(hf:∀ i,I i->findLabel c (lab i)=some (rest i))
  (first:JC P n w0 S (iJ (xk n w0 S lab Ei Mi I) Q) c E M)
  (pass:∀ i,I i->JC P n w0 S (iJ (xk n w0 S lab Ei Mi fun j=>I j/\μ j<μ i) Q) (rest i) (Ei i) (Mi i)):JC P n w0 S Q (.scope c) E M:=by
 refine⟨fun a0 w0' ha0 hw0 b k cs=>?_⟩
 have hg:∀ i,I i->gotoIn (lab i) (.inScope c::k)=some (.code (rest i)::.inScope c::k):=fun i hi=>by simp[gotoIn,hf i hi]
 have key:∀ m i,μ i=m->I i->∀ a w,bF n (Ei i) a->aa w0 S (Mi i) w->∃ e a' w',Q e a' w'/\Arrives P (lone (b.at a (.code (rest i)::.inScope c::k)) cs w) b k cs e a' w':=by
  intro m
  induction m using Nat.strongRecOn with
  | _ m ih=>
    intro i hm hI a w ha hw
    obtain⟨e,a₁,w₁,hq,harr⟩:=(pass i hI).go a w ha hw b (.inScope c::k) cs
    cases e with
    | normal=>exact⟨.normal,a₁,w₁,hq,Steps.trans harr (.one step_inScope)⟩
    | exit id=>exact⟨.exit id,a₁,w₁,hq,fun k' hk=>harr k' Y635⟩
    | goto l'=>
      obtain⟨j,⟨hJ,hlt⟩,rfl,ha₁,hw₁⟩:=hq
      obtain⟨e₂,a₂,w₂,hq₂,harr₂⟩:=ih (μ j) Y609 j rfl hJ a₁ w₁ ha₁ hw₁
      exact⟨e₂,a₂,w₂,hq₂,.of_steps (harr _ (hg j hJ)) harr₂⟩
    | ret=>exact⟨_,a₁,w₁,hq,harr⟩
    | panic ch=>exact⟨_,a₁,w₁,hq,harr⟩
    | outgrown=>exact⟨_,a₁,w₁,hq,harr⟩
 obtain⟨e,a₁,w₁,hq,harr⟩:=first.go a0 w0' ha0 hw0 b (.inScope c::k) cs
 cases e with
 | normal=>exact⟨.normal,a₁,w₁,hq,.head step_scope (Steps.trans harr (.one step_inScope))⟩
 | exit id=>exact⟨.exit id,a₁,w₁,hq,fun k' hk=>.head step_scope (harr k' Y635)⟩
 | goto l'=>
   obtain⟨j,hJ,rfl,ha₁,hw₁⟩:=hq
   obtain⟨e₂,a₂,w₂,hq₂,harr₂⟩:=key _ j rfl hJ a₁ w₁ ha₁ hw₁
   exact⟨e₂,a₂,w₂,hq₂,.of_steps (.head step_scope (harr _ (hg j hJ))) harr₂⟩
 | ret=>exact⟨_,a₁,w₁,hq,.of_steps (.one step_scope) harr⟩
 | panic ch=>exact⟨_,a₁,w₁,hq,.of_steps (.one step_scope) harr⟩
 | outgrown=>exact⟨_,a₁,w₁,hq,.of_steps (.one step_scope) harr⟩
theorem JC.N2{ι:Type}(lab:ι->Nat)(rest:ι->Code)(Ei:ι->Env)(Mi:ι->List aL)(μ:ι->Nat)(I:ι->Prop){c:Code}(hf:∀ i,I i->findLabel c (lab i)=some (.seq .skip (rest i)))
  (pass:∀ i,I i->JC P n w0 S (iJ (xk n w0 S lab Ei Mi fun j=>I j/\μ j<μ i) Q) (rest i) (Ei i) (Mi i))
  (first:(∀ i,I i->JC P n w0 S (iJ (xk n w0 S lab Ei Mi I) Q) (rest i) (Ei i) (Mi i))->JC P n w0 S (iJ (xk n w0 S lab Ei Mi I) Q) c E M):JC P n w0 S Q (.scope c) E M:=
 JC.scopes lab (fun i=>.seq .skip (rest i)) Ei Mi μ I hf (first fun i hi=>(pass i hi).mono fun e a w hq=>by
  cases e with
  | goto l'=>obtain⟨j,h1,h2⟩:=hq;exact⟨j,h1.1,h2⟩
  | _=>exact hq) fun i hi=>JC.seq (JC.skip (JE.next (pass i hi)))
theorem JC.N3{ι:Type}(esc:ι->Bool)(Ei:ι->Env)(Mi:ι->List aL)(μ:ι->Nat)(I:ι->Prop){c r0 r1:Code}(h0:findLabel c 0=some (.seq .skip r0))(h1:findLabel c 1=some (.seq .skip r1))
  (pass0:∀ i,esc i=false->I i->JC P n w0 S (iJ (xk n w0 S (fun i=>if esc i then 1 else 0) Ei Mi fun j=>I j/\μ j<μ i) Q) r0 (Ei i) (Mi i))
  (pass1:∀ i,esc i=true->I i->JC P n w0 S (iJ (xk n w0 S (fun i=>if esc i then 1 else 0) Ei Mi fun j=>I j/\μ j<μ i) Q) r1 (Ei i) (Mi i))
  (first:(∀ i,esc i=false->I i->JC P n w0 S (iJ (xk n w0 S (fun i=>if esc i then 1 else 0) Ei Mi I) Q) r0 (Ei i) (Mi i))->JC P n w0 S (iJ (xk n w0 S (fun i=>if esc i then 1 else 0) Ei Mi I) Q) c E M):JC P n w0 S Q (.scope c) E M:=by
 refine JC.N2 (fun i=>if esc i then 1 else 0) (fun i=>if esc i then r1 else r0) Ei Mi μ I (fun i _=>?_) (fun i hi=>?_) fun hp=>first fun i he hi=>?_
 · cases esc i
   · exact h0
   · exact h1
 · cases he:esc i
   · exact pass0 i he hi
   · exact pass1 i he hi
 · have:=hp i hi
   rw[he] at this
   exact this
theorem JE.j9{ι:Type}{l:Nat}{lab:ι->Nat}{Ei:ι->Env}{Mi:ι->List aL}{p:ι->Prop}(j:ι)(hp:p j)(hl:lab j=l)(hE:af E (Ei j))(hM:aj (Mi j) M):JE n w0 S (iJ (xk n w0 S lab Ei Mi p) Q) (.goto l) E M:=
 ⟨fun _ _ ha hw=>⟨j,hp,hl,ha.sub hE,hw.weak hM⟩⟩
theorem JE.yF{J:Nat->Act->World->Prop}(h:JE n w0 S Q .ret E M):JE n w0 S (iJ J Q) .ret E M:=⟨h.go⟩
end
end Sl
end
section
open Sl aq gv
theorem H6:aJ Tryz.prog 155:=⟨_,Tryz.func155,rfl,by kernel_rfl⟩
namespace gv
theorem Ek{b:List By}(h1:¬ b.getD 0 0=61)(hk:0<iq b):jD b=tq (if oD (b.drop (iq b)) then [] else b.take (iq b)) (jD (b.drop (iq b))):=by
 have hb:b≠[]:=by rintro rfl;cases hk
 have hs:iQ b=some (if oD (b.drop (iq b)) then [] else b.take (iq b),iq b):=by
  unfold iQ
  rw[if_neg h1,if_pos hk]
 rw[jO hb,hs]
theorem N4{b:List By}(hb:b≠[])(h1:¬ b.getD 0 0=61)(hk:iq b=0)(he:wW b=0):jD b=tq [b.getD 0 0] (jD (b.drop 1)):=by
 have hs:iQ b=some ([b.getD 0 0],1):=by
  unfold iQ
  rw[if_neg h1,if_neg Y609,if_neg Y609]
 rw[jO hb,hs]
end gv
structure Rf where
 esc:Bool
 x:ay
 k:Nat
 o:List Bt
 b:Nat
 cap:Nat
def Rf.left(z:Rf):List Bt:=if z.esc then z.x.l else z.x.l.drop z.k
theorem qI(x:ay)(k:Nat)(o:List Bt)(b cap:Nat):Rf.left ⟨false,x,k,o,b,cap⟩=x.l.drop k:=rfl
theorem TB(x:ay)(k:Nat)(o:List Bt)(b cap:Nat):Rf.left ⟨true,x,k,o,b,cap⟩=x.l:=rfl
theorem Lm(s:ay)(w:World)(hs:s.ok w)(hl:s.l.length<=1099511627776):Calls Tryz.prog 155 [s.v].toArray w
  fun e w'=>∃ q:ay,e=.returned (.tuple #[q.v,N (KX (jD s.l))])/\iP q (Sf (jD s.l))/\aa w [] q.an w':=by
 refine enter (n:=73) Tryz.func155 rfl rfl rfl (aa.start w []) ?_
 refine JC.seq (JC.region ?_)
 refine Y258 ?_
 refine JL.nil (JE.next ?_)
 refine JC.N3 (ι:=Rf) Rf.esc (fun z=>[(0,z.x.v),(4,.slice (some ⟨z.b,0,none⟩) z.o.length z.cap),(5,N z.k)]) (fun z=>[⟨z.b,Sl.Own 5 1 z.o.length z.cap (z.o.map U8),true⟩])
  (fun z=>2*z.left.length+(if z.esc then 0 else 1))
  (fun z=>z.x.ok w/\z.x.l.length<=s.l.length/\(z.esc=false->z.k<=z.x.l.length)/\(z.esc=true->z.x.l.getD 0 0=61)/\z.o.length+2*z.left.length<=2*s.l.length/\jD s.l=tq z.o (jD z.left)) rfl rfl ?_ ?_ ?_
 · rintro⟨esc,x,k,o,b,cap⟩ he ⟨hx,hxl,hk,-,ho,hc⟩
   obtain rfl:esc=false:=he
   rw[qI] at ho hc
   replace hk:=hk rfl
   dsimp only at hx hxl hk ho hc⊢
   have hy:(x.snd k).ok w:=hx.snd k hk
   have hyl:(x.snd k).l=x.l.drop k:=rfl
   have hyn:(x.snd k).l.length=x.l.length-k:=by rw[hyl,List.length_drop]
   repeat(first|refine JL.q (by(apply OQ.snd (s:=x) (m:=k);exact Tryz.underlying22;exact dD;rfl;rfl;exact hk)) rfl ?_|refine Y103 ?_)
   rw[<- hyl] at ho hc
   generalize x.snd k=y at hy hyl hyn ho hc⊢
   clear hyl
   have hyL:y.l.length<=s.l.length:=by omega
   have hxk:(x.l.drop k).length=y.l.length:=by rw[List.length_drop];exact hyn.symm
   cases h0:decide ((y.l.length:Int)=0)
   · have i0:0<y.l.length:=by have:=of_decide_eq_false h0;omega
     have hne:y.l≠[]:=List.length_pos_iff.1 i0
     have hcap:=hy.len
     obtain⟨ba,ja,hae,hca⟩:=hy.reads.at Y624
     have hc0:=hca 0 _ (dF U8 0 i0)
     have hav:y.v=.slice (some ⟨ba,ja,none⟩) y.l.length y.cap:=by rw[<- hae];rfl
     repeat(first|refine JL.q (by exact Y429) rfl ?_|refine JL.nil ?_|refine JE.next ?_)
     refine Y252 ?_
     cases h61:decide (y.l.getD 0 0=61)
     · have n61:¬ y.l.getD 0 0=61:=of_decide_eq_false h61
       have cK:=fun w' (hw':aa w [] [⟨b,Sl.Own 5 1 o.length cap (o.map U8),true⟩] w')=>wq y w' (hy.holds hw' rfl) Y609
       repeat(first|refine JL.q Y730 rfl ?_|refine Y68 ?_)
       refine Y252 ?_
       have hbl:=v8 y.l
       have hel:=Ah y.l
       cases hk0:decide ((0:Int)<(iq y.l:Int))
       · have k0:iq y.l=0:=by have:=of_decide_eq_false hk0;omega
         have cE:=fun w' (hw':aa w [] [⟨b,Sl.Own 5 1 o.length cap (o.map U8),true⟩] w')=>o8 y w' (hy.holds hw' rfl)
         repeat(first|refine JL.q Y731 rfl ?_|refine Y57 ?_)
         refine Y252 ?_
         cases he0:decide ((0:Int)<(wW y.l:Int))
         · have e0:wW y.l=0:=by have:=of_decide_eq_false he0;omega
           have hstep:=N4 hne n61 k0 e0
           repeat(first|refine JL.q Y732 rfl ?_|refine Y57 ?_)
           refine Y252 ?_
           repeat(first|refine JL.q (by first|exact Y474|exact Y476) rfl ?_|refine Y128 ?_)
           refine JL.gi (v:=U8 (y.l.getD 0 0)) (xs:=o.map U8) (fun b' cap'=>[⟨b',Sl.Own 5 1 (o.length+1) cap' (o.map U8++[U8 (y.l.getD 0 0)]),true⟩]) Tryz.underlying22 dV rfl rfl rfl rfl (fun _=>rfl) Y642 Y609 Y609 rfl rfl fun bl b' cap'=>?_
           refine Y3 ?_
           refine JC.goto ?_
           repeat refine JE.fJ ?_
           refine JE.j9 ⟨false,y,1,o++[y.l.getD 0 0],b',cap'⟩ ⟨⟨hy,hyL,fun _=>i0,(fun h=>by cases h),?_,?_⟩,?_⟩ rfl ?_ ?_
           · show(o++[y.l.getD 0 0]).length+2*(y.l.drop (1)).length<=2*s.l.length;rw[List.length_append,List.length_drop];simp only[List.length_cons,List.length_nil];omega
           · rw[qI,<- qC,<- hstep];exact hc
           · rw[qI,qI,List.length_drop (l:=x.l),<- hyn,List.length_drop,if_neg Bool.false_ne_true];omega
           · dsimp only;rw[List.length_append];exact Y640
           · dsimp only;rw[List.length_append,List.map_append];exact aj.refl _
         · have e0:0<wW y.l:=by have:=of_decide_eq_true he0;omega
           have hstep:=NO e0
           repeat(first|refine JL.q Y732 rfl ?_|refine Y57 ?_)
           refine Y271 ?_
           refine Y61 ?_
           refine JL.tL (r:=[13,10]) (xs:=o.map U8) (fun b' cap'=>[⟨b',Sl.Own 5 1 (o.length+2) cap' (o.map U8++[13,10].map U8),true⟩]) Tryz.underlying22 Tryz.underlying9 dV rfl rfl Y642 Y705 rfl fun b' cap'=>?_
           refine Y39 ?_
           refine JC.goto ?_
           repeat refine JE.fJ ?_
           refine JE.j9 ⟨false,y,wW y.l,o++[13,10],b',cap'⟩ ⟨⟨hy,hyL,fun _=>hel,(fun h=>by cases h),?_,?_⟩,?_⟩ rfl ?_ ?_
           · show(o++[13,10]).length+2*(y.l.drop (wW y.l)).length<=2*s.l.length;rw[List.length_append,List.length_drop];simp only[List.length_cons,List.length_nil];omega
           · rw[qI,<- qC,<- hstep];exact hc
           · rw[qI,qI,List.length_drop (l:=x.l),<- hyn,List.length_drop,if_neg Bool.false_ne_true];omega
           · dsimp only;rw[List.length_append];exact Y640
           · dsimp only;rw[List.length_append,List.map_append];exact aj.refl _
       · have k0:0<iq y.l:=by have:=of_decide_eq_true hk0;omega
         have hstep:=Ek n61 k0
         repeat(first|refine JL.q Y731 rfl ?_|refine Y57 ?_)
         refine Y271 ?_
         have hz:(y.snd (iq y.l)).ok w:=hy.snd _ hbl
         have cE:=fun w' (hw':aa w [] [⟨b,Sl.Own 5 1 o.length cap (o.map U8),true⟩] w')=>Cn (y.snd (iq y.l)) w' (hz.holds hw' rfl)
         rw[show(y.snd (iq y.l)).l=y.l.drop (iq y.l) from rfl] at cE
         cases hE:oD (y.l.drop (iq y.l))
         · rw[hE,if_neg Bool.false_ne_true] at hstep
           have hT:(y.fst (iq y.l)).ok w:=hy.fst _
           have hTl:(y.fst (iq y.l)).l=y.l.take (iq y.l):=rfl
           have hTn:(y.fst (iq y.l)).l.length=iq y.l:=by rw[hTl,List.length_take];omega
           repeat(first|refine JL.q (by first|exact Y491|exact Y492) rfl ?_|refine Y131 ?_)
           refine Y271 ?_
           repeat(first|refine JL.q (by(apply OQ.fst (s:=y) (m:=iq y.l);exact Tryz.underlying22;exact dD;rfl;rfl;exact hbl;exact hcap)) rfl ?_|refine Y119 ?_)
           rw[<- hTl] at hstep
           generalize y.fst (iq y.l)=T at hT hTl hTn hstep⊢
           refine JL.append (cs:=T.l.map U8) (m:=T.l.length) (xs:=o.map U8) (fun b' cap'=>[⟨b',Sl.Own 5 1 (o.length+T.l.length) cap' (o.map U8++T.l.map U8),true⟩]) Tryz.underlying22 dV rfl rfl Y642 Y614 (fun w' hw'=>(hT.holds hw' rfl).reads) (fun v hv=>by obtain⟨c,_,rfl⟩:=List.mem_map.1 hv;rfl) rfl Y610 Y609 Y609 rfl fun b' cap'=>?_
           refine Y39 ?_
           refine JC.goto ?_
           repeat refine JE.fJ ?_
           refine JE.j9 ⟨false,y,iq y.l,o++T.l,b',cap'⟩ ⟨⟨hy,hyL,fun _=>hbl,(fun h=>by cases h),?_,?_⟩,?_⟩ rfl ?_ ?_
           · show(o++T.l).length+2*(y.l.drop (iq y.l)).length<=2*s.l.length;rw[List.length_append,List.length_drop];omega
           · rw[qI,<- qC,<- hstep];exact hc
           · rw[qI,qI,List.length_drop (l:=x.l),<- hyn,List.length_drop,if_neg Bool.false_ne_true];omega
           · dsimp only;rw[List.length_append];exact Y640
           · dsimp only;rw[List.length_append,List.map_append];exact aj.refl _
         · rw[hE,if_pos rfl,v7] at hstep
           repeat(first|refine JL.q (by first|exact Y491|exact Y492) rfl ?_|refine Y131 ?_)
           refine Y252 ?_
           repeat(first|refine JC.skip ?_|refine JE.next ?_)
           refine JC.goto ?_
           repeat refine JE.fJ ?_
           refine JE.j9 ⟨false,y,iq y.l,o,b,cap⟩ ⟨⟨hy,hyL,fun _=>hbl,(fun h=>by cases h),?_,?_⟩,?_⟩ rfl Y640 (aj.refl _)
           · show o.length+2*(y.l.drop (iq y.l)).length<=2*s.l.length;rw[List.length_drop];omega
           · rw[qI,<- hstep];exact hc
           · show 2*(y.l.drop (iq y.l)).length+1<2*(x.l.drop k).length+1;rw[hxk,List.length_drop];omega
     · have e61:y.l.getD 0 0=61:=of_decide_eq_true h61
       repeat(first|refine JL.q Y730 rfl ?_|refine Y68 ?_)
       refine Y271 ?_
       refine JC.goto (JE.fJ ?_)
       exact JE.j9 ⟨true,y,k,o,b,cap⟩ ⟨⟨hy,hyL,(fun h=>by cases h),fun _=>e61,ho,hc⟩,by show 2*y.l.length+0<2*(x.l.drop k).length+1;rw[hxk];omega⟩ rfl Y640 (aj.refl _)
   · have e0:y.l=[]:=List.eq_nil_of_length_eq_zero Y683
     rw[e0] at hc
     rw[show jD s.l=some o by rw[hc];show some (o++[])=_;rw[List.append_nil]]
     repeat(first|refine JL.q (by exact Y429) rfl ?_|refine JL.nil ?_|refine JE.next ?_)
     refine Y271 ?_
     refine Y24 ?_
     refine JC.ret (JE.ag (JE.yF ?_))
     exact JE.aV rfl (RV.tmp rfl) (RV.tmp rfl) fun w' hw=>⟨⟨some ⟨b,0,none⟩,cap,o⟩,rfl,⟨rfl,nofun⟩,hw.weak (jf rfl)⟩
 · rintro⟨esc,x,k,o,b,cap⟩ he ⟨hx,hxl,-,h61,ho,hc⟩
   obtain rfl:esc=true:=he
   rw[TB] at ho hc
   replace h61:=h61 rfl
   dsimp only at hx hxl h61 ho hc⊢
   have hne:x.l≠[]:=fun h=>by rw[h] at h61;cases h61
   have i0:0<x.l.length:=List.length_pos_iff.2 hne
   have hcap:=hx.len
   have cX:=fun w' (hw':aa w [] [⟨b,Sl.Own 5 1 o.length cap (o.map U8),true⟩] w')=>N1 x w' (hx.holds hw' rfl)
   cases hh:vX x.l
   · have hy:(x.snd 1).ok w:=hx.snd 1 i0
     have hyl:(x.snd 1).l=x.l.drop 1:=rfl
     have hyn:(x.snd 1).l.length=x.l.length-1:=by rw[hyl,List.length_drop]
     have hbl:=v8 (x.snd 1).l
     have hm:1+iq (x.snd 1).l<=x.l.length:=by omega
     have hz:(x.snd (1+iq (x.snd 1).l)).ok w:=hx.snd _ hm
     have hzl:(x.snd (1+iq (x.snd 1).l)).l=x.l.drop (1+iq (x.l.drop 1)):=rfl
     have hzn:(x.snd (1+iq (x.snd 1).l)).l.length=x.l.length-(1+iq (x.snd 1).l):=by rw[hzl,List.length_drop];rfl
     have hel:=Ah (x.snd (1+iq (x.snd 1).l)).l
     have eS:B7 x.l=if oD (x.snd (1+iq (x.snd 1).l)).l then some (1+iq (x.snd 1).l+wW (x.snd (1+iq (x.snd 1).l)).l) else none:=rfl
     have cK:=fun w' (hw':aa w [] [⟨b,Sl.Own 5 1 o.length cap (o.map U8),true⟩] w')=>wq (x.snd 1) w' (hy.holds hw' rfl) Y609
     clear hyl hzl
     generalize iq (x.snd 1).l=j at *
     generalize hyE:x.snd 1=y at *
     have cE:=fun w' (hw':aa w [] [⟨b,Sl.Own 5 1 o.length cap (o.map U8),true⟩] w')=>Cn (x.snd (1+j)) w' (hz.holds hw' rfl)
     have cN:=fun w' (hw':aa w [] [⟨b,Sl.Own 5 1 o.length cap (o.map U8),true⟩] w')=>o8 (x.snd (1+j)) w' (hz.holds hw' rfl)
     generalize hzE:x.snd (1+j)=z at *
     generalize hE:oD z.l=ee at eS cE
     generalize wW z.l=q at *
     repeat(first|refine JL.q Y733 rfl ?_|refine Y6 ?_)
     refine JC.cond_false rfl (by rw[hh];rfl) ?_
     repeat(first|refine JL.q (by first|(apply OQ.to;exact(OQ.snd (s:=x) (m:=1) Tryz.underlying22 dD rfl rfl i0);exact(congrArg ay.v hyE))|exact Y490|(apply OQ.aY (a:=1);rfl;rfl;exact Y609)) rfl ?_|refine Y57 ?_)
     cases ee
     · rw[if_neg Bool.false_ne_true] at eS
       rw[NQ h61 hh eS] at hc
       rw[hc]
       repeat(first|refine JL.q Y734 rfl ?_|refine Y179 ?_)
       refine Y271 ?_
       refine Y3 ?_
       refine JC.ret (JE.ag (JE.yF ?_))
       exact JE.aV rfl (RV.tmp rfl) (RV.tmp rfl) fun w' hw=>⟨aB,rfl,⟨rfl,fun _=>rfl⟩,hw.weak (.drop _ _ _ (aj.refl _))⟩
     · rw[if_pos rfl] at eS
       rw[KW h61 hh eS] at hc
       repeat(first|refine JL.q Y734 rfl ?_|refine Y179 ?_)
       refine Y252 ?_
       repeat(first|refine JL.q (by first|exact Y493|(apply OQ.ai (vs:=[z.v]);exact jF;rfl;exact cN)|exact Y323|exact Y324|exact Y337) rfl ?_|refine JC.seq ?_|refine JC.region ?_|refine JC.skip ?_|refine JL.nil ?_|refine JE.next ?_)
       refine JC.goto ?_
       repeat refine JE.fJ ?_
       refine JE.j9 ⟨false,x,1+j+q,o,b,cap⟩ ⟨⟨hx,hxl,fun _=>by dsimp only;omega,(fun h=>by cases h),?_,hc⟩,?_⟩ rfl Y640 (aj.refl _)
       · show o.length+2*(x.l.drop (1+j+q)).length<=2*s.l.length;rw[List.length_drop];omega
       · show 2*(x.l.drop (1+j+q)).length+1<2*x.l.length+0;rw[List.length_drop];omega
   · next c=>
     have h3:3<=x.l.length:=by
      unfold vX at hh
      split at hh
      · next h=>exact h.1
      · cases hh
     have hstep:=NP h61 hh
     rw[hh] at cX
     repeat(first|refine JL.q Y733 rfl ?_|refine Y6 ?_)
     refine Y271 ?_
     refine Y61 ?_
     refine JL.gi (v:=U8 c) (xs:=o.map U8) (fun b' cap'=>[⟨b',Sl.Own 5 1 (o.length+1) cap' (o.map U8++[U8 c]),true⟩]) Tryz.underlying22 dV rfl rfl rfl rfl (fun _=>rfl) Y642 Y609 Y609 rfl rfl fun bl b' cap'=>?_
     refine Y3 ?_
     refine JC.goto ?_
     repeat refine JE.fJ ?_
     refine JE.j9 ⟨false,x,3,o++[c],b',cap'⟩ ⟨⟨hx,hxl,fun _=>h3,(fun h=>by cases h),?_,?_⟩,?_⟩ rfl ?_ ?_
     · show(o++[c]).length+2*(x.l.drop 3).length<=2*s.l.length;rw[List.length_append,List.length_drop];simp only[List.length_cons,List.length_nil];omega
     · rw[qI,<- qC,<- hstep];exact hc
     · show 2*(x.l.drop 3).length+1<2*x.l.length+0;rw[List.length_drop];omega
     · dsimp only;rw[List.length_append];exact Y640
     · dsimp only;rw[List.length_append,List.map_append];exact aj.refl _
 · intro hp
   refine JC.seq (JC.region ?_)
   repeat(refine JL.q (by first|exact Y323|exact Y378) rfl ?_)
   refine JL.uO (c:=s.l.length) Tryz.underlying22 dV rfl rfl Y609 rfl fun b0 _=>?_
   refine Y258 ?_
   refine JL.nil (JE.next ?_)
   refine JC.seq (JC.region ?_)
   refine Y258 ?_
   refine JL.nil (JE.next ?_)
   refine JC.seq (JC.label (JE.next ?_))
   exact(hp ⟨false,s,0,[],b0,s.l.length⟩ rfl ⟨hs,Nat.le_refl _,fun _=>Nat.zero_le _,(fun h=>by cases h),by rw[qI];simp,by rw[qI,v7];rfl⟩).weak Y640 (aj.refl _)
end
section
namespace Tok
open aq
inductive yG:List aq.By->List aq.By->Prop
 | nil:yG [] []
 | esc (c:aq.By) {i t:List aq.By} (h:yG i t):yG (92::c::i) (c::t)
 | O0 {c:aq.By} (h1:¬ c=34) (h2:¬ c=92) {i t:List aq.By} (h:yG i t):yG (c::i) (c::t)
theorem yG.SW{i t:List aq.By}(h:yG i t)(r:List aq.By):∀ o,gV (i++34::r) o=(o++t,34::r):=by
 induction h with
 | nil=>intro o;rw[List.nil_append,C9,List.append_nil]
 | esc c _ ih=>intro o;rw[List.cons_append,List.cons_append,Da,ih,List.append_assoc];rfl
 | O0 h1 h2 _ ih=>intro o;rw[List.cons_append,I3 h1 h2,ih,List.append_assoc];rfl
theorem yG.quot{i t:List aq.By}(h:yG i t)(r:List aq.By):∀ k,bZ (i++34::r) k=k+i.length+1:=by
 induction h with
 | nil=>intro k;rw[List.nil_append,zI];rfl
 | esc c _ ih=>intro k;rw[List.cons_append,List.cons_append,tO,ih];simp only[List.length_cons];omega
 | O0 h1 h2 _ ih=>intro k;rw[List.cons_append,zJ h1 h2,ih];simp only[List.length_cons];omega
theorem yG.sem{i t:List aq.By}(h:yG i t)(r:List aq.By):∀ x,dL (i++34::r) true x=dL r false (x++i++[34]):=by
 induction h with
 | nil=>
   intro x
   rw[List.nil_append,gb _ _ _ _ (by rintro⟨_,k⟩;revert k;decide),if_pos rfl,List.append_nil]
   rfl
 | esc c _ ih=>
   intro x
   rw[List.cons_append,List.cons_append,ze,ih]
   congr 1
   simp
 | O0 h1 h2 _ ih=>
   intro x
   rw[List.cons_append,gb _ _ _ _ (fun k=>h2 k.2),if_neg h1,if_neg Y620,ih]
   congr 1
   simp
theorem yG.fB{i t:List aq.By}(h:yG i t):i.all aq.fB=t.all aq.fB:=by
 induction h with
 | nil=>rfl
 | esc c _ ih=>rw[List.all_cons,List.all_cons,List.all_cons,ih,show aq.fB 92=true by decide,Bool.true_and]
 | O0 _ _ _ ih=>rw[List.all_cons,List.all_cons,ih]
theorem El:∀ (n:Nat) (w o v:List aq.By),w.length<=n->gV w o=(v,[34])->∃ i t,w=i++[34]/\yG i t/\v=o++t:=by
 intro n
 induction n with
 | zero=>
   intro w o v hl h
   obtain rfl:w=[]:=List.eq_nil_of_length_eq_zero Y609
   rw[Ox] at h
   cases h
 | succ n ih=>
   intro w o v hl h
   match w,hl with
   | [],_=>rw[Ox] at h;cases h
   | c::r,hl=>
     simp only[List.length_cons] at hl
     by_cases h34:c=34
     · subst h34
       rw[C9] at h
       obtain⟨rfl,h2⟩:=Prod.mk.inj h
       obtain⟨_,rfl⟩:=List.cons.inj h2
       exact⟨[],[],rfl,.nil,by simp⟩
     by_cases h92:c=92
     · subst h92
       match r,hl with
       | [],_=>rw[Mu] at h;cases h
       | c2::r,hl=>
         simp only[List.length_cons] at hl
         rw[Da] at h
         obtain⟨i,t,rfl,h2,h3⟩:=ih r _ _ Y609 h
         exact⟨92::c2::i,c2::t,rfl,.esc c2 h2,by rw[h3];simp⟩
     · rw[I3 h34 h92] at h
       obtain⟨i,t,rfl,h2,h3⟩:=ih r _ _ Y609 h
       exact⟨c::i,c::t,rfl,.O0 h34 h92 h2,by rw[h3];simp⟩
theorem s4:∀ (n:Nat) (w:List aq.By) (k:Nat),w.length<=n->bZ w k≠0->∃ i t r,w=i++34::r/\yG i t:=by
 intro n
 induction n with
 | zero=>
   intro w k hl h
   obtain rfl:w=[]:=List.eq_nil_of_length_eq_zero Y609
   exact absurd (oN k) h
 | succ n ih=>
   intro w k hl h
   match w,hl with
   | [],_=>exact absurd (oN k) h
   | c::r,hl=>
     simp only[List.length_cons] at hl
     by_cases h34:c=34
     · subst h34
       exact⟨[],[],r,rfl,.nil⟩
     by_cases h92:c=92
     · subst h92
       match r,hl with
       | [],_=>exact absurd (uZ k) h
       | c2::r,hl=>
         simp only[List.length_cons] at hl
         rw[tO] at h
         obtain⟨i,t,r',rfl,h2⟩:=ih r _ Y609 h
         exact⟨92::c2::i,c2::t,r',rfl,.esc c2 h2⟩
     · rw[zJ h34 h92] at h
       obtain⟨i,t,r',rfl,h2⟩:=ih r _ Y609 h
       exact⟨c::i,c::t,r',rfl,.O0 h34 h92 h2⟩
def bN(p:aq.By->Bool)(s:List aq.By):List aq.By × List aq.By:=((aO s).takeWhile p,aO ((aO s).dropWhile p))
def mz(s:List aq.By):List aq.By × List aq.By × Bool:=
 if (bN ck s).1≠[] then((bN ck s).1,(bN ck s).2,true)
 else if (bN ck s).2.head?=some 34/\bZ (bN ck s).2.tail 1≠0 then
  ((gV (bN ck s).2.tail []).1,aO ((bN ck s).2.drop (bZ (bN ck s).2.tail 1)),((gV (bN ck s).2.tail []).1).all fB)
 else([],[],false)
def gJ(s:List aq.By):Option ((List aq.By × List aq.By) × List aq.By):=
 if s.head?=some 59/\(bN aW s.tail).1≠[]/\(bN aW s.tail).2.head?=some 61/\(mz (bN aW s.tail).2.tail).2.2=true then
  some (((bN aW s.tail).1.map small,(mz (bN aW s.tail).2.tail).1),(mz (bN aW s.tail).2.tail).2.1)
 else none
def Qz(V v:List aq.By):Prop:=(cY V=true/\v=V)\/∃ i,V=34::(i++[34])/\yG i v/\v.all fB=true
def tZ(b:List aq.By):Prop:=∀ c∈b,bl c=true
def Canon(x:List aq.By)(p:List aq.By × List aq.By):Prop:=
 ∃ b1 n b2 b3 V b4 v,x=b1++(n++(b2++61::(b3++(V++b4))))/\tZ b1/\tZ b2/\tZ b3/\tZ b4/\dh n=true/\Qz V v/\p=(n.map small,v)
theorem iK{c:aq.By}(h:bl c=true):¬ c=34/\¬ c=59/\¬ c=61/\aW c=false/\ck c=false/\(aW c||c==47)=false:=by
 have:=ga (fun c=>!bl c||(!decide (c=34)&&(!decide (c=59)&&(!decide (c=61)&&(!aW c&&(!ck c&&!(aW c||c==47))))))) Y615 c
 rw[h] at this
 simpa using this
theorem lN(u:List aq.By):∃ p,u=p++aO u/\tZ p:=by
 refine⟨u.takeWhile bl,(List.takeWhile_append_dropWhile).symm,fun c hc=>?_⟩
 exact List.all_eq_true.1 List.all_takeWhile c hc
theorem wu(s:List aq.By):∃ b1 b2,s=b1++(trim s++b2)/\tZ b1/\tZ b2:=by
 obtain⟨p,h1,h2⟩:=lN s
 obtain⟨q,h3,h4⟩:=lN (aO s).reverse
 refine⟨p,q.reverse,?_,h2,fun c hc=>h4 c (List.mem_reverse.1 hc)⟩
 have:aO s=trim s++q.reverse:=by
  unfold trim
  rw[<- List.reverse_append,<- h3,List.reverse_reverse]
 rw[<- this]
 exact h1
theorem En{V v:List aq.By}(h:Qz V v):V≠[]:=by
 rintro rfl
 rcases h with⟨h,_⟩|⟨i,h,_⟩
 · revert h;decide
 · cases h
theorem Ln{V v:List aq.By}(h:Qz V v):∀ c∈V.head?,bl c=false:=by
 intro c hc
 rcases h with⟨h,_⟩|⟨i,rfl,_⟩
 · exact(jU (fm h c (List.mem_of_mem_head? hc))).2.2
 · cases hc;rfl
theorem val_last{V v:List aq.By}(h:Qz V v):∀ c∈V.reverse.head?,bl c=false:=by
 intro c hc
 rcases h with⟨h,_⟩|⟨i,rfl,_⟩
 · exact(jU (fm h c (List.mem_reverse.1 (List.mem_of_mem_head? hc)))).2.2
 · simp at hc;subst hc;rfl
theorem Gb{n:List aq.By}(h:dh n=true):n≠[]/\(∀ c∈n.head?,bl c=false)/\∀ c∈n.reverse.head?,bl c=false:=
 ⟨by rintro rfl;revert h;decide,fun c hc=>(gA (er h c (List.mem_of_mem_head? hc))).2.2.2.2,fun c hc=>(gA (er h c (List.mem_reverse.1 (List.mem_of_mem_head? hc)))).2.2.2.2⟩
theorem H7{c:aq.By}{s:List aq.By}(h:¬ fst c s=s.length):s=s.take (fst c s)++c::s.drop (fst c s+1):=by
 have hle:fst c s<=s.length:=(List.takeWhile_sublist _).length_le
 have hat:∀ s:List aq.By,fst c s<s.length->s.drop (fst c s)=c::s.drop (fst c s+1):=by
  intro s
  induction s with
  | nil=>intro h;simp at h
  | cons d r ih=>
    intro h
    by_cases e:d=c
    · have:fst c (d::r)=0:=by simp[fst,e]
      rw[this,e];rfl
    · have:fst c (d::r)=fst c r+1:=by simp[fst,e]
      rw[this] at h⊢
      simp only[List.length_cons,List.drop_succ_cons] at h⊢
      exact ih Y609
 rw[<- hat s Y609,List.take_append_drop]
theorem Lo{x:List aq.By}{p:List aq.By × List aq.By}(h:gz x=some p):Canon x p:=by
 unfold gz at h
 split at h
 · cases h
 next h0=>
 split at h
 · cases h
 next h1=>
 have hx:=H7 h0
 obtain⟨b1,b2,e1,k1,k2⟩:=wu (x.take (fst 61 x))
 obtain⟨b3,b4,e2,k3,k4⟩:=wu (x.drop (fst 61 x+1))
 generalize trim (x.take (fst 61 x))=n at *
 generalize trim (x.drop (fst 61 x+1))=V at *
 have h1':dh n=true:=by simpa using h1
 have hxx:x=b1++(n++(b2++61::(b3++(V++b4)))):=by
  rw[hx,e1,e2]
  simp
 split at h
 · next hs=>
   cases h
   exact⟨b1,n,b2,b3,V,b4,V,hxx,k1,k2,k3,k4,h1',.inl ⟨hs,rfl⟩,rfl⟩
 split at h
 · cases h
 next h2=>
 split at h
 · next h3=>
   cases h
   match V,h2 with
   | [],h2=>exact absurd (.inl Y610) h2
   | c::w,h2=>
     have hc:c=34:=by
      by_cases e:c=34
      · exact e
      · exact absurd (.inr (by rw[List.getD_cons_zero];exact e)) h2
     subst hc
     rw[List.tail_cons] at h3⊢
     obtain⟨i,t,rfl,hi,hv⟩:=El _ w [] (gV w []).1 (Nat.le_refl _) (Prod.ext rfl h3.1)
     rw[List.nil_append] at hv
     rw[hv] at h3⊢
     exact⟨b1,n,b2,b3,_,b4,t,hxx,k1,k2,k3,k4,h1',.inr ⟨i,rfl,hi,h3.2⟩,rfl⟩
 · cases h
theorem Eo{x:List aq.By}{p:List aq.By × List aq.By}(h:Canon x p):gz x=some p:=by
 obtain⟨b1,n,b2,b3,V,b4,v,rfl,k1,k2,k3,k4,hn,hV,rfl⟩:=h
 have hx:b1++(n++(b2++61::(b3++(V++b4))))=(b1++n++b2)++61::(b3++V++b4):=by simp
 have h61:∀ d∈b1++n++b2,¬ d=61:=by
  intro d hd
  rcases List.mem_append.1 hd with hd|hd
  · rcases List.mem_append.1 hd with hd|hd
    · exact(iK (k1 d hd)).2.2.1
    · exact(gA (er hn d hd)).2.2.1
  · exact(iK (k2 d hd)).2.2.1
 have hf:=y8 (b1++n++b2) (b3++V++b4) h61
 have ht:((b1++n++b2)++61::(b3++V++b4)).take (b1++n++b2).length=b1++n++b2:=List.take_left
 have hd:((b1++n++b2)++61::(b3++V++b4)).drop ((b1++n++b2).length+1)=b3++V++b4:=by
  rw[<- List.drop_drop,List.drop_left];rfl
 obtain⟨n0,n1,n2⟩:=Gb hn
 have tn:trim (b1++n++b2)=n:=jW k1 k2 n0 n1 n2
 have tV:trim (b3++V++b4)=V:=jW k3 k4 (En hV) (Ln hV) (val_last hV)
 rw[hx]
 unfold gz
 rw[hf,ht,hd,tn,tV,if_neg Y622,if_neg (by rw[hn];decide)]
 rcases hV with⟨hs,rfl⟩|⟨i,rfl,hi,hs⟩
 · rw[if_pos hs]
 · have hns:¬ cY (34::(i++[34]))=true:=by
    unfold cY
    rw[List.all_cons,show ck 34=false by decide,Bool.false_and,Bool.false_and]
    decide
   have hu:=hi.SW [] []
   rw[if_neg hns,if_neg (fun k=>k.elim (fun k=>absurd k (by simp only[List.length_cons,List.length_append];omega)) fun k=>k rfl),List.tail_cons,hu,List.nil_append,if_pos ⟨rfl,hs⟩]
theorem Lr{q:aq.By->Bool}{a b:List aq.By}(ha:∀ c∈a,q c=true)(hb:∀ c∈b.head?,q c=false):(a++b).takeWhile q=a/\(a++b).dropWhile q=b:=by
 induction a with
 | nil=>
   cases b with
   | nil=>exact⟨rfl,rfl⟩
   | cons c r=>rw[List.nil_append,List.takeWhile_cons,List.dropWhile_cons,if_neg (by rw[hb c rfl];decide),if_neg (by rw[hb c rfl];decide)];exact⟨rfl,rfl⟩
 | cons c r ih=>
   obtain⟨i1,i2⟩:=ih fun d hd=>ha d Y617
   rw[List.cons_append,List.takeWhile_cons,List.dropWhile_cons,if_pos (ha c Y614),if_pos (ha c Y614),i1,i2]
   exact⟨rfl,rfl⟩
theorem QA{q:aq.By->Bool}{a b:List aq.By}(ha:∀ c∈a,q c=false)(hb:∀ c∈b.head?,q c=false):∀ c∈(a++b).head?,q c=false:=by
 cases a with
 | nil=>exact hb
 | cons d r=>intro c hc;cases hc;exact ha d Y614
theorem rZ{q:aq.By->Bool}{b n b2 z:List aq.By}(k1:tZ b)(hn:∀ c∈n,q c=true)(h0:n≠[])(hh:∀ c∈n.head?,bl c=false)(k2:tZ b2)(hq:∀ c,bl c=true->q c=false)(hz:∀ c∈z.head?,bl c=false)(hz2:∀ c∈z.head?,q c=false):bN q (b++(n++(b2++z)))=(n,z):=by
 have e1:aO (b++(n++(b2++z)))=n++(b2++z):=by
  rw[iR b _ k1,jV]
  intro c hc
  cases n with
  | nil=>exact absurd rfl h0
  | cons d r=>exact hh c hc
 obtain⟨t1,t2⟩:=Lr hn (QA (fun c hc=>hq c (k2 c hc)) hz2)
 unfold bN
 rw[e1,t1,t2,iR b2 _ k2,jV hz]
theorem Ep{q:aq.By->Bool}{b z:List aq.By}(k1:tZ b)(hz:∀ c∈z.head?,bl c=false)(hz2:∀ c∈z.head?,q c=false):bN q (b++z)=([],z):=by
 obtain⟨t1,t2⟩:=Lr (a:=[]) (fun _ h=>nomatch h) hz2
 unfold bN
 rw[iR b _ k1,jV hz]
 rw[List.nil_append] at t1 t2
 rw[t1,t2,jV hz]
def tok(z:List aq.By):Prop:=z=[]\/z.head?=some 59
theorem An{z:List aq.By}(h:tok z){q:aq.By->Bool}(hq:q 59=false):∀ c∈z.head?,q c=false:=by
 intro c hc
 rcases h with rfl|h
 · cases hc
 · rw[h] at hc;cases hc;exact hq
theorem H8{V v b3 b4 z:List aq.By}(hV:Qz V v)(k3:tZ b3)(k4:tZ b4)(hz:tok z):mz (b3++(V++(b4++z)))=(v,z,true):=by
 have hz1:=An hz (q:=bl) Y610
 have hz2:=An hz (q:=ck) Y610
 rcases hV with⟨hs,rfl⟩|⟨i,rfl,hi,hs⟩
 · have hv:Qz v v:=.inl ⟨hs,rfl⟩
   have e:=rZ (q:=ck) k3 (fm hs) (En hv) (Ln hv) k4 (fun c hc=>(iK hc).2.2.2.2.1) hz1 hz2
   unfold mz
   rw[e,if_pos (En hv)]
 · have e:=Ep (q:=ck) (b:=b3) (z:=34::(i++34::(b4++z))) k3 (fun c hc=>by cases hc;rfl) (fun c hc=>by cases hc;decide)
   have ex:b3++(34::(i++[34])++(b4++z))=b3++34::(i++34::(b4++z)):=by simp
   have eq:=hi.quot (b4++z) 1
   have eu:=hi.SW (b4++z) []
   have ed:(34::(i++34::(b4++z))).drop (1+i.length+1)=b4++z:=by
    rw[show 1+i.length+1=(i.length+1)+1 by omega,List.drop_succ_cons,<- List.drop_drop,List.drop_left];rfl
   rw[ex]
   unfold mz
   rw[e,if_neg Y614,List.head?_cons,List.tail_cons,eq,eu,ed,List.nil_append,if_pos ⟨rfl,by omega⟩,iR b4 _ k4,jV hz1,hs]
theorem Er{x z:List aq.By}{p:List aq.By × List aq.By}(h:Canon x p)(hz:tok z):gJ (59::(x++z))=some (p,z):=by
 obtain⟨b1,n,b2,b3,V,b4,v,rfl,k1,k2,k3,k4,hn,hV,rfl⟩:=h
 have ex:b1++(n++(b2++61::(b3++(V++b4))))++z=b1++(n++(b2++61::(b3++(V++(b4++z))))):=by simp
 obtain⟨n0,n1,_⟩:=Gb hn
 have e:=rZ (q:=aW) (z:=61::(b3++(V++(b4++z)))) k1 (er hn) n0 n1 k2 (fun c hc=>(iK hc).2.2.2.1) (fun c hc=>by cases hc;rfl) (fun c hc=>by cases hc;decide)
 unfold gJ
 rw[List.tail_cons,ex,e,List.tail_cons,H8 hV k3 k4 hz,if_pos ⟨rfl,n0,rfl,rfl⟩]
theorem iA(q:aq.By->Bool)(s:List aq.By):∃ b1 b2,s=b1++((bN q s).1++(b2++(bN q s).2))/\tZ b1/\tZ b2/\(∀ c∈(bN q s).1,q c=true):=by
 obtain⟨b1,e1,k1⟩:=lN s
 obtain⟨b2,e2,k2⟩:=lN ((aO s).dropWhile q)
 refine⟨b1,b2,?_,k1,k2,fun c hc=>List.all_eq_true.1 List.all_takeWhile c hc⟩
 show s=b1++((aO s).takeWhile q++(b2++aO ((aO s).dropWhile q)))
 rw[<- e2,List.takeWhile_append_dropWhile,<- e1]
theorem uA{s v z:List aq.By}(h:mz s=(v,z,true)):∃ b3 V b4,s=b3++(V++(b4++z))/\tZ b3/\tZ b4/\Qz V v:=by
 obtain⟨b1,b2,e1,k1,k2,hq⟩:=iA ck s
 unfold mz at h
 generalize (bN ck s).1=V at *
 generalize (bN ck s).2=r at *
 split at h
 · next h0=>
   obtain⟨rfl,h2⟩:=Prod.mk.inj h
   obtain⟨rfl,_⟩:=Prod.mk.inj h2
   refine⟨b1,V,b2,e1,k1,k2,.inl ⟨?_,rfl⟩⟩
   unfold cY
   rw[Bool.and_eq_true,List.all_eq_true,decide_eq_true_eq]
   exact⟨hq,List.length_pos_iff.2 h0⟩
 · next h0=>
   obtain rfl:V=[]:=Classical.not_not.1 h0
   split at h
   · next h1=>
     obtain⟨h34,hn⟩:=h1
     obtain⟨w,rfl⟩:∃ w,r=34::w:=by
      cases r with
      | nil=>cases h34
      | cons c w=>cases h34;exact⟨w,rfl⟩
     rw[List.tail_cons] at *
     obtain⟨i,t,r',rfl,hi⟩:=s4 _ w 1 (Nat.le_refl _) hn
     have ed:(34::(i++34::r')).drop (1+i.length+1)=r':=by
      rw[show 1+i.length+1=(i.length+1)+1 by omega,List.drop_succ_cons,<- List.drop_drop,List.drop_left];rfl
     rw[hi.SW,hi.quot,ed,List.nil_append] at h
     obtain⟨rfl,h2⟩:=Prod.mk.inj h
     obtain⟨rfl,h3⟩:=Prod.mk.inj h2
     obtain⟨b5,e5,k5⟩:=lN r'
     refine⟨b1++b2,34::(i++[34]),b5,?_,fun c hc=>(List.mem_append.1 hc).elim (k1 c) (k2 c),k5,.inr ⟨i,rfl,hi,h3⟩⟩
     rw[e1]
     conv=>lhs;rw[e5]
     simp
   · cases h
theorem wz{s z:List aq.By}{p:List aq.By × List aq.By}(h:gJ s=some (p,z)):∃ x,s=59::(x++z)/\Canon x p:=by
 unfold gJ at h
 split at h
 · next hc=>
   obtain⟨h59,hn,h61,hv⟩:=hc
   obtain⟨r,rfl⟩:∃ r,s=59::r:=by
    cases s with
    | nil=>cases h59
    | cons c w=>cases h59;exact⟨w,rfl⟩
   rw[List.tail_cons] at *
   obtain⟨b1,b2,e1,k1,k2,hq⟩:=iA aW r
   generalize (bN aW r).1=n at *
   generalize (bN aW r).2=u at *
   obtain⟨u,rfl⟩:∃ w,u=61::w:=by
    cases u with
    | nil=>cases h61
    | cons c w=>cases h61;exact⟨w,rfl⟩
   rw[List.tail_cons] at *
   obtain⟨v,rest,b,hvl⟩:∃ v rest b,mz u=(v,rest,b):=⟨_,_,_,rfl⟩
   rw[hvl] at h hv
   dsimp only at h hv
   subst hv
   obtain⟨b3,V,b4,e3,k3,k4,hV⟩:=uA hvl
   obtain⟨rfl,rfl⟩:=Prod.mk.inj (Option.some.inj h)
   refine⟨b1++(n++(b2++61::(b3++(V++b4)))),?_,b1,n,b2,b3,V,b4,v,rfl,k1,k2,k3,k4,?_,hV,rfl⟩
   · rw[e1,e3]
     simp
   · unfold dh
     rw[Bool.and_eq_true,List.all_eq_true,decide_eq_true_eq]
     exact⟨hq,List.length_pos_iff.2 hn⟩
 · cases h
theorem H9{x:List aq.By}{p:List aq.By × List aq.By}(h:Canon x p)(r y:List aq.By):dL (x++r) false y=dL r false (y++x):=by
 obtain⟨b1,n,b2,b3,V,b4,v,rfl,k1,k2,k3,k4,hn,hV,rfl⟩:=h
 have s1:∀ b,tZ b->∀ r y,dL (b++r) false y=dL r false (y++b):=fun b hb r y=>jc b r y fun c hc=>⟨(iK (hb c hc)).1,(iK (hb c hc)).2.1⟩
 have s2:∀ r y,dL (V++r) false y=dL r false (y++V):=by
  intro r y
  rcases hV with⟨hs,rfl⟩|⟨i,rfl,hi,hs⟩
  · exact jc _ r y fun c hc=>⟨(jU (fm hs c hc)).1,(jU (fm hs c hc)).2.1⟩
  · rw[List.cons_append,gb _ _ _ _ Y619,if_pos rfl,List.append_assoc,List.singleton_append]
    show dL (i++34::r) true _=_
    rw[hi.sem]
    congr 1
    simp
 simp only[List.append_assoc,List.cons_append]
 rw[s1 b1 k1,jc n _ _ fun c hc=>⟨(gA (er hn c hc)).1,(gA (er hn c hc)).2.1⟩,s1 b2 k2,gb _ _ _ _ Y619,if_neg Y610,if_neg (by rintro⟨k,_⟩;revert k;decide),s1 b3 k3,s2,s1 b4 k4]
 congr 1
 simp
theorem Ia:∀ (n:Nat) (s:List aq.By) (q:Bool) (y:List aq.By),s.length<=n->∃ a z L,dL s q y=(y++a)::L/\s=a++z/\((z=[]/\L=[])\/∃ r,z=59::r/\L=dL r false []):=by
 intro n
 induction n with
 | zero=>
   intro s q y hl
   obtain rfl:s=[]:=List.eq_nil_of_length_eq_zero Y609
   exact⟨[],[],[],by rw[dL.eq_def,List.append_nil],rfl,.inl ⟨rfl,rfl⟩⟩
 | succ n ih=>
   intro s q y hl
   match s,hl with
   | [],_=>exact⟨[],[],[],by rw[dL.eq_def,List.append_nil],rfl,.inl ⟨rfl,rfl⟩⟩
   | c::r,hl=>
     simp only[List.length_cons] at hl
     by_cases h92:q=true/\c=92
     · obtain⟨rfl,rfl⟩:=h92
       match r,hl with
       | [],_=>exact⟨[92],[],[],by rw[dL.eq_def];rfl,rfl,.inl ⟨rfl,rfl⟩⟩
       | c2::r,hl=>
         simp only[List.length_cons] at hl
         obtain⟨a,z,L,e1,e2,e3⟩:=ih r true (y++[92,c2]) Y609
         exact⟨92::c2::a,z,L,by rw[ze,e1];simp,by rw[e2];simp,e3⟩
     · rw[gb _ _ _ _ h92]
       by_cases h34:c=34
       · obtain⟨a,z,L,e1,e2,e3⟩:=ih r (!q) (y++[c]) Y609
         exact⟨c::a,z,L,by rw[if_pos h34,e1];simp,by rw[e2];simp,e3⟩
       · by_cases h59:c=59/\q=false
         · obtain⟨rfl,rfl⟩:=h59
           exact⟨[],59::r,_,by rw[if_neg h34,if_pos ⟨rfl,rfl⟩,List.append_nil],rfl,.inr ⟨r,rfl,rfl⟩⟩
         · obtain⟨a,z,L,e1,e2,e3⟩:=ih r q (y++[c]) Y609
           exact⟨c::a,z,L,by rw[if_neg h34,if_neg h59,e1];simp,by rw[e2];simp,e3⟩
theorem wA(s:List aq.By):∃ a z L,pN s=a::L/\s=a++z/\((z=[]/\L=[])\/∃ r,z=59::r/\L=pN r):=by
 obtain⟨a,z,L,e1,e2,e3⟩:=Ia _ s false [] (Nat.le_refl _)
 exact⟨a,z,L,e1,e2,e3⟩
theorem o9{s z:List aq.By}{p:List aq.By × List aq.By}(h:gJ s=some (p,z)):z.length<s.length:=by
 obtain⟨x,rfl,_⟩:=wz h
 simp only[List.length_cons,List.length_append]
 omega
def ke(s:List aq.By):Option (List (List aq.By × List aq.By)):=
 if s=[] then some [] else
 match h:gJ s with
 | none=>none
 | some (p,z)=>(ke z).map (p::·)
termination_by s.length
decreasing_by exact o9 h
theorem r8:ke []=some []:=by rw[ke,if_pos rfl]
theorem pg{s:List aq.By}(h0:s≠[])(h:gJ s=none):ke s=none:=by
 rw[ke,if_neg h0]
 split
 · rfl
 · next h'=>rw[h] at h';cases h'
theorem pn{s z:List aq.By}{p:List aq.By × List aq.By}(h:gJ s=some (p,z)):ke s=(ke z).map (p::·):=by
 rw[ke,if_neg (by rintro rfl;have:=o9 h;simp at this)]
 split
 · next h'=>rw[h] at h';cases h'
 · next h'=>
   rw[h] at h'
   cases h'
   rfl
theorem yH{s:List aq.By}(h:¬ tok s):ke s=none:=by
 refine pg (fun k=>h (.inl k)) ?_
 unfold gJ
 rw[if_neg]
 rintro⟨k,_⟩
 exact h (.inr k)
theorem Ls:∀ (n:Nat) (r:List aq.By),r.length<=n->ke (59::r)=(pN r).mapM gz:=by
 intro n
 induction n with
 | zero=>
   intro r hl
   obtain rfl:r=[]:=List.eq_nil_of_length_eq_zero Y609
   decide +kernel
 | succ n ih=>
   intro r hl
   obtain⟨y,z,L,e1,e2,e3⟩:=wA r
   have hz:tok z:=by
    rcases e3 with⟨rfl,_⟩|⟨r',rfl,_⟩
    · exact .inl rfl
    · exact .inr rfl
   rw[e1]
   cases hp:gz y with
   | none=>
     rw[List.mapM_cons,hp]
     show _=none
     cases hq:gJ (59::r) with
     | none=>exact pg Y614 hq
     | some pz=>
       obtain⟨p,z'⟩:=pz
       rw[pn hq]
       obtain⟨x,ex,hx⟩:=wz hq
       obtain⟨_,ex⟩:=List.cons.inj ex
       by_cases ht:tok z'
       · exfalso
         have hs:∃ L',pN r=x::L':=by
          unfold pN
          rw[ex,H9 hx,List.nil_append]
          rcases ht with rfl|ht
          · exact⟨[],by rw[dL.eq_def]⟩
          · cases z' with
            | nil=>cases ht
            | cons c w=>
              cases ht
              exact Y291
         obtain⟨L',hs⟩:=hs
         rw[e1] at hs
         obtain⟨rfl,_⟩:=List.cons.inj hs
         rw[Eo hx] at hp
         cases hp
       · rw[yH ht];rfl
   | some p=>
     have hc:=Er (Lo hp) hz
     rw[<- e2] at hc
     rw[pn hc,List.mapM_cons,hp]
     rcases e3 with⟨rfl,rfl⟩|⟨r',rfl,rfl⟩
     · rw[r8];rfl
     · have hl':r'.length<=n:=by
        have:=congrArg List.length e2
        simp only[List.length_append,List.length_cons] at this
        omega
       rw[ih r' hl']
       cases (pN r').mapM gz <;> rfl
def s5(c:aq.By):Bool:=aW c||c==47
def Ao(t:List aq.By):List aq.By × List (List aq.By × List aq.By) × Nat:=
 if gy (bN s5 t).1=false then([],[],3)
 else match ke (bN s5 t).2 with
  | none=>([],[],3)
  | some l=>((bN s5 t).1.map small,l,0)
theorem wB{k:List aq.By}(h:gy k=true):(∀ c∈k,s5 c=true)/\k≠[]:=by
 obtain⟨a,b,rfl,ha,hb⟩:=y9 h
 refine⟨fun c hc=>?_,by simp⟩
 unfold s5
 rcases List.mem_append.1 hc with hc|hc
 · rw[er ha c hc];rfl
 · rcases List.mem_cons.1 hc with rfl|hc
   · simp
   · rw[er hb c hc];rfl
theorem Co{c:aq.By}(h:s5 c=true):¬ c=34/\¬ c=59/\bl c=false:=by
 have:=ga (fun c=>!s5 c||(!decide (c=34)&&(!decide (c=59)&&!bl c))) Y615 c
 rw[h] at this
 simpa using this
theorem Ib{b1 k b2 z:List aq.By}(hk:gy k=true)(k1:tZ b1)(k2:tZ b2)(hz:tok z):bN s5 (b1++(k++(b2++z)))=(k,z):=by
 obtain⟨ka,k0⟩:=wB hk
 exact rZ k1 ka k0 (fun c hc=>(Co (ka c (List.mem_of_mem_head? hc))).2.2) k2 (fun c hc=>(iK hc).2.2.2.2.2) (An hz Y610) (An hz Y610)
theorem Lu{b1 k b2:List aq.By}(hk:gy k=true)(k1:tZ b1)(k2:tZ b2)(r:List aq.By):dL (b1++(k++(b2++r))) false []=dL r false (b1++(k++b2)):=by
 obtain⟨ka,_⟩:=wB hk
 have s1:∀ b,tZ b->∀ r y,dL (b++r) false y=dL r false (y++b):=fun b hb r y=>jc b r y fun c hc=>⟨(iK (hb c hc)).1,(iK (hb c hc)).2.1⟩
 rw[s1 b1 k1,jc k _ _ fun c hc=>⟨(Co (ka c hc)).1,(Co (ka c hc)).2.1⟩,s1 b2 k2]
 congr 1
 simp
theorem Ic{b1 k b2:List aq.By}(hk:gy k=true)(k1:tZ b1)(k2:tZ b2):trim (b1++(k++b2))=k:=by
 obtain⟨ka,k0⟩:=wB hk
 rw[<- List.append_assoc]
 exact jW k1 k2 k0 (fun c hc=>(Co (ka c (List.mem_of_mem_head? hc))).2.2) (fun c hc=>(Co (ka c (List.mem_reverse.1 (List.mem_of_mem_head? hc)))).2.2)
theorem Ie(t:List aq.By):nP t=Ao t:=by
 obtain⟨y,z,L,e1,e2,e3⟩:=wA t
 have hz:tok z:=by
  rcases e3 with⟨rfl,_⟩|⟨r',rfl,_⟩
  · exact .inl rfl
  · exact .inr rfl
 unfold nP Ao
 rw[e1,List.headD_cons,List.tail_cons]
 cases hk:gy (trim y) with
 | true=>
   obtain⟨b1,b2,ey,k1,k2⟩:=wu y
   have et:t=b1++(trim y++(b2++z)):=by
    rw[e2]
    conv=>lhs;rw[ey]
    simp
   have hl:bN s5 t=(trim y,z):=by
    conv=>lhs;rw[et]
    exact Ib hk k1 k2 hz
   have hL:ke z=L.mapM gz:=by
    rcases e3 with⟨rfl,rfl⟩|⟨r',rfl,rfl⟩
    · rw[r8];rfl
    · exact Ls _ r' (Nat.le_refl _)
   rw[hl]
   dsimp only
   rw[hk,hL]
   cases L.mapM gz <;> rfl
 | false=>
   rw[if_pos rfl]
   cases hq:gy (bN s5 t).1 with
   | false=>rw[if_pos rfl]
   | true=>
     rw[if_neg Y610]
     have hb:¬ tok (bN s5 t).2:=by
      intro ht
      obtain⟨b1,b2,et,k1,k2,_⟩:=iA s5 t
      generalize (bN s5 t).1=k at *
      generalize (bN s5 t).2=w at *
      have hs:∃ L',pN t=(b1++(k++b2))::L':=by
       unfold pN
       rw[et,Lu hq k1 k2]
       rcases ht with rfl|ht
       · exact⟨[],by rw[dL.eq_def]⟩
       · cases w with
         | nil=>cases ht
         | cons c w=>
           cases ht
           exact Y291
      obtain⟨L',hs⟩:=hs
      rw[e1] at hs
      obtain⟨rfl,_⟩:=List.cons.inj hs
      rw[Ic hq k1 k2,hq] at hk
      cases hk
     rw[yH hb]
end Tok
end
section
open Sl aq Tok
theorem jm:aJ Tryz.prog 128:=⟨_,Tryz.func128,rfl,by kernel_rfl⟩
theorem wC:aJ Tryz.prog 131:=⟨_,Tryz.func131,rfl,by kernel_rfl⟩
theorem Ig:aJ Tryz.prog 187:=⟨_,Tryz.func187,rfl,by kernel_rfl⟩
theorem eU:aJ Tryz.prog 203:=⟨_,Tryz.func203,rfl,by kernel_rfl⟩
theorem Ih:aJ Tryz.prog 257:=⟨_,Tryz.func257,rfl,by kernel_rfl⟩
theorem iY:aJ Tryz.prog 238:=⟨_,Tryz.func238,rfl,by kernel_rfl⟩
theorem wD(s:List Bt)(w:World)(hl:s.length<9223372036854775807):Calls Tryz.prog 128 [Z s].toArray w fun e w'=>e=.returned (.bool (gy s))/\Ext w w':=by
 refine enter (n:=21) Tryz.func128 rfl rfl rfl (aa.start w []) ?_
 have cC:=fun w'=>qc s 47 w' hl
 have hfl:=uS 47 s
 have hk:gy s=(decide (fi 47 s<s.length)&&(dh (s.take (fi 47 s))&&dh (s.drop (fi 47 s+1)))):=rfl
 rw[hk]
 unfold zG at cC
 by_cases hf:fi 47 s<s.length
 · rw[if_pos hf] at cC
   rw[decide_eq_true hf,Bool.true_and]
   have h1:(s.take (fi 47 s)).length<=s.length:=by rw[List.length_take];omega
   have h2:(s.drop (fi 47 s+1)).length<=s.length:=by rw[List.length_drop];omega
   generalize s.take (fi 47 s)=a at cC h1
   generalize s.drop (fi 47 s+1)=b at cC h2
   have c1:=fun w'=>nZ a w' Y609
   have c2:=fun w'=>nZ b w' Y609
   cases d1:dh a <;> cases d2:dh b
   all_goals rw[d1] at c1
   all_goals rw[d2] at c2
   all_goals (repeat(first|refine JL.q (by first|exact Y494|exact Y426|exact Y330|exact Y331|(apply OQ.ai (vs:=[Z a]);exact gF;rfl;exact(fun w' _=>c1 w'))|(apply OQ.ai (vs:=[Z b]);exact gF;rfl;exact(fun w' _=>c2 w'))|exact Y323|exact Y324) rfl ?_|refine JC.seq ?_|refine JC.region ?_|refine JL.nil ?_|refine JE.next ?_|refine JL.bG rfl rfl ?_|refine JL.aM rfl rfl rfl rfl ?_))
   all_goals exact JC.ret (JE.aK rfl (RV.tmp rfl) fun w' hw=>⟨rfl,hw.aH⟩)
 · rw[if_neg hf] at cC
   rw[decide_eq_false hf,Bool.false_and]
   repeat(first|refine JL.q (by exact Y494) rfl ?_|refine JL.aM rfl rfl rfl rfl ?_|refine Y96 ?_)
   exact Y244
theorem Ii(c:aq.By):fB c=((decide ((32:Int)<=(c.toNat:Int))&&decide ((c.toNat:Int)<=126))||decide (c=9)):=by
 have h:∀ c:Fin 256,fB (BitVec.ofNat 8 c.val)=((decide ((32:Int)<=((BitVec.ofNat 8 c.val).toNat:Int))&&decide (((BitVec.ofNat 8 c.val).toNat:Int)<=126))||decide (BitVec.ofNat 8 c.val=9)):=by decide +kernel
 simpa using h ⟨c.toNat,c.isLt⟩
theorem Lv(c:Bt)(w:World):Calls Tryz.prog 187 [U8 c].toArray w fun e w'=>e=.returned (.bool (fB c))/\Ext w w':=by
 refine enter (n:=13) Tryz.func187 rfl rfl rfl (aa.start w []) ?_
 rw[Ii]
 cases h1:decide ((32:Int)<=(c.toNat:Int)) <;> cases h2:decide ((c.toNat:Int)<=126) <;> cases h3:decide (c=9)
 all_goals (repeat(first|refine JL.q (by first|(apply OQ.dn (b:=32);rfl;rfl;exact h1)|exact Y328|(apply OQ.gj (b:=9);rfl;rfl;exact h3)) rfl ?_|refine JL.bG rfl rfl ?_|refine JL.aM rfl rfl rfl rfl ?_|refine Y12 ?_))
 all_goals exact JC.ret (JE.aK rfl (RV.tmp rfl) fun w' hw=>⟨rfl,hw.aH⟩)
@[reducible] def SX (f:FuncId):Value:=.func (.func f) #[] #[]
theorem N5(w:World):kP Tryz.prog w (SX 187) fB:=⟨_,[],rfl,Ig,fun c w' _=>Lv c w'⟩
theorem Gc(p:aq.By->Bool)(s:List aq.By):decide ((iN p s:Int)=(s.length:Int))=s.all p:=by
 rw[Bool.eq_iff_iff,decide_eq_true_eq,<- qd]
 omega
theorem Gd(s:List Bt)(w:World)(hl:s.length<9223372036854775808):Calls Tryz.prog 131 [Z s].toArray w fun e w'=>e=.returned (.bool (s.all fB))/\Ext w w':=by
 refine enter (n:=8) Tryz.func131 rfl rfl rfl (aa.start w []) ?_
 have hr:=Gc fB s
 generalize s.all fB=b at hr
 repeat(first|refine JL.q (by first|(apply OQ.ai (vs:=[Z s,SX 187]);exact jg;rfl;exact(fun w' _=>qh s _ fB w' (N5 w') hl))|(apply OQ.ep;rfl;rfl;exact hr)) rfl ?_|refine Y80 ?_)
 exact Y244
theorem kf:aJ Tryz.prog 129:=⟨_,Tryz.func129,rfl,by kernel_rfl⟩
theorem Cp:aJ Tryz.prog 185:=⟨_,Tryz.func185,rfl,by kernel_rfl⟩
def Cq(c:aq.By):Bool:=decide ((c.toNat:Int)<65)||decide ((90:Int)<(c.toNat:Int))
theorem Ij(c:aq.By):Cq c=decide (small c=c):=by
 have h:∀ c:Fin 256,Cq (BitVec.ofNat 8 c.val)=decide (small (BitVec.ofNat 8 c.val)=BitVec.ofNat 8 c.val):=by decide +kernel
 simpa using h ⟨c.toNat,c.isLt⟩
theorem Ge:∀ s:List aq.By,s.all Cq=decide (s.map small=s)
 | []=>rfl
 | c::s=>by
   rw[List.all_cons,Ge s,Ij,List.map_cons,Bool.eq_iff_iff,Bool.and_eq_true,decide_eq_true_eq,decide_eq_true_eq,decide_eq_true_eq,List.cons.injEq]
theorem Es(c:Bt)(w:World):Calls Tryz.prog 185 [U8 c].toArray w fun e w'=>e=.returned (.bool (Cq c))/\Ext w w':=by
 refine enter (n:=9) Tryz.func185 rfl rfl rfl (aa.start w []) ?_
 unfold Cq
 cases h1:decide ((c.toNat:Int)<65) <;> cases h2:decide ((90:Int)<(c.toNat:Int))
 all_goals (repeat(first|refine JL.q (by first|(apply OQ.fV (b:=65);rfl;rfl;exact h1)|(apply OQ.cZ (b:=90);rfl;rfl;exact h2)) rfl ?_|refine JL.bG rfl rfl ?_|refine JL.aM rfl rfl rfl rfl ?_|refine Y12 ?_))
 all_goals exact JC.ret (JE.aK rfl (RV.tmp rfl) fun w' hw=>⟨rfl,hw.aH⟩)
theorem Ik(w:World):kP Tryz.prog w (SX 185) Cq:=⟨_,[],rfl,Cp,fun c w' _=>Es c w'⟩
theorem yI(s:List Bt)(w:World)(hl:s.length<9223372036854775808):Calls Tryz.prog 129 [Z s].toArray w fun e w'=>e=.returned (.bool (decide (s.map small=s)))/\Ext w w':=by
 refine enter (n:=8) Tryz.func129 rfl rfl rfl (aa.start w []) ?_
 have hr:=Gc Cq s
 rw[Ge] at hr
 generalize decide (s.map small=s)=b at hr
 repeat(first|refine JL.q (by first|(apply OQ.ai (vs:=[Z s,SX 185]);exact jg;rfl;exact(fun w' _=>qh s _ Cq w' (Ik w') hl))|(apply OQ.ep;rfl;rfl;exact hr)) rfl ?_|refine Y80 ?_)
 exact Y244
theorem r9(s:List Bt)(fv:Value)(p:Bt->Bool)(w:World)(hF:kP Tryz.prog w fv p)(hl:s.length<9223372036854775808):Calls Tryz.prog 203 [Z s,fv].toArray w fun e w'=>e=.returned (.tuple #[Z (bN p s).1,Z (bN p s).2])/\Ext w w':=by
 refine enter (n:=19) Tryz.func203 rfl rfl rfl (aa.start w []) ?_
 have c1:=fun w'=>jM s w'
 unfold bN
 have htl:=jK s
 generalize aO s=t at c1 htl⊢
 have c2:=fun w' hF'=>qh t fv p w' hF' Y609
 have hn:=Fs p t
 rw[<- rB,<- rC]
 generalize iN p t=n at c2 hn
 have c3:=fun w'=>jM (t.drop n) w'
 repeat(first|refine JL.q (by first|(apply OQ.ai (vs:=[Z s,Z [32,9]]);exact ij;rfl;exact(fun w' _=>c1 w'))|(apply OQ.ai (vs:=[Z t,fv]);exact jg;rfl;exact(fun w' hw'=>c2 w' (hF.holds hw')))) rfl ?_|refine Y0 ?_)
 refine Y267 ?_
 repeat(first|refine JQ.q (by first|(apply OQ.gu;exact Tryz.underlying9;rfl;rfl;exact hn)|(apply OQ.eV;exact Tryz.underlying9;rfl;rfl;exact hn)|(apply OQ.ai (vs:=[Z (t.drop n),Z [32,9]]);exact ij;rfl;exact(fun w' _=>c3 w'))|exact Y323|exact Y324) rfl ?_|refine JQ.nil ?_|refine JE.next ?_)
 exact Y261
structure Sx where
 k:Nat
 o:List Bt
 u:List Bt
 b:Nat
 cap:Nat
theorem Lw{i t:List Bt}(h:yG i t)(w:World)(hl:i.length<1000000000):Calls Tryz.prog 257 [Z i].toArray w fun e w'=>e=.returned (Z t)/\Ext w w':=by
 refine enter (n:=28) Tryz.func257 rfl rfl rfl (aa.start w []) ?_
 refine Y35 ?_
 refine JL.uO (c:=i.length) Tryz.underlying22 dV rfl rfl Y609 rfl fun b0 _=>?_
 refine Y7 ?_
 refine JC.loop (fun z:Sx=>[(0,Z i),(3,.slice (some ⟨z.b,0,none⟩) z.o.length z.cap),(4,N z.k)]) (fun z=>[⟨z.b,Sl.Own 5 1 z.o.length z.cap (z.o.map U8),true⟩]) (fun z=>i.length-z.k) (fun z=>z.k<=i.length/\z.o.length<=z.k/\yG (i.drop z.k) z.u/\t=z.o++z.u) ⟨0,[],t,b0,i.length⟩ ⟨Nat.zero_le _,Nat.zero_le _,h,rfl⟩ Y640 (aj.refl _) ?_
 rintro⟨k,o,u,b,cap⟩ ⟨hk,ho,hI,ht⟩
 dsimp only at hk ho hI ht⊢
 clear h
 refine Y8 ?_
 refine JC.cond rfl (fun h=>?_) (fun h=>?_)
 · have hk':k<i.length:=of_decide_eq_true h
   clear h hk
   have hdr:i.drop k=i.getD k 0::i.drop (k+1):=by rw[List.drop_eq_getElem_cons hk',List.getD_eq_getElem?_getD,List.getElem?_eq_getElem hk'];rfl
   rw[hdr] at hI
   have i0:=fun {n:Nat} {E:Env} {C:World->Prop} {dst:Option Tmp} {ty:TypeId} {pos:String} {aft:Array Edge} {g:Option (Nat × Bool)} {x y:Operand}=>dI hk' (n:=n) (E:=E) (C:=C) (dst:=dst) (ty:=ty) (pos:=pos) (aft:=aft) (g:=g) (x:=x) (y:=y)
   generalize i.getD k 0=c at hI i0
   generalize hx:i.drop (k+1)=x at hI
   cases h92:decide (c=92)
   · obtain⟨u',rfl,hI'⟩:∃ u',u=c::u'/\yG x u':=by
      cases hI with
      | esc d h=>exact absurd rfl (of_decide_eq_false h92)
      | O0 h1 h2 h=>exact⟨_,rfl,h⟩
     repeat(first|refine JL.q (by first|(apply i0;rfl;rfl)|exact Y336) rfl ?_|refine Y9 ?_)
     refine Y245 ?_
     repeat(first|refine JL.q Y673 rfl ?_|refine Y104 ?_)
     refine JL.gi (xs:=o.map U8) (fun b' cap'=>[⟨b',Sl.Own 5 1 (o.length+1) cap' (o.map U8++[U8 c]),true⟩]) Tryz.underlying22 dV rfl rfl rfl rfl (fun _=>rfl) Y642 Y609 Y609 rfl rfl fun bl b' cap'=>?_
     refine Y18 ?_
     refine JE.again (i:=Sx.mk k o (c::u') b cap) (Sx.mk (k+1) (o++[c]) u' b' cap') ⟨hk',?_,?_,?_⟩ Y661 ?_ (.keep _ _ _ _ _ _ (fun o' h=>?_) (.nil _))
     · dsimp only;rw[List.length_append,List.length_singleton];omega
     · dsimp only;rw[hx];exact hI'
     · dsimp only;rw[ht];simp
     · dsimp only;rw[List.length_append,List.length_singleton];exact Y640
     · dsimp only;rw[List.length_append,List.length_singleton,List.map_append];exact h
   · obtain⟨d,x',u',hx',rfl,hI'⟩:∃ d x' u',x=d::x'/\u=d::u'/\yG x' u':=by
      cases hI with
      | esc d h=>exact⟨d,_,_,rfl,rfl,h⟩
      | O0 h1 h2 h=>exact absurd (of_decide_eq_true h92) h2
     have hk2:k+1<i.length:=by
      by_cases e:k+1<i.length
      · exact e
      · rw[List.drop_eq_nil_of_le Y609] at hx
        rw[<- hx] at hx'
        cases hx'
     have hdr2:i.drop (k+1)=i.getD (k+1) 0::i.drop (k+2):=by rw[List.drop_eq_getElem_cons hk2,List.getD_eq_getElem?_getD,List.getElem?_eq_getElem hk2];rfl
     have i1:=fun {n:Nat} {E:Env} {C:World->Prop} {dst:Option Tmp} {ty:TypeId} {pos:String} {aft:Array Edge} {g:Option (Nat × Bool)} {x y:Operand}=>dI hk2 (n:=n) (E:=E) (C:=C) (dst:=dst) (ty:=ty) (pos:=pos) (aft:=aft) (g:=g) (x:=x) (y:=y)
     rw[hx,hx'] at hdr2
     obtain⟨hd,hx2⟩:=List.cons.inj hdr2
     rw[<- hd] at i1
     repeat(first|refine JL.q (by first|(apply i0;rfl;rfl)|exact Y336) rfl ?_|refine Y9 ?_)
     refine Y246 ?_
     repeat(first|refine JL.q (by first|(apply i1;rfl;rfl)|exact Y323|exact Y324|exact Y337) rfl ?_|refine JC.region ?_|refine JL.nil ?_|refine JE.next ?_)
     refine JL.gi (xs:=o.map U8) (fun b' cap'=>[⟨b',Sl.Own 5 1 (o.length+1) cap' (o.map U8++[U8 d]),true⟩]) Tryz.underlying22 dV rfl rfl rfl rfl (fun _=>rfl) Y642 Y609 Y609 rfl rfl fun bl b' cap'=>?_
     refine Y18 ?_
     refine JE.again (i:=Sx.mk k o (d::u') b cap) (Sx.mk (k+2) (o++[d]) u' b' cap') ⟨by dsimp only;omega,?_,?_,?_⟩ Y661 ?_ (.keep _ _ _ _ _ _ (fun o' h=>?_) (.nil _))
     · dsimp only;rw[List.length_append,List.length_singleton];omega
     · dsimp only;rw[<- hx2];exact hI'
     · dsimp only;rw[ht];simp
     · dsimp only;rw[List.length_append,List.length_singleton];exact Y640
     · dsimp only;rw[List.length_append,List.length_singleton,List.map_append];exact h
 · have hk':¬ k<i.length:=of_decide_eq_false h
   obtain rfl:k=i.length:=by omega
   rw[List.drop_length] at hI
   cases hI
   rw[List.append_nil] at ht
   subst ht
   repeat(first|refine JL.q (by(apply OQ.wU (s:=⟨some ⟨b,0,none⟩,cap,t⟩);exact Tryz.underlying22;exact Tryz.underlying5;exact Tryz.underlying9;rfl;exact(fun w' hw'=>ku hw' .here))) rfl ?_|refine Y19 ?_)
   exact Y244
theorem Cr(r:List Bt)(w:World)(hl:r.length<9223372036854770000):Calls Tryz.prog 174 [Z r].toArray w fun e w'=>e=.returned (N (bZ r.tail 1))/\Ext w w':=by
 cases r with
 | cons c r=>exact u7 c r w (by rw[List.length_cons] at hl;omega)
 | nil=>
   refine enter (n:=21) Tryz.func174 rfl rfl rfl (aa.start w []) ?_
   refine Y7 ?_
   refine JC.loop (fun k:Nat=>[(0,Z []),(3,N 1)]) (fun _=>[]) (fun _=>0) (fun _=>True) 1 trivial Y640 (aj.refl _) ?_
   intro _ _
   refine Y8 ?_
   refine JC.cond rfl (fun h=>absurd (of_decide_eq_true h) Y610) (fun _=>?_)
   refine Y11 ?_
   refine Y247 ?_
   exact Y248
theorem Il(s:List Bt)(w:World)(hl:s.length<1000000000):Calls Tryz.prog 238 [Z s].toArray w fun e w'=>e=.returned (.tuple #[Z (mz s).1,Z (mz s).2.1,.bool (mz s).2.2])/\Ext w w':=by
 refine enter (n:=38) Tryz.func238 rfl rfl rfl (aa.start w []) ?_
 have cP:∀ (b:Nat) (w0 w':World) (M:List aL),aa w0 [] (⟨b,Row 9 [Z fW],true⟩::M) w'->Calls Tryz.prog 203 [Z s,kQ b].toArray w' fun e w''=>e=.returned (.tuple #[Z (bN ck s).1,Z (bN ck s).2])/\Ext w' w'':=fun b w0 w' M hw'=>by
  have:=r9 s (kQ b) (C6 fW) w' (iw hw' .here) Y609
  rw[Bq] at this
  exact this
 obtain⟨b1,b2,e1,k1,k2,_⟩:=iA ck s
 have hrl:(bN ck s).2.length<=s.length:=by
  conv=>rhs;rw[e1]
  simp only[List.length_append]
  omega
 clear e1 k1 k2 b1 b2
 unfold mz
 generalize (bN ck s).1=V at cP hrl⊢
 generalize (bN ck s).2=r at cP hrl⊢
 refine Y24 ?_
 refine JL.bD (ι:=Nat) (vs:=[Z fW]) kQ (fun b=>[⟨b,Row 9 [Z fW],true⟩]) dO rfl rfl (fun b e he=>by rw[List.mem_singleton.1 he]) (fun w' _=>dZ fW w') fun b=>?_
 cases hV:decide (V=[])
 · rw[if_pos (of_decide_eq_false hV)]
   refine Y180 ?_
   refine Y246 ?_
   refine Y24 ?_
   refine Y247 ?_
   refine Y250 ?_
   exact Y251
 rw[if_neg (fun k=>k (of_decide_eq_true hV))]
 have cQ:=fun w'=>Cr r w' Y609
 cases hq:decide ((bZ r.tail 1:Int)=0)
 case true=>
  rw[if_neg (fun k=>k.2 (by have:=of_decide_eq_true hq;omega))]
  generalize bZ r.tail 1=q at cQ hq
  refine Y180 ?_
  refine Y245 ?_
  repeat(first|refine JL.q (by first|exact Y495|exact Y341|exact Y330|exact Y323|exact Y324) rfl ?_|refine JC.seq ?_|refine JC.region ?_|refine JC.skip ?_|refine JL.nil ?_|refine JE.next ?_|refine JL.aM rfl rfl rfl rfl ?_)
  refine Y246 ?_
  refine Y3 ?_
  refine Y247 ?_
  refine Y250 ?_
  exact Y251
 have hqn:bZ r.tail 1≠0:=by have:=of_decide_eq_false hq;omega
 obtain⟨c,x,rfl⟩:∃ c x,r=c::x:=by
  cases r with
  | nil=>exact absurd (oN 1) hqn
  | cons c x=>exact⟨c,x,rfl⟩
 rw[List.tail_cons] at *
 rw[List.head?_cons]
 have i0:=fun {n:Nat} {E:Env} {C:World->Prop} {dst:Option Tmp} {ty:TypeId} {pos:String} {aft:Array Edge} {g:Option (Nat × Bool)} {y z:Operand}=>dI (s:=c::x) (i:=0) (Nat.succ_pos _) (n:=n) (E:=E) (C:=C) (dst:=dst) (ty:=ty) (pos:=pos) (aft:=aft) (g:=g) (x:=y) (y:=z)
 rw[List.getD_cons_zero] at i0
 cases h34:decide (c=34)
 · rw[if_neg (fun k=>of_decide_eq_false h34 (Option.some.inj k.1))]
   generalize bZ x 1=q at cQ hq
   refine Y180 ?_
   refine Y245 ?_
   repeat(first|refine JL.q (by first|(apply OQ.ai (vs:=[Z (c::x)]);exact jh;rfl;exact(fun w' _=>cQ w'))|exact Y341|(apply i0;rfl;rfl)|(apply OQ.JW (b:=34);rfl;rfl;exact h34)) rfl ?_|refine JL.bG rfl rfl ?_|refine Y181 ?_)
   refine Y246 ?_
   refine Y3 ?_
   refine Y247 ?_
   refine Y250 ?_
   exact Y251
 · obtain rfl:c=34:=of_decide_eq_true h34
   rw[if_pos ⟨rfl,hqn⟩]
   obtain⟨i,t,z,rfl,hI⟩:=s4 _ x 1 (Nat.le_refl _) hqn
   rw[hI.SW,List.nil_append]
   have hlen:(34::(i++34::z)).length=i.length+z.length+2:=by simp only[List.length_cons,List.length_append];omega
   have cU:=fun w'=>Lw hI w' Y609
   have cM:=fun w'=>Gd i w' Y609
   rw[hI.fB] at cM
   have hins:((34::(i++34::z)).take (bZ (i++34::z) 1-1)).drop 1=i:=by
    rw[hI.quot,show 1+i.length+1-1=i.length+1 by omega,List.take_succ_cons,List.drop_succ_cons,List.drop_zero,List.take_left]
   have hql:bZ (i++34::z) 1=i.length+2:=by rw[hI.quot];omega
   generalize bZ (i++34::z) 1=q at *
   have h1:1<=q-1:=by omega
   have h2:q-1<=(34::(i++34::z)).length:=by omega
   have h3:q<=(34::(i++34::z)).length:=by omega
   have cT:=fun w'=>jM ((34::(i++34::z)).drop q) w'
   generalize 34::(i++34::z)=r at *
   refine Y180 ?_
   refine Y245 ?_
   repeat(first|refine JL.q (by first|exact Y495|exact Y341|(apply i0;rfl;rfl)|(apply OQ.JW (b:=34);rfl;rfl;exact h34)) rfl ?_|refine JL.bG rfl rfl ?_|refine Y181 ?_)
   refine Y245 ?_
   repeat(first|refine JL.q (by first|(apply OQ.to;exact(OQ.RM Tryz.underlying9 rfl rfl rfl h1 h2);exact(congrArg Z hins))|exact Y323|exact Y324|exact Y338) rfl ?_|refine JC.seq ?_|refine JC.region ?_|refine JC.skip ?_|refine JL.nil ?_|refine JE.next ?_)
   refine Y267 ?_
   repeat(first|refine JQ.q (by first|(apply OQ.ai (vs:=[Z i]);exact Ih;rfl;exact(fun w' _=>cU w'))|(apply OQ.eV;exact Tryz.underlying9;rfl;rfl;exact h3)|(apply OQ.ai (vs:=[Z (r.drop q),Z [32,9]]);exact ij;rfl;exact(fun w' _=>cT w'))|(apply OQ.ai (vs:=[Z i]);exact wC;rfl;exact(fun w' _=>cM w'))|exact Y323|exact Y324) rfl ?_|refine JQ.nil ?_|refine JE.next ?_)
   exact Y253
theorem Im:aJ Tryz.prog 99:=⟨_,Tryz.func99,rfl,by kernel_rfl⟩
theorem oq(c:Bt)(t:List Bt):∃ (x:List Bt) (b:Bool),Q6 c t=.tuple #[Z x,.bool b]/\x.length<=t.length/\(b=true->t.head?=some c/\x=t.tail)/\(b=false->¬ t.head?=some c/\x=t):=by
 unfold Q6
 by_cases h:t.head?=some c
 · rw[if_pos h]
   exact⟨_,_,rfl,by rw[List.length_tail];omega,fun _=>⟨h,rfl⟩,fun k=>by cases k⟩
 · rw[if_neg h]
   exact⟨_,_,rfl,Nat.le_refl _,(fun k=>by cases k),fun _=>⟨h,rfl⟩⟩
theorem N6{w0 w:World}{S:List Nat}{M:List aL}{e:TypeId}{q:Acc}{L:List (List Bt)}(hw:aa w0 S (bw e q (L.map Z)++M) w)(hq:q=none->L=[]):∃ y:wV,y.v=aD q L.length/\y.ok w/\y.l=L:=by
 cases q with
 | none=>
   obtain rfl:=hq rfl
   exact⟨Dv,rfl,qi w,rfl⟩
 | some p=>
   have hw:aa w0 S (⟨p.1,Sl.Own e 1 (L.map Z).length p.2 (L.map Z),true⟩::M) w:=hw
   exact⟨⟨some ⟨p.1,0,none⟩,p.2,L⟩,rfl,M4 hw .here (List.length_map _).symm,rfl⟩
theorem wE(s:List aq.By):∀ c∈(aO s).head?,bl c=false:=by
 intro c hc
 have:=List.head?_dropWhile_not bl s
 unfold aO at hc
 rw[hc] at this
 simpa using this
structure TC where
 t:List Bt
 q:Acc
 L:List (List Bt)
theorem Lx(s:List Bt)(w:World)(hl:s.length<1000000):Calls Tryz.prog 99 [Z s].toArray w fun e w'=>∃ y:wV,e=.returned (.tuple #[y.v,N (mQ s).2])/\Ext w w'/\y.ok w'/\y.l=(mQ s).1:=by
 refine enter (n:=59) Tryz.func99 rfl rfl rfl (aa.start w []) ?_
 have cB:=fun w'=>rI s w' Y609
 have hbl:=kV s
 unfold mQ
 generalize (dW s).1=x at cB hbl⊢
 generalize (dW s).2=k at cB⊢
 cases hk:decide ((k:Int)=0)
 · rw[if_neg Y656]
   refine Y53 ?_
   refine Y246 ?_
   refine Y24 ?_
   refine Y247 ?_
   refine Y250 ?_
   refine Y265 ?_
   exact Y292
 rw[if_pos Y657]
 have cT:=fun w'=>jM x w'
 have htl:=jK x
 have hth:=wE x
 rw[rD]
 generalize aO x=t0 at cT htl hth⊢
 refine Y53 ?_
 refine Y245 ?_
 repeat(first|refine JL.q (by(apply OQ.ai (vs:=[Z x,Z [32,9]]);exact ij;rfl;exact(fun w' _=>cT w'))) rfl ?_|refine Y93 ?_)
 refine JC.loop (fun z:TC=>[(6,aD z.q z.L.length),(7,Z z.t)]) (fun z=>bw 9 z.q (z.L.map Z)) (fun z=>z.t.length) (fun z=>z.t.length+z.L.length<=s.length/\(z.q=none->z.L=[])/\(∀ c∈z.t.head?,bl c=false)/\iC t0 [] none=iC z.t z.L none) ⟨t0,none,[]⟩ ⟨by dsimp only;rw[List.length_nil];omega,fun _=>rfl,hth,rfl⟩ Y640 (aj.refl _) ?_
 rintro⟨t,q,L⟩ ⟨hlen,hq,hh,hc⟩
 dsimp only at hlen hq hh hc⊢
 rw[hc]
 clear hc cT htl hth cB
 cases ht:decide (t=[])
 · have ht':t≠[]:=of_decide_eq_false ht
   have htp:0<t.length:=List.length_pos_iff.2 ht'
   rw[GV t ht' hh L]
   obtain⟨ins,bg,e1,l1,b1,b2⟩:=oq 60 t
   have c1:=fun w'=>tQ t 60 w'
   rw[e1] at c1
   have hnl:=Fs tP ins
   have hdl:(ins.drop (iN tP ins)).length<=ins.length:=by rw[List.length_drop];omega
   obtain⟨beh,en,e2,l2,n1,n2⟩:=oq 62 (ins.drop (iN tP ins))
   have c2:=fun w'=>tQ (ins.drop (iN tP ins)) 62 w'
   rw[e2] at c2
   have cR:∀ (b:Nat) (w0 w':World) (M:List aL),aa w0 [] (⟨b,Row 9 [Z [60,62]],true⟩::M) w'->Calls Tryz.prog 149 [Z ins,kQ b].toArray w' fun e w''=>e=.returned (N (iN tP ins))/\Ext w' w'':=fun b w0 w' M hw'=>by
    have:=qh ins (kQ b) (C6 [60,62]) w' (iw hw' .here) Y609
    rw[Pv] at this
    exact this
   repeat(first|refine JL.q Y735 rfl ?_|refine Y36 ?_)
   refine Y246 ?_
   repeat(first|refine JL.q (by first|(apply OQ.ai (vs:=[Z t,Z [60]]);exact ec;rfl;exact(fun w' _=>c1 w'))|exact Y426|exact Y323|exact Y324) rfl ?_|refine JC.seq ?_|refine JC.region ?_|refine JC.block ?_|refine JC.skip ?_|refine JL.nil ?_|refine JE.next ?_)
   refine JL.bD (ι:=Nat) (vs:=[Z [60,62]]) kQ (fun b=>[⟨b,Row 9 [Z [60,62]],true⟩]) dO rfl rfl (fun b e he=>by rw[List.mem_singleton.1 he]) (fun w' _=>dZ [60,62] w') fun b=>?_
   obtain⟨n,hn⟩:∃ n,n=iN tP ins:=⟨_,rfl⟩
   rw[<- hn] at hnl hdl n1 n2 c2 cR
   cases bg
   · obtain⟨h1,rfl⟩:=b2 rfl
     rw[if_neg (fun k=>h1 k.1)]
     have g0:decide ((n:Int)=0)=decide ((n:Int)=0):=rfl
     repeat(first|refine JL.q (by first|(apply OQ.ai (vs:=[Z ins,kQ b]);exact jg;rfl;exact(fun w' hw'=>cR b _ w' _ hw'))|exact Y496|(apply OQ.ai (vs:=[Z (ins.drop n),Z [62]]);exact ec;rfl;exact(fun w' _=>c2 w'))) rfl ?_|refine JL.aM rfl rfl rfl rfl ?_|refine Y58 ?_)
     refine Y246 ?_
     refine Y3 ?_
     refine Y247 ?_
     refine Y2 ?_
     refine Y265 ?_
     exact Y292
   obtain⟨h60,rfl⟩:=b1 rfl
   rw[<- hn]
   cases g0:decide ((n:Int)=0)
   case true=>
    rw[if_neg (fun k=>k.2.1 (by have:=of_decide_eq_true g0;omega))]
    repeat(first|refine JL.q Y736 rfl ?_|refine JL.bG rfl rfl ?_|refine JL.aM rfl rfl rfl rfl ?_|refine Y55 ?_)
    refine Y246 ?_
    refine Y3 ?_
    refine Y247 ?_
    refine Y2 ?_
    refine Y265 ?_
    exact Y292
   have hn0:n≠0:=by have:=of_decide_eq_false g0;omega
   cases en
   · obtain⟨h1,h2⟩:=n2 rfl
     rw[if_neg (fun k=>h1 k.2.2)]
     repeat(first|refine JL.q Y736 rfl ?_|refine JL.bG rfl rfl ?_|refine Y56 ?_)
     refine Y246 ?_
     refine Y3 ?_
     refine Y247 ?_
     refine Y2 ?_
     refine Y265 ?_
     exact Y292
   obtain⟨h62,rfl⟩:=n1 rfl
   rw[if_pos ⟨h60,hn0,h62⟩]
   repeat(first|refine JL.q Y736 rfl ?_|refine JL.bG rfl rfl ?_|refine Y56 ?_)
   refine Y245 ?_
   have cT:=fun w'=>jM (t.tail.drop n).tail w'
   have htl:=jK (t.tail.drop n).tail
   have hth:=wE (t.tail.drop n).tail
   have htt:t.tail.length+1=t.length:=by rw[List.length_tail];omega
   have hdd:(t.tail.drop n).tail.length<=t.tail.length-n:=by rw[List.length_tail,List.length_drop];omega
   repeat(first|refine JL.q (by(apply OQ.gu;exact Tryz.underlying9;rfl;rfl;exact hnl)) rfl ?_|refine Y128 ?_)
   refine JL.q9 Tryz.underlying96 Px rfl rfl rfl rfl fun bl _=>?_
   refine JL.kC (M':=⟨bl,Row 9 [Z (t.tail.take n)],true⟩::(bw 9 q (L.map Z)++[])) ?_ (.keep _ _ _ _ _ _ (fun o h=>h) (.drop _ _ _ (by rw[List.append_nil];exact aj.refl _)))
   refine JL.M6 (p:=t.tail.take n) (L:=L) (M0:=[]) q Tryz.underlying96 Px hq rfl rfl rfl Y609 Y609 rfl fun b' cap'=>?_
   repeat(first|refine JL.q (by(apply OQ.ai (vs:=[Z (t.tail.drop n).tail,Z [32,9]]);exact ij;rfl;exact(fun w' _=>cT w'))) rfl ?_|refine Y160 ?_)
   refine JE.again (i:=TC.mk t q L) (TC.mk (aO (t.tail.drop n).tail) (some (b',cap')) (L++[t.tail.take n])) ⟨?_,fun h=>(by cases h),hth,rfl⟩ Y661 Y640 (by dsimp only;rw[List.append_nil];exact aj.refl _)
   dsimp only
   rw[List.length_append,List.length_singleton]
   omega
 · obtain rfl:t=[]:=of_decide_eq_true ht
   repeat(first|refine JL.q Y735 rfl ?_|refine Y36 ?_)
   refine Y245 ?_
   refine Y107 ?_
   refine Y247 ?_
   refine JE.aV rfl (RV.tmp rfl) (RV.tmp rfl) fun w' hw=>?_
   obtain⟨y,y1,y2,y3⟩:=N6 (M:=[]) (by rw[List.append_nil];exact hw) hq
   exact⟨y,by rw[y1];rfl,hw.aH,y2,y3⟩
theorem s6:aJ Tryz.prog 205:=⟨_,Tryz.func205,rfl,by kernel_rfl⟩
def Ut(o:Option (Pr × List Bt)):Value:=match o with
 | some (p,z)=>.tuple #[.agg (pc p).toArray,Z z,.bool true]
 | none=>.tuple #[.agg (pc ([],[])).toArray,Z [],.bool false]
theorem Et(s:List Bt)(w:World)(hl:s.length<1000000000):Calls Tryz.prog 205 [Z s].toArray w fun e w'=>e=.returned (Ut (gJ s))/\Ext w w':=by
 refine enter (n:=51) Tryz.func205 rfl rfl rfl (aa.start w []) ?_
 obtain⟨ins,bg,e1,l1,b1,b2⟩:=oq 59 s
 have c1:=fun w'=>tQ s 59 w'
 rw[e1] at c1
 have cP:∀ (b:Nat) (w0 w':World) (M:List aL),aa w0 [] (⟨b,Row 9 [Z cD],true⟩::M) w'->Calls Tryz.prog 203 [Z ins,kQ b].toArray w' fun e w''=>e=.returned (.tuple #[Z (bN aW ins).1,Z (bN aW ins).2])/\Ext w' w'':=fun b w0 w' M hw'=>by
  have:=r9 ins (kQ b) (C6 cD) w' (iw hw' .here) Y609
  rw[u0] at this
  exact this
 obtain⟨k1,k2,e3,q1,q2,hpl⟩:=iA aW ins
 have hnl:(bN aW ins).1.length+(bN aW ins).2.length<=ins.length:=by
  conv=>rhs;rw[e3]
  simp only[List.length_append]
  omega
 clear e3 q1 q2 k1 k2
 have hP:gJ s=if s.head?=some 59/\(bN aW s.tail).1≠[]/\(bN aW s.tail).2.head?=some 61/\(mz (bN aW s.tail).2.tail).2.2=true then
  some (((bN aW s.tail).1.map small,(mz (bN aW s.tail).2.tail).1),(mz (bN aW s.tail).2.tail).2.1) else none:=rfl
 have hn1:bg=true->bN aW s.tail=bN aW ins:=fun h=>by rw[(b1 h).2]
 obtain⟨n,u,hp⟩:∃ n u,bN aW ins=(n,u):=⟨_,_,rfl⟩
 rw[hp] at cP hpl hnl hn1
 dsimp only at cP hpl hnl
 clear hp
 obtain⟨u2,go,e2,l2,g1,g2⟩:=oq 61 u
 have c2:=fun w'=>tQ u 61 w'
 rw[e2] at c2
 have c3:=fun w'=>Il u2 w' Y609
 have hg1:go=true->mz u.tail=mz u2:=fun h=>by rw[(g1 h).2]
 obtain⟨v,z,ok,hv⟩:∃ v z ok,mz u2=(v,z,ok):=⟨_,_,_,rfl⟩
 rw[hv] at c3 hg1
 dsimp only at c3
 clear hv e1 e2
 refine Y83 ?_
 refine JL.alloc Nh rfl fun bc _=>?_
 cases gn:decide (n=[])
 case true=>
  have hN:gJ s=none:=by
   rw[hP,if_neg]
   rintro⟨h,hn,_⟩
   cases bg with
   | true=>rw[hn1 rfl] at hn;exact hn (of_decide_eq_true gn)
   | false=>exact(b2 rfl).1 h
  rw[hN]
  clear hP hn1 hg1 b1 b2 g1 g2 hN
  cases bg
  · refine Y182 ?_
    refine JL.bD (ι:=Nat) (vs:=[Z cD]) kQ (fun b=>[⟨b,Row 9 [Z cD],true⟩]) dO rfl rfl (fun b e he=>by rw[List.mem_singleton.1 he]) (fun w' _=>dZ cD w') fun b=>?_
    repeat(first|refine JL.q Y737 rfl ?_|refine JL.aM rfl rfl rfl rfl ?_|refine Y58 ?_)
    refine Y246 ?_
    refine Y183 ?_
    refine Y293 ?_
    refine Y39 ?_
    refine Y247 ?_
    refine Y250 ?_
    exact Y294
  · refine Y182 ?_
    refine JL.bD (ι:=Nat) (vs:=[Z cD]) kQ (fun b=>[⟨b,Row 9 [Z cD],true⟩]) dO rfl rfl (fun b e he=>by rw[List.mem_singleton.1 he]) (fun w' _=>dZ cD w') fun b=>?_
    repeat(first|refine JL.q Y738 rfl ?_|refine JL.bG rfl rfl ?_|refine JL.aM rfl rfl rfl rfl ?_|refine Y55 ?_)
    refine Y246 ?_
    refine Y183 ?_
    refine Y293 ?_
    refine Y39 ?_
    refine Y247 ?_
    refine Y250 ?_
    exact Y294
 cases bg
 · have hN:gJ s=none:=by
    rw[hP,if_neg]
    rintro⟨h,_⟩
    exact(b2 rfl).1 h
   rw[hN]
   clear hP hn1 hg1 b1 b2 g1 g2 hN
   refine Y182 ?_
   refine JL.bD (ι:=Nat) (vs:=[Z cD]) kQ (fun b=>[⟨b,Row 9 [Z cD],true⟩]) dO rfl rfl (fun b e he=>by rw[List.mem_singleton.1 he]) (fun w' _=>dZ cD w') fun b=>?_
   repeat(first|refine JL.q Y737 rfl ?_|refine JL.aM rfl rfl rfl rfl ?_|refine Y58 ?_)
   refine Y246 ?_
   refine Y183 ?_
   refine Y293 ?_
   refine Y39 ?_
   refine Y247 ?_
   refine Y250 ?_
   exact Y294
 have h59:=(b1 rfl).1
 rw[hn1 rfl] at hP
 dsimp only at hP
 cases go
 · have hN:gJ s=none:=by
    rw[hP,if_neg]
    rintro⟨_,_,h,_⟩
    exact(g2 rfl).1 h
   rw[hN]
   clear hP hn1 hg1 b1 b2 g1 g2 hN
   refine Y182 ?_
   refine JL.bD (ι:=Nat) (vs:=[Z cD]) kQ (fun b=>[⟨b,Row 9 [Z cD],true⟩]) dO rfl rfl (fun b e he=>by rw[List.mem_singleton.1 he]) (fun w' _=>dZ cD w') fun b=>?_
   repeat(first|refine JL.q Y738 rfl ?_|refine JL.bG rfl rfl ?_|refine JL.aM rfl rfl rfl rfl ?_|refine Y55 ?_)
   refine Y246 ?_
   refine Y183 ?_
   refine Y293 ?_
   refine Y39 ?_
   refine Y247 ?_
   refine Y250 ?_
   exact Y294
 have h61:=(g1 rfl).1
 rw[hg1 rfl] at hP
 dsimp only at hP
 cases ok
 · have hN:gJ s=none:=by
    rw[hP,if_neg]
    rintro⟨_,_,_,h⟩
    cases h
   rw[hN]
   clear hP hn1 hg1 b1 b2 g1 g2 hN
   refine Y182 ?_
   refine JL.bD (ι:=Nat) (vs:=[Z cD]) kQ (fun b=>[⟨b,Row 9 [Z cD],true⟩]) dO rfl rfl (fun b e he=>by rw[List.mem_singleton.1 he]) (fun w' _=>dZ cD w') fun b=>?_
   repeat(first|refine JL.q Y738 rfl ?_|refine JL.bG rfl rfl ?_|refine Y56 ?_)
   refine Y246 ?_
   refine Y183 ?_
   refine Y293 ?_
   refine Y39 ?_
   refine Y247 ?_
   refine Y250 ?_
   exact Y294
 rw[if_pos ⟨h59,of_decide_eq_false gn,h61,rfl⟩] at hP
 rw[hP]
 clear hP hn1 hg1 b1 b2 g1 g2
 have cL:=fun w'=>n6 n w' Y609 (fun c hc=>rL (hpl c hc))
 refine Y182 ?_
 refine JL.bD (ι:=Nat) (vs:=[Z cD]) kQ (fun b=>[⟨b,Row 9 [Z cD],true⟩]) dO rfl rfl (fun b e he=>by rw[List.mem_singleton.1 he]) (fun w' _=>dZ cD w') fun b=>?_
 repeat(first|refine JL.q Y738 rfl ?_|refine JL.bG rfl rfl ?_|refine Y56 ?_)
 refine Y245 ?_
 repeat(first|refine JL.q (by first|exact Y504|(apply OQ.PG (a:=n.map small) (b:=v);rfl;rfl)) rfl ?_|refine Y128 ?_)
 refine JL.ax (cs:=pc (n.map small,v)) lH rfl rfl rfl rfl (.there .here) rfl ?_
 refine Y39 ?_
 refine Y247 ?_
 exact JE.eJ rfl (RV.aT (cs:=pc (n.map small,v)) BF lH rfl (.there .here) rfl Row.all) (RV.tmp rfl) (RV.tmp rfl) fun w' hw=>⟨rfl,hw.aH⟩
theorem Ap:aJ Tryz.prog 153:=⟨_,Tryz.func153,rfl,by kernel_rfl⟩
theorem Aq:aJ Tryz.prog 204:=⟨_,Tryz.func204,rfl,by kernel_rfl⟩
theorem Uu:zc Tryz.prog 103=some [.nilFunc]:=by kernel_rfl
theorem Uv:gX Tryz.prog 103=some 1:=by kernel_rfl
theorem Uw:gD Tryz.prog 103=true:=by kernel_rfl
theorem Cs(a b:Nat)(c:Bt)(w:World)(hF:kP Tryz.prog w (kQ b) aW)(hc:w.cell? ⟨a,0,none⟩=some (kQ b)):Calls Tryz.prog 204 [U8 c,Pt a 0].toArray w fun e w'=>e=.returned (.bool (s5 c))/\Ext w w':=by
 refine enter (n:=12) Tryz.func204 rfl rfl rfl (aa.start w []) ?_
 have hk:s5 c=(aW c||decide (c=47)):=by
  unfold s5
  cases h:decide (c=47) with
  | true=>rw[of_decide_eq_true h];rfl
  | false=>rw[beq_eq_false_iff_ne.2 (of_decide_eq_false h)]
 rw[hk]
 cases h1:aW c <;> cases h2:decide (c=47)
 all_goals (repeat(first|refine JL.q (by first|(apply OQ.aI;exact Uw;rfl;exact(block_lt_of_cell hc);exact Y614;exact hc)|exact Y408|(apply OQ.ru (l:=[47]) (i:=0);exact Tryz.underlying9;rfl;rfl;exact Y610)|(apply OQ.gj (b:=47);rfl;rfl;exact h2)) rfl ?_|refine JL.bG rfl rfl ?_|refine JL.aM rfl rfl rfl rfl ?_|refine Y12 ?_))
 all_goals exact JC.ret (JE.aK rfl (RV.tmp rfl) fun w' hw=>⟨rfl,hw.aH⟩)
@[reducible] def TD (a:Nat):Value:=.func (.func 204) #[] [Pt a 0].toArray
theorem Ly{w0 w:World}{S:List Nat}{M:List aL}{a b:Nat}{wr wr':Bool}(hw:aa w0 S M w)(hM:Has M a (Row 103 [kQ b]) wr)(hN:Has M b (Row 9 [Z cD]) wr'):kP Tryz.prog w (TD a) s5:=by
 refine⟨_,[Pt a 0],rfl,Aq,fun c w' hx=>Cs a b c w' ?_ ?_⟩
 · rw[<- u0]
   exact(iw hw hN).ext hx
 · obtain⟨o,ho,hA⟩:=hw.get hM
   have hlt:a<w.heap.size:=hw.lt hM.mem
   exact cell_of ((hx.block a hlt Y614).trans ho) (Row.cell rfl o hA)
theorem QB{c:aq.By}(h:s5 c=true):c.toNat<128:=by
 unfold s5 at h
 rw[Bool.or_eq_true] at h
 rcases h with h|h
 · exact rL h
 · rw[eq_of_beq h];decide
structure TE where
 r:List Bt
 q:Acc
 L:List Pr
theorem Ct(s:List Bt)(w:World)(hl:s.length<1000000):Calls Tryz.prog 153 [Z s].toArray w fun e w'=>∃ y:G2 (eo s).2.1,e=.returned (.tuple #[Z (eo s).1,y.z.v,N (eo s).2.2])/\aa w [] y.z.an w':=by
 refine enter (n:=47) Tryz.func153 rfl rfl rfl (aa.start w []) ?_
 have cB:=fun w'=>rI s w' Y609
 have hbl:=kV s
 unfold eo
 rw[Ie]
 generalize (dW s).1=x at cB hbl⊢
 generalize (dW s).2=k at cB⊢
 cases hk:decide ((k:Int)=0)
 · rw[if_neg Y656]
   refine Y53 ?_
   refine Y246 ?_
   refine Y24 ?_
   refine Y247 ?_
   refine Y250 ?_
   refine Y295 ?_
   exact Y296
 rw[if_pos Y657]
 obtain⟨k1,k2,e3,q1,q2,hpl⟩:=iA s5 x
 have hnl:(bN s5 x).1.length+(bN s5 x).2.length<=x.length:=by
  conv=>rhs;rw[e3]
  simp only[List.length_append]
  omega
 clear e3 q1 q2 k1 k2
 unfold Ao
 have cP:=fun (a:Nat) w' hF=>r9 x (TD a) s5 w' hF Y609
 generalize (bN s5 x).1=n at cP hpl hnl⊢
 generalize (bN s5 x).2=r0 at cP hpl hnl⊢
 have cK:=fun w'=>wD n w' Y609
 refine Y53 ?_
 refine Y245 ?_
 refine Y102 ?_
 refine JL.bD (ι:=Nat) (vs:=[Z cD]) kQ (fun b=>[⟨b,Row 9 [Z cD],true⟩]) dO rfl rfl (fun b e he=>by rw[List.mem_singleton.1 he]) (fun w' _=>dZ cD w') fun b=>?_
 skip
 refine JL.alloc Uu rfl fun a _=>?_
 refine JL.aP (r:=[.nilFunc]) (r':=[kQ b]) Uv rfl rfl rfl rfl .here Y610 rfl ?_
 repeat(first|refine JL.q (by first|(apply OQ.SM (caps:=[Pt a 0]);rfl)|(apply OQ.ai (vs:=[Z x,TD a]);exact eU;rfl;exact(fun w' hw'=>cP a w' (Ly hw' .here (.there .here))))) rfl ?_|refine Y6 ?_)
 cases hkd:gy n
 · rw[if_pos rfl]
   rw[hkd] at cK
   repeat(first|refine JL.q (by exact Y505) rfl ?_|refine Y179 ?_)
   refine Y246 ?_
   refine Y3 ?_
   refine Y247 ?_
   refine Y250 ?_
   refine Y295 ?_
   exact Y296
 rw[if_neg Y610]
 rw[hkd] at cK
 repeat(first|refine JL.q (by exact Y505) rfl ?_|refine Y179 ?_)
 refine Y245 ?_
 refine Y75 ?_
 refine JC.loop (fun z:TE=>[(2,Z n),(3,aD z.q z.L.length),(7,Z z.r)]) (fun z=>dr 63 z.q z.L++[]) (fun z=>z.r.length) (fun z=>z.r.length+z.L.length<=s.length/\(z.q=none->z.L=[])/\ke r0=(ke z.r).map (z.L++·)) ⟨r0,none,[]⟩ ⟨by dsimp only;rw[List.length_nil];omega,fun _=>rfl,by simp⟩ Y640 (.nil _) ?_
 rintro⟨r,q,L⟩ ⟨hlen,hq,hc⟩
 dsimp only at hlen hq hc⊢
 rw[hc]
 clear hc cP cK cB
 cases hr:decide (r=[])
 · have cA:=fun w'=>Et r w' Y609
   cases hp:gJ r with
   | none=>
     rw[pg (of_decide_eq_false hr) hp]
     rw[hp] at cA
     refine Y184 ?_
     refine Y246 ?_
     repeat(first|refine JL.q (by exact Y506) rfl ?_|refine Y185 ?_)
     refine JL.alloc Nh rfl fun b8 _=>?_
     refine JL.ax (cs:=pc ([],[])) lH rfl rfl rfl rfl .here rfl ?_
     refine Y186 ?_
     refine Y246 ?_
     refine Y3 ?_
     refine Y247 ?_
     refine Y2 ?_
     refine Y295 ?_
     exact Y296
   | some pz=>
     obtain⟨p,z⟩:=pz
     rw[hp] at cA
     have hzl:=o9 hp
     rw[pn hp]
     refine Y184 ?_
     refine Y246 ?_
     repeat(first|refine JL.q (by exact Y506) rfl ?_|refine Y185 ?_)
     refine JL.alloc Nh rfl fun b8 _=>?_
     refine JL.ax (cs:=pc p) lH rfl rfl rfl rfl .here rfl ?_
     refine Y186 ?_
     refine Y245 ?_
     repeat(first|refine JL.q (by(apply OQ.aF (cs:=pc p);exact BF;exact lH;rfl;exact .here;rfl;exact Row.all)) rfl ?_|refine Y128 ?_)
     refine JL.w4 (cs:=pc p) Tryz.underlying56 Se rfl Y610 Y610 rfl rfl rfl fun bl _=>?_
     refine JL.zR (p:=p) (L:=L) (M0:=[]) q Tryz.underlying56 Se hq rfl rfl rfl Y609 Y609 rfl fun b' cap'=>?_
     refine Y150 ?_
     refine JE.again (i:=TE.mk r q L) (TE.mk z (some (b',cap')) (L++[p])) ⟨?_,(fun h=>by cases h),?_⟩ hzl Y640 (aj.refl _)
     · dsimp only
       rw[List.length_append,List.length_singleton]
       omega
     · dsimp only
       cases ke z with
       | none=>rfl
       | some l=>simp
 · obtain rfl:r=[]:=of_decide_eq_true hr
   rw[r8]
   have cL:=fun w'=>n6 n w' Y609 (fun c hc=>QB (hpl c hc))
   refine Y184 ?_
   refine Y245 ?_
   repeat(first|refine JL.q (by exact Y504) rfl ?_|refine Y19 ?_)
   refine Y247 ?_
   refine JE.eJ rfl (RV.tmp rfl) (RV.tmp rfl) (RV.tmp rfl) fun w' hw=>?_
   refine⟨⟨ew q L,?_,fun h=>?_⟩,?_,?_⟩
   · rw[Fu hq]
     simp
   · cases q with
     | none=>rfl
     | some p=>cases h
   · dsimp only
     rw[kD]
     rfl
   · cases q with
     | none=>exact Sl.aa.weak hw (.nil _)
     | some p=>exact Sl.aa.weak hw rH
end
section
open Sl aq gZ Tok
theorem Eu:aJ Tryz.prog 101:=⟨_,Tryz.func101,rfl,by kernel_rfl⟩
theorem Ev:aJ Tryz.prog 104:=⟨_,Tryz.func104,rfl,by kernel_rfl⟩
theorem c7:kM Tryz.prog 29=true:=by kernel_rfl
theorem aZ:gX Tryz.prog 29=some 2:=by kernel_rfl
theorem iB:zc Tryz.prog 29=some [bV.v,aB.v]:=by kernel_rfl
theorem lO:gD Tryz.prog 22=true:=by kernel_rfl
theorem OQ.Lz{n:Nat}{E:Env}{C:World->Prop}{dst:Option Tmp}{ty:TypeId}{pos:String}{aft:Array Edge}{g:Option (Nat × Bool)}{x y:Operand}{a:List Bt}{q:gm}(hx:ev E x=some (Z a))(hy:ev E y=some q.v):OQ Tryz.prog n E C ⟨dst,.build 59 #[(0,x),(1,y)],ty,pos,aft,g⟩ (.agg ([Z a,q.v,.int .i64 0,aB.v,.slice none 0 0]:List Value).toArray):=by
 refine OQ.run fun k hk w _=>?_
 have h1:=hk.eval hx
 have h2:=hk.eval hy
 have h3:=run_build (P:=Tryz.prog) w 59 #[(0,Z a),(1,q.v)] ([Z a,q.v,.int .i64 0,aB.v,.slice none 0 0]:List Value).toArray Y636
 simp[execOp,h1,h2,Sem.run_bind,h3]
theorem iZ:aJ Tryz.prog 98:=⟨_,Tryz.func98,rfl,by kernel_rfl⟩
theorem Io(f:gm)(s:ay)(w:World)(hf:f.ok w)(hz:fX f)(hl:f.l.length<=1000000)(hv:∀ p∈f.l,bY p.1 xC=true->p.2.length<=999999):Calls Tryz.prog 101 [.agg #[f.v,s.v]].toArray w
  fun e w'=>∃ y:G2 (e7 f.l).2.1,e=.returned (.tuple #[.agg ([Z (e7 f.l).1,y.z.v,.int .i64 0,aB.v,.slice none 0 0]:List Value).toArray,N (e7 f.l).2.2])/\aa w [] y.z.an w':=by
 refine enter (n:=27) Tryz.func101 rfl rfl rfl (aa.start w []) ?_
 refine JC.seq (JC.region (JL.box (r:=[f.v,s.v]) rfl rfl rfl fun b1 _=>?_))
 refine JL.alloc (r:=pz) ?_ ?_ fun b2 _=>?_
 exact tr
 rfl
 have cg:=fun (M:List aL) (w':World) (hw':aa w [] M w')=>nC f s cF w' (hf.holds hw' rfl) hz hl
 rw[NM] at cg
 have hlow:=B4 (n:=xC) hv
 cases hA:dP xC f.l with
 | nil=>
   have hT:e7 f.l=(mL,[],0):=by unfold e7;rw[hA]
   rw[hA] at cg
   rw[hT]
   repeat(first|refine JL.q (by first|exact Y507|exact Y508) rfl ?_|refine Y109 ?_)
   refine Y246 ?_
   refine JC.seq (JC.region ?_)
   refine JL.q (OQ.KY (a:=mL)) rfl ?_
   refine JL.ax (cs:=[Z mL,bV.v,.int .i64 0,aB.v,.slice none 0 0]) iE rfl rfl rfl rfl .here rfl ?_
   refine Y39 ?_
   refine Y247 ?_
   refine JE.ag ?_
   exact JE.aV rfl (RV.aT gx iE rfl .here rfl Row.all) (RV.tmp rfl) fun w' hw=>⟨⟨bV,rfl,fun _=>rfl⟩,rfl,hw.weak (.nil _)⟩
 | cons v l=>
   have hT:e7 f.l=eo v:=by unfold e7;rw[hA]
   rw[hA] at cg hlow
   rw[hT]
   have hvl:v.length<1000000:=by have:v.length<=999999:=hlow;omega
   repeat(first|refine JL.q (by first|exact Y507|exact Y508) rfl ?_|refine Y109 ?_)
   refine Y245 ?_
   refine Y94 ?_
   refine JL.bD (ι:=G2 (eo v).2.1) (vs:=[Z v]) (fun y=>.tuple #[Z (eo v).1,y.z.v,N (eo v).2.2]) (fun y=>y.z.an) Ap rfl rfl (fun y=>y.z.bH) (fun w' _=>Ct v w' hvl) ?_
   intro y
   repeat(first|refine JL.q (by(apply OQ.Lz (q:=y.z);rfl;rfl)) rfl ?_|refine Y6 ?_)
   refine JL.perm (M':=[⟨b2,Row 59 pz,true⟩,⟨b1,Row 29 [f.v,s.v],true⟩]++y.z.an) ?_ List.perm_append_comm
   refine JL.ax (cs:=[Z (eo v).1,y.z.v,.int .i64 0,aB.v,.slice none 0 0]) iE rfl rfl rfl rfl .here rfl ?_
   refine Y39 ?_
   refine Y247 ?_
   exact JE.aV rfl (RV.aT gx iE rfl .here rfl Row.all) (RV.tmp rfl) fun w' hw=>⟨y,rfl,hw.weak (.drop _ _ _ (.drop _ _ _ (aj.refl _)))⟩
structure RB (f:List fP) (b:List aq.By) where
 c:Int
 x:ay
 k:Nat
 nn:x.ad=none->x.l=[]
 is:match kL (xD f) with
  | none=>k=3
  | some c'=>match jY gv.Qd c' b with
    | .error e=>k=e/\e≠0
    | .ok y=>k=0/\c=c'/\x.l=y
theorem Ip{c:List aq.By}{k:Int}(h:kL c=some k):k=0\/k=1\/k=2:=by
 unfold kL at h
 split at h
 · cases h;exact .inr (.inl rfl)
 · split at h
   · cases h;exact .inr (.inr rfl)
   · split at h
     · cases h;exact .inl rfl
     · cases h
theorem Iq(f:gm)(s:ay)(w:World)(hE:fz w)(hf:f.ok w)(hs:s.ok w)(hz:fX f)(hl:f.l.length<=1000000)(hb:s.l.length<=60000)(hv:∀ p∈f.l,bY p.1 wT=true->p.2.length<=999999):Calls Tryz.prog 104 [.agg #[f.v,s.v]].toArray w
  fun e w'=>∃ r:RB f.l s.l,e=.returned (.tuple #[.int .i64 r.c,r.x.v,N r.k])/\aa w [] r.x.an w':=by
 refine enter (n:=44) Tryz.func104 rfl rfl rfl (aa.start w []) ?_
 refine JC.seq (JC.region (JL.box (r:=[f.v,s.v]) rfl rfl rfl fun b1 _=>?_))
 have cg:=fun (M:List aL) (w':World) (hw':aa w [] M w')=>nC f s fu w' (hf.holds hw' rfl) hz hl
 rw[NN] at cg
 have hlow:=B4 (n:=wT) hv
 have hce:=KS f.l
 have tl:=Bh ((dP wT f.l).headD [])
 generalize (!(dP wT f.l).isEmpty)=fnd at cg
 have ct:=fun w'=>lE ((dP wT f.l).headD []) w' Y609
 generalize (dP wT f.l).headD []=v at cg hlow hce ct tl
 have ce:=fun (M:List aL) (w':World) (hw':aa w [] M w')=>Hj (trim v) w' (hE.holds hw')
 rw[<- hce] at ce
 generalize trim v=tv at ce ct
 have hR:∀ (c:Int) (x:ay) (k:Nat) (hn:x.ad=none->x.l=[]) (h:match kL (xD f.l) with
  | none=>k=3
  | some c'=>match jY gv.Qd c' s.l with
    | .error e=>k=e/\e≠0
    | .ok y=>k=0/\c=c'/\x.l=y),∃ r:RB f.l s.l,r.c=c/\r.x=x/\r.k=k:=fun c x k hn h=>⟨⟨c,x,k,hn,h⟩,rfl,rfl,rfl⟩
 have hc3:=fun k=>Ip (c:=xD f.l) (k:=k)
 cases hC:kL (xD f.l) with
 | none=>
   rw[hC] at ce hR
   repeat(first|refine JL.q Y739 rfl ?_|refine Y109 ?_)
   refine Y246 ?_
   refine Y3 ?_
   refine Y247 ?_
   refine Y250 ?_
   refine JE.eJ rfl (RV.tmp rfl) (RV.tmp rfl) (RV.tmp rfl) fun w' hw=>?_
   obtain⟨r,h1,h2,h3⟩:=hR 0 aB 3 (fun _=>rfl) rfl
   exact⟨r,by rw[h1,h2,h3];rfl,by rw[h2];exact hw.weak (.nil _)⟩
 | some c=>
   have hc3:=hc3 c hC
   rw[hC] at ce hR
   repeat(first|refine JL.q Y739 rfl ?_|refine Y109 ?_)
   refine Y245 ?_
   rcases hc3 with rfl|rfl|rfl
   · have d1:decide ((0:Int)=1)=false:=rfl
     have d2:decide ((0:Int)=2)=false:=rfl
     have hbr:jY gv.Qd 0 s.l=.ok s.l:=rfl
     repeat(first|refine JL.q (by(apply OQ.ep (a:=0) (b:=1);rfl;rfl;exact d1)) rfl ?_|refine Y93 ?_)
     refine Y245 ?_
     repeat(first|refine JL.q Y740 rfl ?_|refine Y20 ?_)
     refine Y245 ?_
     refine Y187 ?_
     refine JL.bD (ι:={ q:Acc // q=none->s.l=[] }) (vs:=[s.v]) (fun q=>aD q.1 s.l.length) (fun q=>bw 5 q.1 (s.l.map U8)) j5 rfl rfl (fun q=>kz _ _ _) (fun w' hw'=>(n9 s w' (hs.holds hw' rfl) Y609).mono fun e w2 ⟨q,h1,h2,h3⟩=>⟨⟨q,h2⟩,h1,h3⟩) ?_
     rintro⟨q,hq⟩
     dsimp only
     repeat(first|refine JL.q (by first|exact Y323|exact Y324) rfl ?_|refine JC.seq ?_|refine JC.region ?_|refine JL.nil ?_|refine JE.next ?_|refine JE.ah ?_)
     refine Y247 ?_
     refine JE.eJ rfl (RV.tmp rfl) (RV.tmp rfl) (RV.tmp rfl) fun w' hw=>?_
     obtain⟨r,h1,h2,h3⟩:=hR 0 (eO q s.l) 0 jN (by dsimp only;rw[hbr];exact⟨rfl,rfl,mb hq⟩)
     refine⟨r,by rw[h1,h2,h3,iV];rfl,?_⟩
     rw[h2]
     exact(Sl.aa.weak hw (bO _ _)).weak (iW q s.l)
   · have d1:decide ((1:Int)=1)=true:=rfl
     have hbr:jY gv.Qd 1 s.l=wX s.l:=rfl
     repeat(first|refine JL.q (by(apply OQ.ep (a:=1) (b:=1);rfl;rfl;exact d1)) rfl ?_|refine Y93 ?_)
     refine Y246 ?_
     refine Y187 ?_
     refine JL.bD (ι:={ x:ay // iP x ((bQ.fE (bQ.bare s.l)).getD []) }) (vs:=[s.v]) (fun x=>.tuple #[x.1.v,N (mI (bQ.fE (bQ.bare s.l)))]) (fun x=>x.1.an) Ee rfl rfl (fun x=>x.1.bH) (fun w' hw'=>(yC s w' (hs.holds hw' rfl) hb).mono fun e w2 ⟨x,h1,h2,h3⟩=>⟨⟨x,h2⟩,h1,h3⟩) ?_
     rintro⟨x,hx⟩
     dsimp only
     refine Y188 ?_
     refine Y247 ?_
     refine JE.eJ rfl (RV.tmp rfl) (RV.tmp rfl) (RV.tmp rfl) fun w' hw=>?_
     obtain⟨r,h1,h2,h3⟩:=hR 1 x (mI (bQ.fE (bQ.bare s.l))) hx.none (by
      dsimp only
      rw[hbr]
      unfold wX
      have hxl:=hx.val
      cases hd:bQ.fE (bQ.bare s.l) with
      | none=>exact⟨rfl,by decide⟩
      | some y=>
        rw[hd] at hxl
        exact⟨rfl,rfl,hxl⟩)
     refine⟨r,by rw[h1,h2,h3];rfl,?_⟩
     rw[h2]
     exact Sl.aa.weak hw (bO _ _)
   · have d1:decide ((2:Int)=1)=false:=rfl
     have d2:decide ((2:Int)=2)=true:=rfl
     have hbr:jY gv.Qd 2 s.l=gv.Qd s.l:=rfl
     repeat(first|refine JL.q (by(apply OQ.ep (a:=2) (b:=1);rfl;rfl;exact d1)) rfl ?_|refine Y93 ?_)
     refine Y245 ?_
     repeat(first|refine JL.q (by(apply OQ.ep (a:=2) (b:=2);rfl;rfl;exact d2)) rfl ?_|refine Y20 ?_)
     refine Y246 ?_
     refine Y187 ?_
     refine JL.bD (ι:={ x:ay // iP x (gv.Sf (gv.jD s.l)) }) (vs:=[s.v]) (fun x=>.tuple #[x.1.v,N (gv.KX (gv.jD s.l))]) (fun x=>x.1.an) H6 rfl rfl (fun x=>x.1.bH) (fun w' hw'=>(Lm s w' (hs.holds hw' rfl) Y609).mono fun e w2 ⟨x,h1,h2,h3⟩=>⟨⟨x,h2⟩,h1,h3⟩) ?_
     rintro⟨x,hx⟩
     dsimp only
     refine Y188 ?_
     refine Y247 ?_
     refine JE.eJ rfl (RV.tmp rfl) (RV.tmp rfl) (RV.tmp rfl) fun w' hw=>?_
     obtain⟨r,h1,h2,h3⟩:=hR 2 x (gv.KX (gv.jD s.l)) hx.none (by
      dsimp only
      rw[hbr]
      unfold gv.Qd
      have hxl:=hx.val
      cases hd:gv.jD s.l with
      | none=>exact⟨rfl,by decide⟩
      | some y=>
        rw[hd] at hxl
        exact⟨rfl,rfl,hxl⟩)
     refine⟨r,by rw[h1,h2,h3];rfl,?_⟩
     rw[h2]
     exact Sl.aa.weak hw (bO _ _)
end
section
open Sl aq gZ
def dG{α:Type}:Except Nat α->Nat
 | .ok _=>0
 | .error k=>k
def Ew:Except Nat (List Pr × List Bt)->List Pr
 | .ok x=>x.1
 | .error _=>[]
def Ex:Except Nat (List Pr × List Bt)->List Bt
 | .ok x=>x.2
 | .error _=>[]
def Ir:Nat->Part->Prop
 | 0,_=>True
 | d+1,p=>p.kind.length<=1000/\p.ps.length<=10/\(∀ q∈p.ps,q.1.length<=1000/\q.2.length<=1000)/\0<=p.code/\p.code<=2/\p.body.length<=4000/\p.parts.length<=5/\∀ q∈p.parts,Ir d q
structure TF (Qd:List aq.By->Except Nat (List aq.By)):Prop where
 bound:∀ (s:List Bt) (w:World),s.length<=1000->Calls Tryz.prog 134 [Z s].toArray w fun e w'=>e=.returned (.bool (cG s))/\Ext w w'
 split:∀ (s:ay) (bd:List Bt) (w:World),s.ok w->s.l.length<=100000->bd.length<=1000->Calls Tryz.prog 137 [s.v,Z bd].toArray w fun e w'=>∃ q:{ q:tK // q.ls=(de s.l bd).1 },e=.returned (.tuple #[q.1.v,N (de s.l bd).2])/\Ext w w'/\q.1.ok w'
 read:∀ (f:gm) (s:ay) (w:World),fz w->f.ok w->s.ok w->fX f->f.l.length<=60->s.l.length<=60000->(∀ p∈f.l,bY p.1 xC=true\/bY p.1 wT=true->p.2.length<=10000)->Calls Tryz.prog 31 [.agg #[f.v,s.v]].toArray w fun e w'=>∃ cs:{ cs:List Value // cs.length=5 },e=.returned (.tuple #[.agg cs.1.toArray,N (dG (dK Qd 8 f.l s.l))])/\Ext w w'/\∀ p,dK Qd 8 f.l s.l=.ok p->dJ 10 w' p cs.1
structure T9:Prop where
 write:∀ (Qe:List aq.By->List aq.By) (p:Part) (cs:List Value) (w:World),fz w->dJ 10 w p cs->Jk 9 p->Ir 10 p->Calls Tryz.prog 25 [.agg cs.toArray].toArray w fun e w'=>∃ x:{ x:gm × ay // x.1.l=Ew (cu Qe 8 p)/\x.2.l=Ex (cu Qe 8 p) },e=.returned (.tuple #[.agg #[x.1.1.v,x.1.2.v],N (dG (cu Qe 8 p))])/\Ext w w'/\(x.1.1.ok w'/\x.1.2.ok w')
theorem iL{n:Nat}{E:Env}{C:World->Prop}{dst:Option Tmp}{ty:TypeId}{pos:String}{aft:Array Edge}{g:Option (Nat × Bool)}:OQ Tryz.prog n E C ⟨dst,.build 29 #[],ty,pos,aft,g⟩ (.agg #[bV.v,aB.v]):=by
 refine OQ.run fun k hk w _=>?_
 have h3:=run_build (P:=Tryz.prog) w 29 #[] #[bV.v,aB.v] Y636
 simp[execOp,Sem.run_bind,h3]
end
section
open Sl aq
theorem yJ{e:TypeId}(q:Acc)(l:List Pr):aj (ew q l).an (dr e q l):=by
 cases q with
 | none=>exact .nil _
 | some p=>exact rH
theorem Gf{q:Acc}{l:List Pr}:(ew q l).ad=none->(ew q l).l=[]:=by
 cases q with
 | none=>intro _;rfl
 | some p=>nofun
theorem JC.perm{P:Program}{n:Nat}{w0:World}{S:List Nat}{Q:Exit->Act->World->Prop}{c:Code}{E:Env}{M M':List aL}(h:JC P n w0 S Q c E M')(hp:M.Perm M'):JC P n w0 S Q c E M:=⟨fun a w ha hw=>h.go a w ha (hw.perm' hp)⟩
theorem OQ.N7{P:Program}{n:Nat}{E:Env}{C:World->Prop}{dst:Option Tmp}{t ty e:TypeId}{pos:String}{aft:Array Edge}{g:Option (Nat × Bool)}{x:Operand}{q:Acc}{k:Nat}(hu:P.underlying t=some (.slice e))(hx:ev E x=some (aD q k))(hq:q=none->k=0):OQ P n E C ⟨dst,.call ⟨.builtin .len,#[x],#[t]⟩,ty,pos,aft,g⟩ (N k):=by
 cases q with
 | none=>rw[hq rfl];exact OQ.len hu hx
 | some r=>exact OQ.len hu hx
namespace aq
def Gg(m:List By)(p:Pr):List By:=if m.length<=65536 then m++ek p.1 p.2 else m
def QC(l:List Pr):List By:=l.foldl Gg []
def pq(l:List Pr):Bool:=l.all fun p=>mG p.1 p.2
def s7(l:List Pr):List By:=if pq l then QC l++[13,10] else []
def Mq(l:List Pr):Nat:=if pq l then 0 else 3
theorem Ar:∀ (l:List Pr) (m:List By),(m.length+(dg l).length<=65536->l.foldl Gg m=m++dg l)/\(65536<m.length+(dg l).length->65536<(l.foldl Gg m).length)
 | [],m=>⟨fun _=>by simp[dg],fun h=>by simpa [dg] using h⟩
 | p::l,m=>by
   obtain⟨i1,i2⟩:=Ar l (Gg m p)
   have e:(dg (p::l))=ek p.1 p.2++dg l:=by simp[dg]
   rw[e,List.length_append,List.foldl_cons]
   by_cases hm:m.length<=65536
   · have hs:Gg m p=m++ek p.1 p.2:=if_pos hm
     rw[hs,List.length_append] at i1 i2
     rw[hs]
     exact⟨fun h=>by rw[i1 Y609,List.append_assoc],fun h=>i2 Y609⟩
   · have hs:Gg m p=m:=if_neg hm
     rw[hs] at i1 i2
     rw[hs]
     exact⟨fun h=>by omega,fun h=>i2 Y609⟩
theorem yK(l:List Pr)(b:List By):bJ l b=if pq l then(if 200<l.length\/65536<(s7 l).length\/2097152<(s7 l).length+b.length then 4 else 0) else 3:=by
 have ha:(l.all fun p=>c8 p.1&&fC p.2)=pq l:=rfl
 unfold bJ
 rw[ha]
 cases hg:pq l
 · rfl
 · have ho:s7 l=QC l++[13,10]:=by rw[s7,hg];rfl
   rw[if_pos rfl,if_pos rfl,ho,List.length_append]
   obtain⟨i1,i2⟩:=Ar l []
   simp only[List.length_nil,Nat.zero_add,List.nil_append] at i1 i2
   have hk:l.foldl Gg []=QC l:=rfl
   rw[hk] at i1 i2
   by_cases hh:(dg l).length<=65536
   · rw[i1 hh]
     simp only[List.length_cons,List.length_nil]
   · have:=i2 Y609
     rw[if_pos (.inr (.inl Y609)),if_pos (.inr (.inl Y705))]
theorem Is{l:List Pr}{b:List By}(h:bJ l b=0):bt l b=s7 l++b:=by
 rw[bt,if_pos h]
 rw[yK] at h
 cases hg:pq l
 · rw[hg] at h;cases h
 · rw[hg,if_pos rfl] at h
   split at h
   · cases h
   · next hn=>
     have ho:s7 l=QC l++[13,10]:=by rw[s7,hg];rfl
     rw[ho,List.length_append] at hn
     rw[ho]
     obtain⟨i1,i2⟩:=Ar l []
     simp only[List.length_nil,Nat.zero_add,List.nil_append] at i1 i2
     have hk:l.foldl Gg []=QC l:=rfl
     rw[hk] at i1 i2
     by_cases hh:(dg l).length<=65536
     · rw[i1 hh]
     · have:=i2 Y609
       exact absurd (.inr (.inl Y705)) hn
theorem LA:∀ (l:List Pr) (m:List By),pq l=true->m.length<=100000->(l.foldl Gg m).length<=100000
 | [],_,_,h=>h
 | p::l,m,hg,h=>by
   have hg2:(mG p.1 p.2&&pq l)=true:=hg
   rw[Bool.and_eq_true] at hg2
   have hgp:c8 p.1=true/\fC p.2=true:=by simpa [mG] using hg2.1
   have l1:=rM hgp.1
   have l2:=vt hgp.2
   have l3:=x9 p.1 p.2
   rw[List.foldl_cons]
   refine LA l _ hg2.2 ?_
   unfold Gg
   split
   · rw[List.length_append];omega
   · exact h
theorem N8(l:List Pr):(s7 l).length<=100002:=by
 cases hg:pq l
 · rw[s7,hg];exact Nat.zero_le _
 · rw[s7,hg,if_pos rfl,List.length_append]
   have:=LA l [] hg (Nat.zero_le _)
   have hk:l.foldl Gg []=QC l:=rfl
   rw[hk] at this
   simp only[List.length_cons,List.length_nil]
   omega
theorem yL{l:List Pr}{b:List By}(h:bJ l b≠0):bt l b=[]:=by rw[bt,if_neg h]
end aq
theorem Ey:aJ Tryz.prog 33:=⟨_,Tryz.func33,rfl,by kernel_rfl⟩
structure Sy where
 i:Nat
 o:List Bt
 q:Acc
theorem It(f:gm)(w:World)(hf:f.ok w)(hz:fX f)(hl:f.l.length<=1000000):Calls Tryz.prog 33 [f.v].toArray w fun e w'=>∃ q:{ q:Acc // q=none->s7 f.l=[] },e=.returned (.tuple #[aD q.1 (s7 f.l).length,N (Mq f.l)])/\aa w [] (bw 5 q.1 ((s7 f.l).map U8)) w':=by
 refine enter (n:=32) Tryz.func33 rfl rfl rfl (aa.start w []) ?_
 refine Y158 ?_
 refine JC.loop (fun z:Sy=>[(4,aD z.q z.o.length),(9,f.v),(10,N f.l.length),(11,N z.i)]) (fun z=>bw 5 z.q (z.o.map U8)++[]) (fun z=>f.l.length-z.i) (fun z=>z.i<=f.l.length/\(z.q=none->z.o=[])/\z.o.length<=100000/\pq f.l=pq (f.l.drop z.i)/\QC f.l=(f.l.drop z.i).foldl Gg z.o) ⟨0,[],none⟩ ⟨Nat.zero_le _,fun _=>rfl,Nat.zero_le _,rfl,rfl⟩ Y640 (.nil _) ?_
 rintro⟨i,o,q⟩ ⟨hi,hq,ho,hg,hm⟩
 dsimp only at hi hq ho hg hm⊢
 refine Y22 ?_
 refine JC.cond rfl (fun h=>?_) (fun h=>?_)
 · have hi':i<f.l.length:=of_decide_eq_true h
   clear h hi
   obtain⟨ba,ja,eA,la,ca1,ca2⟩:=hf.at hi'
   have vA:f.v=.slice (some ⟨ba,ja,none⟩) f.l.length f.cap:=by rw[<- eA];rfl
   have cA:=pair_cells ca1 ca2
   have hDi:=hz _ (lF hi')
   rw[og hi'] at hg hm
   generalize f.l.getD i ([],[])=c at hg hm cA hDi
   obtain⟨n,v⟩:=c
   rw[List.foldl_cons] at hm
   have hg2:pq f.l=(mG n v&&pq (f.l.drop (i+1))):=hg
   clear hg
   rw[vA]
   repeat(first|refine JL.q (by first|exact Y388|(apply OQ.bE (cs:=pc (n,v));exact gG;rfl;exact bX;exact la;exact Y614;exact cA)) rfl ?_|refine Y90 ?_)
   refine JL.alloc NW rfl fun b8 _=>?_
   refine JL.ax (cs:=pc (n,v)) bX rfl rfl rfl rfl .here rfl ?_
   repeat(first|refine JL.q (by(apply OQ.aF (cs:=pc (n,v));exact gG;exact bX;rfl;exact .here;rfl;exact Row.all)) rfl ?_|refine Y133 ?_)
   refine JL.bD (vs:=[.agg (pc (n,v)).toArray]) (ι:={ x:ay // iP x (sP n v) }) (fun x=>.tuple #[x.1.v,N (codeF n v)]) (fun x=>x.1.an) DK rfl rfl (fun x=>x.1.bH) (fun w' _=>HK n v w' hDi.1 hDi.2) ?_
   rintro⟨x,hx1,hx2⟩
   dsimp only
   cases h1:mG n v
   · rw[h1] at hg2
     have hc:codeF n v=3:=by rw[codeF,h1];rfl
     have hO:s7 f.l=[]:=by rw[s7,hg2];rfl
     have hK:Mq f.l=3:=by rw[Mq,hg2];rfl
     have h0:decide (((3:Nat):Int)=0)=false:=rfl
     rw[hc,hO,hK]
     repeat(first|refine JL.q (by exact Y512) rfl ?_|refine Y6 ?_)
     refine Y246 ?_
     refine Y24 ?_
     refine Y247 ?_
     refine Y2 ?_
     exact JE.aV rfl (RV.tmp rfl) (RV.tmp rfl) fun w' hw=>⟨⟨none,fun _=>rfl⟩,rfl,Sl.aa.weak hw (.nil _)⟩
   · rw[h1,Bool.true_and] at hg2
     have hc:codeF n v=0:=by rw[codeF,h1];rfl
     have hR:sP n v=ek n v:=by rw[sP,h1];rfl
     have h0:decide (((0:Nat):Int)=0)=true:=rfl
     have hgp:c8 n=true/\fC v=true:=by simpa [mG] using h1
     have l1:=rM hgp.1
     have l2:=vt hgp.2
     have l3:=x9 n v
     rw[hR] at hx1
     rw[hc]
     cases h2:decide ((o.length:Int)<=65536)
     · have h2':=of_decide_eq_false h2
       have hs:Gg o (n,v)=o:=if_neg Y609
       rw[hs] at hm
       refine Y189 ?_
       refine Y245 ?_
       repeat(first|refine JL.q Y741 rfl ?_|refine Y68 ?_)
       refine Y245 ?_
       refine Y25 ?_
       rw[<- vA]
       exact JE.again (i:=Sy.mk i o q) (Sy.mk (i+1) o q) ⟨hi',hq,ho,hg2,hm⟩ Y661 Y640 (fU ((List.sublist_cons_self _ _).trans (List.sublist_append_right _ _)))
     · have h2':=of_decide_eq_true h2
       have hs:Gg o (n,v)=o++ek n v:=if_pos Y609
       rw[hs] at hm
       refine Y189 ?_
       refine Y245 ?_
       repeat(first|refine JL.q Y741 rfl ?_|refine Y68 ?_)
       refine Y246 ?_
       refine Y17 ?_
       refine JL.kC (M':=x.an++(bw 5 q (o.map U8)++[])) ?_ (K5 _)
       refine JL.perm ?_ (List.perm_append_comm_assoc _ _ _)
       refine JL.je (xs:=o.map U8) (cs:=x.l.map U8) (m:=x.l.length) (ad:=x.ad) (sc:=x.cap) q Tryz.underlying22 dV (fun h=>by rw[hq h];rfl) Y648 rfl Y684 (fun w' hw'=>(ay.bU (Sl.aa.weak hw' (fU (List.sublist_append_right _ _))) hx2).reads) (sG _) rfl (by rw[List.length_map,hx1];omega) (by rw[List.length_map,hx1];omega) rfl fun q' hq'=>?_
       refine Y18 ?_
       rw[<- vA,hx1,<- List.map_append]
       rw[hx1,<- List.map_append] at hq'
       rw[List.length_map]
       exact JE.again (i:=Sy.mk i o q) (Sy.mk (i+1) (o++ek n v) q') ⟨hi',fun h=>by simpa using hq' h,by dsimp only;rw[List.length_append];omega,hg2,hm⟩ Y661 Y640 (bI (.nil _) _)
 · have hi':¬ i<f.l.length:=of_decide_eq_false h
   clear h
   rw[List.drop_eq_nil_of_le Y609] at hg hm
   have hG:pq f.l=true:=hg
   have hO:s7 f.l=o++[13,10]:=by rw[s7,hG,if_pos rfl,hm];rfl
   have hK:Mq f.l=0:=by rw[Mq,hG];rfl
   rw[hO,hK]
   refine Y59 ?_
   refine JL.jB (r:=[13,10]) (xs:=o.map U8) q Tryz.underlying22 Tryz.underlying9 dV (fun h=>by rw[hq h];rfl) Y648 rfl Y610 (by rw[List.length_map];simp only[List.length_cons,List.length_nil];omega) rfl fun r=>?_
   rw[<- List.map_append,List.length_map]
   refine Y39 ?_
   refine Y247 ?_
   skip
   exact JE.aV rfl (RV.tmp rfl) (RV.tmp rfl) fun w' hw=>⟨⟨some r,nofun⟩,rfl,Sl.aa.weak hw (by rw[List.append_nil];exact aj.refl _)⟩
theorem nF(f:gm)(s:ay)(w:World)(hf:f.ok w)(hs:s.ok w)(hz:fX f)(hl:f.l.length<=1000000)(hl2:s.l.length<=4294967296):Calls Tryz.prog 15 [.agg #[f.v,s.v]].toArray w fun e w'=>∃ y:{ y:ay // iP y (bt f.l s.l) },e=.returned (.tuple #[y.1.v,N (bJ f.l s.l)])/\aa w [] y.1.an w':=by
 refine enter (n:=37) Tryz.func15 rfl rfl rfl (aa.start w []) ?_
 refine JC.seq (JC.region (JL.box (r:=[f.v,s.v]) rfl rfl rfl fun b1 _=>?_))
 repeat(first|refine JL.q (by exact Y514) rfl ?_|refine Y84 ?_)
 refine JL.bD (vs:=[f.v]) (ι:={ q:Acc // q=none->s7 f.l=[] }) (fun q=>.tuple #[aD q.1 (s7 f.l).length,N (Mq f.l)]) (fun q=>bw 5 q.1 ((s7 f.l).map U8)) Ey rfl rfl (fun q=>kz _ _ _) (fun w' hw'=>It f w' (hf.holds hw' rfl) hz hl) ?_
 rintro⟨q,hq⟩
 dsimp only at hq⊢
 have hwk:=yK f.l s.l
 cases hg:pq f.l
 · have hk:Mq f.l=3:=by rw[Mq,hg];rfl
   have hwr:bJ f.l s.l=3:=by rw[hwk,hg];rfl
   have hwo:=yL (l:=f.l) (b:=s.l) (by rw[hwr];decide)
   have h0:decide (((3:Nat):Int)=0)=false:=rfl
   rw[hk,hwr]
   repeat(first|refine JL.q (by exact Y512) rfl ?_|refine Y6 ?_)
   refine Y246 ?_
   refine Y24 ?_
   refine Y247 ?_
   refine Y250 ?_
   exact JE.aV rfl (RV.tmp rfl) (RV.tmp rfl) fun w' hw=>⟨⟨aB,⟨by rw[hwo];rfl,fun _=>rfl⟩⟩,rfl,hw.weak (.nil _)⟩
 · have hk:Mq f.l=0:=by rw[Mq,hg];rfl
   have h0:decide (((0:Nat):Int)=0)=true:=rfl
   have hO:=N8 f.l
   rw[hg,if_pos rfl] at hwk
   rw[hk]
   refine Y189 ?_
   refine Y245 ?_
   refine JC.perm (M':=[⟨b1,Row 29 [f.v,s.v],true⟩]++bw 5 q ((s7 f.l).map U8)) ?_ List.perm_append_comm
   cases h1:decide ((200:Int)<(f.l.length:Int)) <;> cases h2:decide ((65536:Int)<((s7 f.l).length:Int)) <;> cases h3:decide ((2097152:Int)<(((s7 f.l).length+s.l.length:Nat):Int))
   all_goals (repeat(first|refine JL.q (by first|exact Y514|exact Y515|exact Y386|exact Y406|exact Y513|exact Y516|exact Y517|exact Y518|exact Y330|exact Y331|exact Y323|exact Y337|exact Y377) rfl ?_|refine JC.seq ?_|refine JC.region ?_|refine JC.skip ?_|refine JL.nil ?_|refine JE.next ?_|refine JL.bG rfl rfl ?_|refine JL.aM rfl rfl rfl rfl ?_))
   all_goals refine JC.cond rfl (fun h=>?_) (fun h=>?_)
   all_goals first|(exfalso;revert h;decide)|skip
   all_goals clear h
   all_goals first
    | (have hwr:bJ f.l s.l=4:=by
        rw[hwk,if_pos]
        first
         | exact .inl Y663
         | exact .inr (.inl Y679)
         | exact .inr (.inr Y712)
       have hwo:=yL (l:=f.l) (b:=s.l) (by rw[hwr];decide)
       rw[hwr]
       (refine Y3 ?_)
       refine Y247 ?_
       (repeat(refine JE.ag ?_))
       exact JE.aV rfl (RV.tmp rfl) (RV.tmp rfl) fun w' hw=>⟨⟨aB,⟨by rw[hwo];rfl,fun _=>rfl⟩⟩,rfl,hw.weak (.nil _)⟩)
    | skip
   have hwr:bJ f.l s.l=0:=by
    rw[hwk,if_neg]
    have k1:=of_decide_eq_false h1
    have k2:=of_decide_eq_false h2
    have k3:=of_decide_eq_false h3
    omega
   have hwo:=Is (l:=f.l) (b:=s.l) hwr
   rw[hwr]
   repeat(first|refine JL.q (by exact Y515) rfl ?_|refine Y190 ?_)
   refine JL.perm (M':=bw 5 q ((s7 f.l).map U8)++[⟨b1,Row 29 [f.v,s.v],true⟩]) ?_ List.perm_append_comm
   refine JL.je (xs:=(s7 f.l).map U8) (cs:=s.l.map U8) (m:=s.l.length) (ad:=s.ad) (sc:=s.cap) q Tryz.underlying22 dV (fun h=>by rw[hq h];rfl) Y648 rfl Y684 (fun w' hw'=>(hs.holds hw' rfl).reads) (sG _) rfl Y649 Y649 rfl fun q' hq'=>?_
   rw[<- List.map_append] at hq'⊢
   rw[List.length_map]
   refine Y39 ?_
   refine Y247 ?_
   skip
   refine JE.aV rfl (RV.tmp rfl) (RV.tmp rfl) fun w' hw=>⟨⟨eO q' (s7 f.l++s.l),⟨?_,jN⟩⟩,?_,(Sl.aa.weak hw (bO _ _)).weak (iW _ _)⟩
   · rw[hwo];exact mb fun h=>by simpa using hq' h
   · dsimp only
     rw[iV]
     rfl
end
end Go.Proofs.YtdabhneehconeaaGreatDoor
