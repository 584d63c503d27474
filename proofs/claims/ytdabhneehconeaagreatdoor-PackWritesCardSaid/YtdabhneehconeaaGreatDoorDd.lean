/-
  Of no statement by itself: the texts FibA, FieR, Sle, FieX, FieG, MibE, PkA, PkB, MibP, LinB, LsB, MibB, Slf, Slfi, Slgr in one.
  Conditions: each theorem's own.
-/
import Derived.Test.YtdabhneehconeaaGreatDoorDc
import Derived.Laws.Cover3
import Derived.Shelf.Bytes.SlIndexAt
import Derived.Lib.BytesEntry
import Derived.RangeFuncWrites
import Derived.RangeFuncLeaves
import Derived.TacticsIn
import Derived.Shelf.Abstract
set_option linter.unusedSimpArgs false
set_option linter.unusedVariables false
set_option maxRecDepth 10000
set_option maxHeartbeats 16000000
open Go.Proofs.YtdabhneehconeaaGreatDoor.YY
namespace Go.Proofs.YtdabhneehconeaaGreatDoor
section
open Sl aq
theorem vo:aJ Tryz.prog 156:=⟨_,Tryz.func156,rfl,by kernel_rfl⟩
theorem kF:aJ Tryz.prog 237:=⟨_,Tryz.func237,rfl,by kernel_rfl⟩
theorem sO:aJ Tryz.prog 164:=⟨_,Tryz.func164,rfl,by kernel_rfl⟩
theorem BH:aJ Tryz.prog 110:=⟨_,Tryz.func110,rfl,by kernel_rfl⟩
theorem qn:aJ Tryz.prog 109:=⟨_,Tryz.func109,rfl,by kernel_rfl⟩
theorem OQ.Tm{P:Program}{n:Nat}{E:Env}{C:World->Prop}{dst:Option Tmp}{t t' ty:TypeId}{pos:String}{aft:Array Edge}{g:Option (Nat × Bool)}{x y:Operand}{a b:BitVec 8}(hx:ev E x=some (U8 a))(hy:ev E y=some (U8 b))(h:b.toNat<=a.toNat):OQ P n E C ⟨dst,.binOp .sub t x y t',ty,pos,aft,g⟩ (U8 (a-b)):=
 OQ.bin hx hy rfl fun _=>mE (k:=.u8) (show IntKind.u8.wrap ((a.toNat:Int)-b.toNat)=((a-b).toNat:Int) by
  rw[BitVec.toNat_sub_of_le Y668,<- Int.ofNat_sub h,A6,Nat.mod_eq_of_lt (by have:=a.isLt;omega)])
theorem BI(s:List Bt)(fv:Value)(p:Bt->Bool)(w:World)(hF:kP Tryz.prog w fv p)(hl:s.length<9223372036854775808):Calls Tryz.prog 156 [Z s,fv].toArray w fun e w'=>e=.returned (.bool (s.all p))/\Ext w w':=by
 refine enter (n:=18) Tryz.func156 rfl rfl rfl (aa.start w []) ?_
 refine Y21 ?_
 refine JC.loop (fun i:Nat=>[(0,Z s),(1,fv),(7,N s.length),(8,N i)]) (fun _=>[]) (fun i=>s.length-i) (fun i=>i<=s.length/\(s.take i).all p=true) 0 ⟨Nat.zero_le _,rfl⟩ Y640 (aj.refl _) ?_
 rintro i ⟨hi,ha⟩
 refine Y22 ?_
 refine JC.cond rfl (fun h=>?_) (fun h=>?_)
 · have hi':i<s.length:=of_decide_eq_true h
   clear h hi
   have hx:=eK p s 0 hi'
   have hbad:=gY p s 0 hi'
   rw[ha,Bool.true_and] at hx
   have i0:=fun {n:Nat} {E:Env} {C:World->Prop} {dst:Option Tmp} {ty:TypeId} {pos:String} {aft:Array Edge} {g:Option (Nat × Bool)} {x y:Operand}=>nq hi' (n:=n) (E:=E) (C:=C) (dst:=dst) (ty:=ty) (pos:=pos) (aft:=aft) (g:=g) (x:=x) (y:=y)
   generalize s.getD i 0=c at hx hbad i0
   cases h1:p c
   · rw[hbad h1]
     refine Y23 ?_
     refine Y246 ?_
     refine Y3 ?_
     refine Y247 ?_
     refine Y2 ?_
     exact Y248
   · refine Y23 ?_
     refine Y245 ?_
     refine Y25 ?_
     exact JE.again (i:=i) (i+1) ⟨hi',by rw[hx,h1]⟩ Y609 Y640 (aj.refl _)
 · have hi':¬ i<s.length:=of_decide_eq_false h
   obtain rfl:i=s.length:=by omega
   clear h hi hi'
   rw[List.take_length] at ha
   rw[ha]
   refine Y11 ?_
   refine Y247 ?_
   exact Y248
theorem Ni:∀ c:aq.By,wS c=((decide ((33:Int)<=(c.toNat:Int))&&decide ((c.toNat:Int)<=126))&&!decide (c=58)):=by
 have h:∀ c:Fin 256,wS (BitVec.ofNat 8 c.val)=((decide ((33:Int)<=((BitVec.ofNat 8 c.val).toNat:Int))&&decide (((BitVec.ofNat 8 c.val).toNat:Int)<=126))&&!decide (BitVec.ofNat 8 c.val=58)):=by decide +kernel
 intro c
 simpa using h ⟨c.toNat,c.isLt⟩
theorem Hf(c:Bt)(w:World):Calls Tryz.prog 157 [U8 c].toArray w fun e w'=>e=.returned (.bool (wS c))/\Ext w w':=by
 refine enter (n:=14) Tryz.func157 rfl rfl rfl (aa.start w []) ?_
 rw[Ni]
 cases h1:decide ((33:Int)<=(c.toNat:Int)) <;> cases h2:decide ((c.toNat:Int)<=126) <;> cases h3:decide (c=58)
 all_goals (repeat(first|refine JL.q (by first|exact Y327|exact Y328|(apply OQ.ru (l:=[58]) (i:=0);exact Tryz.underlying9;rfl;rfl;exact Y610)|(apply OQ.JW (b:=58);rfl;rfl;exact h3)) rfl ?_|refine JL.bG rfl rfl ?_|refine JL.aM rfl rfl rfl rfl ?_|refine Y12 ?_))
 all_goals exact JC.ret (JE.aK rfl (RV.tmp rfl) fun w' hw=>⟨rfl,hw.aH⟩)
theorem Hg(w:World):kP Tryz.prog w (.func (.func 157) #[] #[]) wS:=
 ⟨_,[],rfl,⟨_,Tryz.func157,rfl,by kernel_rfl⟩,fun c w' _=>Hf c w'⟩
theorem xZ(s:List Bt)(w:World)(hl:s.length<9223372036854775808):Calls Tryz.prog 108 [Z s].toArray w fun e w'=>e=.returned (.bool (c8 s))/\Ext w w':=by
 refine enter (n:=14) Tryz.func108 rfl rfl rfl (aa.start w []) ?_
 have hv:c8 s=((!decide (s=[])&&decide ((s.length:Int)<=64))&&s.all wS):=by
  unfold c8
  have e1:decide (1<=s.length)=!decide (s=[]):=by
   cases s <;> simp
  have e2:decide (s.length<=64)=decide ((s.length:Int)<=64):=decide_eq_decide.2 Y609
  rw[e1,e2]
  cases s.all wS <;> cases decide (s=[]) <;> cases decide ((s.length:Int)<=64) <;> rfl
 rw[hv]
 have cO:=fun w'=>BI s (.func (.func 157) #[] #[]) wS w' (Hg w') hl
 cases h1:decide (s=[]) <;> cases h2:decide ((s.length:Int)<=64) <;> cases h3:s.all wS
 all_goals (repeat(first|refine JL.q (by first|(apply OQ.lD (r:=[]);rfl;rfl;exact h1)|(apply OQ.fA (b:=64);rfl;rfl;exact h2)|(apply OQ.dB (vs:=[Z s,.func (.func 157) #[] #[]]);exact vo;rfl;exact cO;exact h3)) rfl ?_|refine JL.bG rfl rfl ?_|refine JL.aM rfl rfl rfl rfl ?_|refine Y26 ?_))
 all_goals exact JC.ret (JE.aK rfl (RV.tmp rfl) fun w' hw=>⟨rfl,hw.aH⟩)
theorem Fz:∀ c:aq.By,fB c=((decide ((32:Int)<=(c.toNat:Int))&&decide ((c.toNat:Int)<=126))||decide (c=9)):=by
 have h:∀ c:Fin 256,fB (BitVec.ofNat 8 c.val)=((decide ((32:Int)<=((BitVec.ofNat 8 c.val).toNat:Int))&&decide (((BitVec.ofNat 8 c.val).toNat:Int)<=126))||decide (BitVec.ofNat 8 c.val=9)):=by decide +kernel
 intro c
 simpa using h ⟨c.toNat,c.isLt⟩
theorem OQ.Tn{P:Program}{n:Nat}{E:Env}{C:World->Prop}{dst:Option Tmp}{t t' ty:TypeId}{pos:String}{aft:Array Edge}{g:Option (Nat × Bool)}{x y:Operand}{a b:BitVec 8}{c:Bool}(hx:ev E x=some (U8 a))(hy:ev E y=some (U8 b))(h:decide (a=b)=c):OQ P n E C ⟨dst,.binOp .eql t x y t',ty,pos,aft,g⟩ (.bool c):=h▸OQ.Pq hx hy
theorem DC(c:Bt)(w:World):Calls Tryz.prog 158 [U8 c].toArray w fun e w'=>e=.returned (.bool (fB c))/\Ext w w':=by
 refine enter (n:=13) Tryz.func158 rfl rfl rfl (aa.start w []) ?_
 rw[Fz]
 cases h1:decide ((32:Int)<=(c.toNat:Int)) <;> cases h2:decide ((c.toNat:Int)<=126) <;> cases h3:decide (c=9)
 all_goals (repeat(first|refine JL.q (by first|(apply OQ.dn (b:=32);rfl;rfl;exact h1)|exact Y328|(apply OQ.Tn (b:=9);rfl;rfl;exact h3)) rfl ?_|refine JL.bG rfl rfl ?_|refine JL.aM rfl rfl rfl rfl ?_|refine Y12 ?_))
 all_goals exact JC.ret (JE.aK rfl (RV.tmp rfl) fun w' hw=>⟨rfl,hw.aH⟩)
theorem DD(w:World):kP Tryz.prog w (.func (.func 158) #[] #[]) fB:=
 ⟨_,[],rfl,⟨_,Tryz.func158,rfl,by kernel_rfl⟩,fun c w' _=>DC c w'⟩
theorem vp(s:List Bt)(w:World):Calls Tryz.prog 109 [Z s].toArray w fun e w'=>e=.returned (.bool (fC s))/\Ext w w':=by
 refine enter (n:=16) Tryz.func109 rfl rfl rfl (aa.start w []) ?_
 have hv:fC s=((decide ((s.length:Int)<=8192)&&decide (s=trim s))&&s.all fB):=by
  rw[Fp,Bool.and_assoc]
  congr 1
  exact Y255
 rw[hv]
 cases h1:decide ((s.length:Int)<=8192)
 · cases h3:s.all fB
   all_goals (repeat(first|refine JL.q (by(apply OQ.fA (b:=8192);rfl;rfl;exact h1)) rfl ?_|refine JL.aM rfl rfl rfl rfl ?_|refine Y40 ?_))
   all_goals exact JC.ret (JE.aK rfl (RV.tmp rfl) fun w' hw=>⟨rfl,hw.aH⟩)
 · have hl:s.length<9223372036854775808:=by have:=of_decide_eq_true h1;omega
   have cO:=fun w'=>BI s (.func (.func 158) #[] #[]) fB w' (DD w') hl
   have cT:=fun w'=>lE s w' hl
   cases h2:decide (s=trim s) <;> cases h3:s.all fB
   all_goals (repeat(first|refine JL.q (by first|(apply OQ.fA (b:=8192);rfl;rfl;exact h1)|(apply OQ.ai (vs:=[Z s,Z [32,9]]);exact ig;rfl;exact(fun w' _=>cT w'))|exact Y345|(apply OQ.dB (vs:=[Z s,.func (.func 158) #[] #[]]);exact vo;rfl;exact cO;exact h3)) rfl ?_|refine JL.bG rfl rfl ?_|refine JL.aM rfl rfl rfl rfl ?_|refine Y26 ?_))
   all_goals exact JC.ret (JE.aK rfl (RV.tmp rfl) fun w' hw=>⟨rfl,hw.aH⟩)
theorem Hh:∀ c:aq.By,65<=c.toNat->c.toNat<=90->c-65+97=small c:=by
 have h:∀ c:Fin 256,65<=(BitVec.ofNat 8 c.val).toNat->(BitVec.ofNat 8 c.val).toNat<=90->BitVec.ofNat 8 c.val-65+97=small (BitVec.ofNat 8 c.val):=by decide +kernel
 intro c
 simpa using h ⟨c.toNat,c.isLt⟩
theorem mh(c:Bt)(w:World):Calls Tryz.prog 237 [U8 c].toArray w fun e w'=>e=.returned (U8 (small c))/\Ext w w':=by
 refine enter (n:=13) Tryz.func237 rfl rfl rfl (aa.start w []) ?_
 by_cases hb:65<=c.toNat/\c.toNat<=90
 · have h1:decide ((65:Int)<=(c.toNat:Int))=true:=decide_eq_true Y609
   have h2:decide ((c.toNat:Int)<=90)=true:=decide_eq_true Y609
   repeat(first|refine JL.q (by first|exact Y334|exact Y335) rfl ?_|refine JL.bG rfl rfl ?_|refine Y79 ?_)
   refine Y246 ?_
   repeat(first|refine JL.q (by first|(apply OQ.Tm (b:=65);rfl;rfl;exact hb.1)|(apply OQ.RF (b:=97);rfl;rfl)) rfl ?_|refine Y0 ?_)
   refine Y247 ?_
   refine Y250 ?_
   exact JE.aK rfl (RV.tmp rfl) fun w' hw=>⟨by rw[Hh c hb.1 hb.2],hw.aH⟩
 · have hs:small c=c:=if_neg hb
   rw[hs]
   cases h1:decide ((65:Int)<=(c.toNat:Int)) <;> cases h2:decide ((c.toNat:Int)<=90)
   all_goals try (exfalso;have:=of_decide_eq_true h1;have:=of_decide_eq_true h2;omega)
   all_goals (repeat(first|refine JL.q (by first|exact Y334|exact Y335) rfl ?_|refine JL.bG rfl rfl ?_|refine JL.aM rfl rfl rfl rfl ?_|refine Y12 ?_))
   all_goals refine JC.cond rfl (fun h=>by cases h) (fun _=>?_)
   all_goals (refine Y5 ?_)
   all_goals exact JC.ret (JE.aK rfl (RV.tmp rfl) fun w' hw=>⟨rfl,hw.aH⟩)
theorem x6(a b:List aq.By)(w:World)(hl:a.length<9223372036854775808):Calls Tryz.prog 199 [Z a,Z b].toArray w fun e w'=>e=.returned (.bool (bY a b))/\Ext w w':=by
 refine enter (n:=26) Tryz.func199 rfl rfl rfl (aa.start w []) ?_
 cases h0:decide ((a.length:Int)=(b.length:Int))
 · have hne:bY a b=false:=decide_eq_false fun h=>by
    have:=congrArg List.length h
    simp only[List.length_map] at this
    exact of_decide_eq_false h0 Y609
   rw[hne]
   repeat(first|refine JL.q Y669 rfl ?_|refine Y80 ?_)
   refine Y246 ?_
   refine Y3 ?_
   refine Y247 ?_
   refine Y250 ?_
   exact Y248
 · have hab:a.length=b.length:=by have:=of_decide_eq_true h0;omega
   repeat(first|refine JL.q Y669 rfl ?_|refine Y80 ?_)
   refine Y245 ?_
   repeat(first|refine JL.q (by first|exact Y322|exact Y323) rfl ?_|refine JC.seq ?_|refine JC.region ?_|refine JC.block ?_|refine JC.skip ?_|refine JL.nil ?_|refine JE.next ?_)
   refine JC.loop (fun i:Nat=>[(0,Z a),(1,Z b),(12,N a.length),(13,N i)]) (fun _=>[]) (fun i=>a.length-i) (fun i=>i<=a.length/\(a.take i).map small=(b.take i).map small) 0 ⟨Nat.zero_le _,rfl⟩ Y640 (aj.refl _) ?_
   rintro i ⟨hi,ha⟩
   refine Y22 ?_
   refine JC.cond rfl (fun h=>?_) (fun h=>?_)
   · have hi':i<a.length:=of_decide_eq_true h
     have hi2:i<b.length:=by omega
     clear h hi
     have hx:=BG a b hi' hi2 ha
     have hbad:=He a b hi' hi2
     have i0:=fun {n:Nat} {E:Env} {C:World->Prop} {dst:Option Tmp} {ty:TypeId} {pos:String} {aft:Array Edge} {g:Option (Nat × Bool)} {x y:Operand}=>nq hi' (n:=n) (E:=E) (C:=C) (dst:=dst) (ty:=ty) (pos:=pos) (aft:=aft) (g:=g) (x:=x) (y:=y)
     have i1:=fun {n:Nat} {E:Env} {C:World->Prop} {dst:Option Tmp} {ty:TypeId} {pos:String} {aft:Array Edge} {g:Option (Nat × Bool)} {x y:Operand}=>nq hi2 (n:=n) (E:=E) (C:=C) (dst:=dst) (ty:=ty) (pos:=pos) (aft:=aft) (g:=g) (x:=x) (y:=y)
     generalize a.getD i 0=c at hx hbad i0
     generalize b.getD i 0=d at hx hbad i1
     cases h1:decide (small c=small d)
     · rw[hbad (of_decide_eq_false h1)]
       refine Y81 ?_
       refine Y267 ?_
       repeat(first|refine JQ.q Y670 rfl ?_|refine JQ.nil ?_|refine JE.next ?_)
       refine Y246 ?_
       refine Y3 ?_
       refine Y247 ?_
       refine Y2 ?_
       exact Y248
     · refine Y81 ?_
       refine Y267 ?_
       repeat(first|refine JQ.q Y670 rfl ?_|refine JQ.nil ?_|refine JE.next ?_)
       refine Y245 ?_
       refine Y25 ?_
       exact Y268
   · have hi':¬ i<a.length:=of_decide_eq_false h
     obtain rfl:i=a.length:=by omega
     clear h hi hi'
     rw[List.take_length,List.take_of_length_le Y609] at ha
     rw[show bY a b=true from decide_eq_true ha]
     refine Y11 ?_
     refine Y247 ?_
     exact Y248
theorem Kk:∀ c:aq.By,decide ((0:Int)<=kO c [32,9])=bl c:=by
 have h:∀ c:Fin 256,decide ((0:Int)<=kO (BitVec.ofNat 8 c.val) [32,9])=bl (BitVec.ofNat 8 c.val):=by decide +kernel
 intro c
 simpa using h ⟨c.toNat,c.isLt⟩
theorem DE(c:Bt)(w:World):Calls Tryz.prog 164 [U8 c].toArray w fun e w'=>e=.returned (.bool (bl c))/\Ext w w':=by
 refine enter (n:=6) Tryz.func164 rfl rfl rfl (aa.start w []) ?_
 repeat(first|refine JL.q (by first|(apply OQ.ai (vs:=[Z [32,9],U8 c]);exact nW;rfl;exact(fun w' _=>qa [32,9] c w'))|(apply OQ.dn (b:=0);rfl;rfl;exact(Kk c))) rfl ?_|refine Y0 ?_)
 exact Y244
theorem PK{s:List aq.By}(h:fb s<s.length):RG s=(fb s:Nat):=if_pos h
theorem PM{s:List aq.By}(h:¬ fb s<s.length):RG s=-1:=if_neg h
theorem DF(s:List Bt)(w:World)(hl:s.length<4294967281)(hs:∀ c∈s,c.toNat<128):Calls Tryz.prog 110 [Z s].toArray w fun e w'=>e=.returned (N (m8 s))/\Ext w w':=by
 refine enter (n:=20) Tryz.func110 rfl rfl rfl (aa.start w []) ?_
 have hll:=jK s
 have cT:=fun w'=>jM s w'
 have cI:=fun w'=>GQ (aO s) w' Y609 (fun c hc=>hs c ((List.dropWhile_sublist _).subset hc))
 by_cases h:fb (aO s)<(aO s).length
 · rw[PK h] at cI
   have hp:m8 s=s.length-(aO s).length+fb (aO s):=rfl
   have hfl:fb (aO s)<=(aO s).length:=by omega
   rw[hp]
   generalize fb (aO s)=k at cI hfl⊢
   generalize aO s=t at cT cI hll hfl⊢
   repeat(first|refine JL.q (by first|exact Y384|exact Y385|(apply OQ.MN;rfl;rfl)|exact Y323|exact Y324) rfl ?_|refine JC.seq ?_|refine JC.region ?_|refine JL.nil ?_|refine JE.next ?_)
   refine Y249 ?_
   repeat(first|refine JL.q (by first|exact Y322|exact Y323|exact Y324|exact Y337|exact Y338) rfl ?_|refine JC.seq ?_|refine JC.region ?_|refine JL.nil ?_|refine JE.next ?_)
   refine Y247 ?_
   refine Y250 ?_
   exact Y248
 · rw[PM h] at cI
   have hp:m8 s=s.length:=by
    have:=OE (aO s)
    unfold m8
    omega
   rw[hp]
   generalize aO s=t at cT cI⊢
   repeat(first|refine JL.q (by first|exact Y384|exact Y385|exact Y325) rfl ?_|refine Y0 ?_)
   refine Y245 ?_
   repeat refine Y43 ?_
   refine Y247 ?_
   exact Y248
theorem Kl:Tk Tryz.prog 65:=Pw (str:=9) Y636 Y636 Y636 Y636 Y636 Y636
theorem gG:kM Tryz.prog 65=true:=by kernel_rfl
theorem bX:gX Tryz.prog 65=some 2:=by kernel_rfl
theorem DG(a b:gm)(w:World)(ha:a.ok w)(hb:b.ok w)(hl:a.l.length<9223372036854775808)(hl2:b.l.length<9223372036854775808):Calls Tryz.prog 10 [a.v,b.v].toArray w fun e w'=>e=.returned (.bool (decide (a.l=b.l)))/\Ext w w':=by
 refine enter (n:=26) Tryz.func10 rfl rfl rfl (aa.start w []) ?_
 cases h0:decide ((a.l.length:Int)=(b.l.length:Int))
 · rw[show decide (a.l=b.l)=false from decide_eq_false fun h=>of_decide_eq_false h0 (by rw[h])]
   repeat(first|refine JL.q Y669 rfl ?_|refine Y82 ?_)
   refine Y246 ?_
   refine Y3 ?_
   refine Y247 ?_
   refine Y250 ?_
   exact Y248
 · have hab:a.l.length=b.l.length:=by have:=of_decide_eq_true h0;omega
   repeat(first|refine JL.q Y669 rfl ?_|refine Y82 ?_)
   refine Y245 ?_
   refine Y76 ?_
   refine JC.loop (fun i:Nat=>[(0,a.v),(1,b.v),(5,N i)]) (fun _=>[]) (fun i=>a.l.length-i) (fun i=>i<=a.l.length/\a.l.take i=b.l.take i) 0 ⟨Nat.zero_le _,rfl⟩ Y640 (aj.refl _) ?_
   rintro i ⟨hi,ht⟩
   repeat(first|refine JL.q (by first|exact Y386|exact Y323|exact Y387) rfl ?_|refine JC.seq ?_|refine JC.region ?_|refine JL.nil ?_|refine JE.next ?_)
   refine JC.cond rfl (fun h=>?_) (fun h=>?_)
   · have hi':i<a.l.length:=of_decide_eq_true h
     have hi2:i<b.l.length:=by omega
     clear h hi
     have hx:=M3 hi' hi2 ht
     have hbad:¬ a.l.getD i ([],[])=b.l.getD i ([],[])->¬ a.l=b.l:=fun h e=>h (by rw[e])
     obtain⟨ba,ja,eA,la,ca1,ca2⟩:=ha.at hi'
     obtain⟨bb,jb,eB,lb,cb1,cb2⟩:=hb.at hi2
     have vA:a.v=.slice (some ⟨ba,ja,none⟩) a.l.length a.cap:=by rw[<- eA];rfl
     have vB:b.v=.slice (some ⟨bb,jb,none⟩) b.l.length b.cap:=by rw[<- eB];rfl
     have cA:=pair_cells ca1 ca2
     have cB:=pair_cells cb1 cb2
     generalize a.l.getD i ([],[])=p at hx hbad cA
     generalize b.l.getD i ([],[])=q at hx hbad cB
     cases h1:decide (p=q)
     · rw[show decide (a.l=b.l)=false from decide_eq_false (hbad (of_decide_eq_false h1)),vA,vB]
       refine Y75 ?_
       refine Y267 ?_
       repeat(first|refine JQ.q Y671 rfl ?_|refine JQ.nil ?_|refine JE.next ?_)
       refine Y246 ?_
       refine Y3 ?_
       refine Y247 ?_
       refine Y2 ?_
       exact Y248
     · rw[vA,vB]
       refine Y75 ?_
       refine Y267 ?_
       repeat(first|refine JQ.q Y671 rfl ?_|refine JQ.nil ?_|refine JE.next ?_)
       refine Y245 ?_
       rw[<- vA,<- vB]
       refine Y10 ?_
       exact Y268
   · have hi':¬ i<a.l.length:=of_decide_eq_false h
     obtain rfl:i=a.l.length:=by omega
     clear h hi hi'
     rw[List.take_length,List.take_of_length_le Y609] at ht
     rw[show decide (a.l=b.l)=true from decide_eq_true ht]
     refine Y11 ?_
     refine Y247 ?_
     exact Y248
end
section
namespace Sl
def dM(e:TypeId)(n cap:Nat)(xs:List Value):Obj->Prop:=fun o=>∃ (sp:List Value) (fr:Nat × Nat),o=.cells (xs++sp).toArray e fr/\(cap<=fr.1\/fr.2=0)/\(xs++sp).length=cap/\xs.length=n/\n<=cap
theorem dM.cells{e:TypeId}{n cap:Nat}{xs:List Value}:∀ o,dM e n cap xs o->dy o 0 xs:=by
 rintro o ⟨sp,fr,rfl,_⟩
 exact Y237
theorem x7{e:TypeId}{b n cap:Nat}{Y:List Bt}(hn:Y.length=n):aj (ay.an ⟨some ⟨b,0,none⟩,cap,Y⟩) [⟨b,dM e n cap (Y.map U8),true⟩]:=
 .keep _ _ _ _ _ _ (fun o h=>⟨dM.cells o h,by obtain⟨_,_,_,_,_,_,h4⟩:=h;rw[hn];exact h4,rfl⟩) (.nil _)
theorem FA{w0 w:World}{S:List Nat}{M:List aL}{b k cap:Nat}{e:TypeId}{l:List Bt}{wr:Bool}(hw:aa w0 S M w)(hM:Has M b (dM e k cap (l.map U8)) wr):ay.ok w ⟨some ⟨b,0,none⟩,cap,l⟩:=by
 obtain⟨o,ho,hA⟩:=hw.get hM
 have hh:=dM.cells _ hA
 obtain⟨sp,fr,rfl,_,h2,h3,h4⟩:=hA
 simp only[List.length_map] at h3
 exact Y241
section
variable {P:Program} {t tx e:TypeId}
theorem DH{w:World}{b j:Nat}{v:Value}{c:Array Value}{e:TypeId}{fr:Nat × Nat}(hv:v.oneCell'=true)(ho:w.heap[b]?=some (.cells c e fr))(hf:c.size<=fr.1\/fr.2=0)(hj:j<c.size) :
  (Go.store ⟨b,j,none⟩ v).run P w=.ok () (w.setCell ⟨b,j,none⟩ v):=by
 have hc:w.cell? ⟨b,j,none⟩=some c[j]:=by simp[World.cell?,ho,hj]
 have hf:w.frozen? ⟨b,j,none⟩=false:=by
  obtain⟨lo,hi⟩:=fr
  simp only[World.frozen?,ho,Bool.and_eq_false_iff,decide_eq_false_iff_not]
  simp only at hf
  omega
 cases v <;> simp_all [Go.store,Sem.run,Value.oneCell']
theorem mF{b j:Nat}{e:TypeId}{fr:Nat × Nat}:∀ (vs:List Value) (i:Nat) (w:World) (c:List Value),(∀ v∈vs,v.oneCell'=true)->w.heap[b]?=some (.cells c.toArray e fr)->c.length<=fr.1\/fr.2=0->j+i+vs.length<=c.length->
  ∃ w',(storeCells ⟨b,j,none⟩ vs i).run P w=.ok () w'/\w'.heap[b]?=some (.cells (c.take (j+i)++vs++c.drop (j+i+vs.length)).toArray e fr)/\w'.heap.size=w.heap.size/\
    (∀ k,k≠b->w'.heap[k]?=w.heap[k]?)/\w'.os=w.os/\w'.tape=w.tape/\w'.output=w.output
 | [],i,w,c,_,ho,_,_=>⟨w,rfl,by simpa using ho,rfl,fun _ _=>rfl,rfl,rfl,rfl⟩
 | v::vs,i,w,c,h1,ho,hf,hl=>by
   simp only[List.length_cons] at hl
   obtain⟨w',r1,r2,r3,r4,r5,r6,r7⟩:=mF (j:=j) (e:=e) (fr:=fr) vs (i+1) (w.setCell ⟨b,j+i,none⟩ v) (c.set (j+i) v) (fun u hu=>h1 u (by simp[hu])) (by
    rw[jv ho];simp) (by simpa using hf) Y624
   refine⟨w',?_,?_,r3.trans jw,fun k hk=>(r4 k hk).trans (jd hk),r5,r6,r7⟩
   · simp only[storeCells,Sem.run_bind,dH]
     rw[DH (h1 v Y614) ho (by simpa using hf) Y624]
     exact r1
   · rw[r2]
     congr 3
     rw[List.take_set,List.drop_set,if_pos Y609]
     rw[show j+(i+1)=j+i+1 by omega,List.take_add_one]
     simp only[List.getElem?_eq_getElem (show j+i<c.length by omega),Option.toList_some,List.length_cons]
     rw[List.set_append_right _ _ Y625]
     simp[List.length_take,Nat.min_eq_left (show j+i<=c.length by omega),Nat.add_assoc,Nat.add_comm,Nat.add_left_comm]
theorem zU{w:World}{ty:TypeId}{i:TypeInfo}(ht:P.underlying t=some (.slice e))(hi:P.info? e=some i)(hs1:i.size=1){b k cap m:Nat}{x:Value}{news cur:List Value}{fr:Nat × Nat}(hs:Src P 1 tx x m news w)
  (hg:w.heap[b]?=some (.cells cur.toArray e fr)) (hf:cur.length<=fr.1\/fr.2=0) (hroom:k+m<=cap) (hfit:k+news.length<=cur.length) :
  ∃ w',(Builtin.append_ #[t,tx] ty #[.slice (some ⟨b,0,none⟩) k cap,x]).run P w=.ok (.slice (some ⟨b,0,none⟩) (k+m) cap) w'/\w'.heap[b]?=some (.cells (cur.take k++news++cur.drop (k+news.length)).toArray e fr)/\w'.heap.size=w.heap.size/\
    (∀ q,q≠b->w'.heap[q]?=w.heap[q]?)/\w'.os=w.os/\w'.tape=w.tape/\w'.output=w.output:=by
 obtain⟨w',r1,r2,r3,r4,r5,r6,r7⟩:=mF (P:=P) (b:=b) (j:=k) (e:=e) (fr:=fr) news 0 w cur hs.one hg hf Y609
 simp only[Nat.add_zero] at r2
 refine⟨w',?_,r2,r3,r4,r5,r6,r7⟩
 have hc:=hs.cells
 rcases hs.kind with⟨e',hk⟩|hk <;> simp[Builtin.append_,run_underlying ht,run_underlying hk,sizeOf,typeInfo,hi,hs1,hs.len,hroom,hc,dH,r1]
variable {n:Nat} {w0:World} {S:List Nat} {ops:Array Oper} {Q:Exit->Act->World->Prop} {l:List Oper} {E:Env} {M:List aL} {d b:Nat} {ty:TypeId} {pos:String} {aft:Array Edge} {x y:Operand}
theorem JL.iH{k cap m:Nat}{v:Value}{xs news:List Value}(M':Nat->Nat->List aL)(hu:P.underlying t=some (.slice e))(hi:EI P e (.int .u8 0) 1 1)(hx:ev E x=some (.slice (some ⟨b,0,none⟩) k cap))(hy:ev E y=some v)
  (hs:∀ w,aa w0 S M w->Src P 1 tx v m news w) (hup:∀ b' cap',aR M b (dM e k cap xs) b' (dM e (k+m) cap' (xs++news)) (M' b' cap'))
  (hsm:(k+m)<=140737488355328) (hd:Nat.blt d n=true)
  (kk:∀ b' cap',JL P n w0 S ops Q l ((d,.slice (some ⟨b',0,none⟩) (k+m) cap')::E) (M' b' cap')):JL P n w0 S ops Q (⟨some d,.call ⟨.builtin .append,#[x,y],#[t,tx]⟩,ty,pos,aft,none⟩::l) E M:=
 ⟨fun a w ha hw=>wpList_plain rfl fun K hK=>by
  obtain⟨i,hi1,hi2,hi3,hi4⟩:=hi.get
  obtain⟨o,ho,sp,fr,rfl,hfr,hc1,hc2,hc3⟩:=hw.get (hup 0 0).has
  have hsrc:=hs w hw
  have hnl:news.length=m:=by have:=hsrc.newsLen;omega
  unfold Oper.wp
  simp only[execOp,resolve,invoke,builtin,Sem.run_bind,Sem.run_pure,Result.andThen_ok,List.map_toArray,List.map_cons,List.map_nil,ha.eval hx,ha.eval hy]
  by_cases hroom:k+m<=cap
  · obtain⟨w',r1,r2,r3,r4,r5,r6,r7⟩:=zU (ty:=ty) hu hi1 hi3 hsrc ho (by rw[hc1];exact hfr) hroom (by rw[hc1,hnl];exact hroom)
    rw[r1]
    refine hK _ _ ((kk b cap).go _ _ (ha.put d _ hd) (hw.write (hup b cap).Rz (o':=.cells ((xs++sp).take k++news++(xs++sp).drop (k+news.length)).toArray e fr) ?_ r2 r3 r4 r5 r6 r7))
    subst hc2
    rw[List.take_left]
    refine⟨(xs++sp).drop (xs.length+news.length),fr,rfl,hfr,?_,by rw[List.length_append,hnl],hroom⟩
    simp only[List.length_append,List.length_drop] at hc1⊢
    omega
  · have hold:∀ u v,xs[u]?=some v->w.cell? ((⟨b,0,none⟩:Addr).add u)=some v:=fun u v hv=>by
     rw[dH]
     have hu':u<xs.length:=(List.getElem?_eq_some_iff.1 hv).1
     exact Y238
    have hfit:=growslice_fits (need:=k+m) (old:=cap) (bytes:=1) Y609 Y609
    have hfo:=run_firstCells_some (P:=P) w.drew i.size k ⟨b,0,none⟩ k cap xs (by rw[hc2,hi3,Nat.mul_one]) (by simpa using hold)
    rw[run_append_grow_src w t tx ty e i (.int .u8 0) hu hi1 hi2 (some ⟨b,0,none⟩) k cap xs hfo v m news (by rw[hi3];exact hsrc) Y609 Y609 Y628]
    have hge:=grownCap_ge w (k+m) cap e
    generalize grownCap w (k+m) cap e=nc at hge
    refine hK _ _ ((kk w.heap.size nc).go _ _ (ha.put d _ hd) (hw.renew (.cells ((xs++news).toArray++Builtin.zeroCells (Value.int .u8 0).cells (nc-(k+m))) e) (hup _ _) ?_ rfl rfl rfl rfl))
    have h8:(Builtin.zeroCells (Value.int .u8 0).cells (nc-(k+m))).size=(nc-(k+m)):=by
     rw[show(Value.int .u8 0).cells=#[Value.int .u8 0] from rfl];simp[Builtin.zeroCells]
    refine⟨(Builtin.zeroCells (Value.int .u8 0).cells (nc-(k+m))).toList,(0,0),by simp,.inr rfl,?_,by rw[List.length_append,hc2,hnl],hge⟩
    simp only[List.length_append,Array.length_toList,h8,hc2,hnl]
    omega⟩
theorem x8{w:World}{ad:Option Addr}{m sc:Nat}{cs:List Value}(hu:P.underlying tx=some (.slice e))(hl:cs.length=m)(hr:Reads w ad cs)(h1:∀ v∈cs,v.oneCell'=true):Src P 1 tx (.slice ad m sc) m cs w:=by
 by_cases h0:m=0
 · subst h0
   obtain rfl:cs=[]:=List.eq_nil_of_length_eq_zero hl
   cases ad with
   | none=>exact Src.ofNil w hu sc
   | some a=>exact Src.ofSlice w hu a 0 sc [] rfl (fun j u h=>by simp at h) (fun u h=>by cases h)
 · obtain⟨b2,j2,rfl,hcell⟩:=hr.at Y609
   exact Src.ofSlice w hu ⟨b2,j2,none⟩ m sc cs Y609 (fun u v hv=>by rw[dH];exact hcell u v hv) h1
theorem jC{w:World}{r:List Bt}(hk:P.underlying tx=some .string):Src P 1 tx (Z r) r.length (r.map U8) w:=by
 have:=Src.ofString (P:=P) w hk (bP r)
 rw[iG,cj] at this
 exact this
theorem JL.ji{t ty ty':TypeId}{v:Value}{k cap d1 d2:Nat}{pos pos':String}{aft aft':Array Edge}{xs:List Value}{x y:Operand}
  (M':Nat->Nat->List aL) (hu:P.underlying t=some (.slice e)) (hi:EI P e (.int .u8 0) 1 1) (hx:ev E x=some v) (hv:v.cells=#[v]) (h1:v.oneCell'=true)
  (ha:∀ bl,ev ((d1,.slice (some ⟨bl,0,none⟩) 1 1)::E) y=some (.slice (some ⟨b,0,none⟩) k cap)) (hup:∀ b' cap',aR M b (dM e k cap xs) b' (dM e (k+1) cap' (xs++[v])) (M' b' cap'))
  (hsm:k+1<=140737488355328) (hd1:Nat.blt d1 n=true) (hd2:Nat.blt d2 n=true)
  (kk:∀ bl b' cap',JL P n w0 S ops Q l ((d2,.slice (some ⟨b',0,none⟩) (k+1) cap')::(d1,.slice (some ⟨bl,0,none⟩) 1 1)::E) (M' b' cap')) :
  JL P n w0 S ops Q (⟨some d1,.buildSlice t 1 #[(0,x)],ty,pos,aft,none⟩::⟨some d2,.call ⟨.builtin .append,#[y,.tmp d1],#[t,t]⟩,ty',pos',aft',none⟩::l) E M:=by
 refine JL.q9 hu hi rfl hx hv hd1 fun bl _=>?_
 refine JL.iH (news:=[v]) (m:=1) (v:=.slice (some ⟨bl,0,none⟩) 1 1) (fun b' cap'=>⟨bl,Row e [v],true⟩::M' b' cap') hu hi (ha bl) Y630 (fun w hw=>x8 hu rfl ?_ (by simpa using h1)) (fun b' cap'=>.there (hup b' cap')) hsm hd2 fun b' cap'=>?_
 · obtain⟨o,ho,hA⟩:=hw.get (b:=bl) (A:=Row e [v]) (wr:=true) .here
   exact Y242
 · exact Y243
theorem JL.DI{t ty ty':TypeId}{v1 v2:Value}{k cap d1 d2:Nat}{pos pos':String}{aft aft':Array Edge}{xs:List Value}{x1 x2 y:Operand}
  (M':Nat->Nat->List aL) (hu:P.underlying t=some (.slice e)) (hi:EI P e (.int .u8 0) 1 1) (hx1:ev E x1=some v1) (hx2:ev E x2=some v2) (hv1:v1.cells=#[v1]) (hv2:v2.cells=#[v2]) (h1:v1.oneCell'=true) (h2:v2.oneCell'=true)
  (ha:∀ bl,ev ((d1,.slice (some ⟨bl,0,none⟩) 2 2)::E) y=some (.slice (some ⟨b,0,none⟩) k cap)) (hup:∀ b' cap',aR M b (dM e k cap xs) b' (dM e (k+2) cap' (xs++[v1,v2])) (M' b' cap'))
  (hsm:k+2<=140737488355328) (hd1:Nat.blt d1 n=true) (hd2:Nat.blt d2 n=true)
  (kk:∀ bl b' cap',JL P n w0 S ops Q l ((d2,.slice (some ⟨b',0,none⟩) (k+2) cap')::(d1,.slice (some ⟨bl,0,none⟩) 2 2)::E) (M' b' cap')) :
  JL P n w0 S ops Q (⟨some d1,.buildSlice t 2 #[(0,x1),(1,x2)],ty,pos,aft,none⟩::⟨some d2,.call ⟨.builtin .append,#[y,.tmp d1],#[t,t]⟩,ty',pos',aft',none⟩::l) E M:=by
 refine JL.zz (xs:=[x1,x2]) (vs:=[v1,v2]) hu hi rfl rfl (by simp[pK,hx1,hx2]) Y631 (by simp[hv1,hv2]) rfl Y610 Y610 hd1 fun bl _=>?_
 refine JL.iH (news:=[v1,v2]) (m:=2) (v:=.slice (some ⟨bl,0,none⟩) 2 2) (fun b' cap'=>⟨bl,Row e [v1,v2],true⟩::M' b' cap') hu hi (ha bl) Y630 (fun w hw=>x8 hu rfl ?_ Y631) (fun b' cap'=>.there (hup b' cap')) hsm hd2 fun b' cap'=>?_
 · obtain⟨o,ho,hA⟩:=hw.get (b:=bl) (A:=Row e [v1,v2]) (wr:=true) .here
   exact Y242
 · exact Y243
theorem JL.SN{t':TypeId}{r:List Bt}{u:TypeDesc}(hs:P.underlying t=some u)(hsu:u=.string)(hu:P.underlying t'=some (.slice e))(he:P.underlying e=some (.int .u8))(hx:ev E x=some (Z r))(hd:Nat.blt d n=true)
  (k:∀ b cap,w0.heap.size<=b->JL P n w0 S ops Q l ((d,.slice (some ⟨b,0,none⟩) r.length cap)::E) (⟨b,dM e r.length cap (r.map U8),true⟩::M)):JL P n w0 S ops Q (⟨some d,.convert t t' x,ty,pos,aft,none⟩::l) E M:=
 ⟨fun a w ha hw=>wpList_plain rfl fun K hK=>by
  subst hsu
  have hrun:=Lib.run_convert_string_bytes (P:=P) w t t' e (bP r) hs hu he
  have hheap:(Lib.bytesWorld w e (bP r)).heap=w.heap.push (.cells (Lib.bytesCells w e (bP r)) e ((Lib.bytesCells w e (bP r)).size,(Lib.bytesCells w e (bP r)).size+1)):=by
   apply Array.ext_getElem?
   intro i
   rw[Array.getElem?_push]
   by_cases h:i=w.heap.size
   · rw[if_pos h,h,Lib.bytesWorld_at_new]
   · rw[if_neg h]
     by_cases h2:i<w.heap.size
     · rw[Lib.bytesWorld_at_old _ _ _ _ h2]
     · rw[Array.getElem?_eq_none (by rw[Lib.bytesWorld_size];omega),Array.getElem?_eq_none Y609]
  have hge:=grownCap_ge w (bP r).size 0 e
  rw[cj] at hge hrun
  have hA:dM e r.length (grownCap w r.length 0 e) (r.map U8) (.cells (Lib.bytesCells w e (bP r)) e ((Lib.bytesCells w e (bP r)).size,(Lib.bytesCells w e (bP r)).size+1)):=by
   have hb:((bP r).data.toList.map fun b=>Value.int .u8 b.toNat)=r.map U8:=by
    have:=iG r
    exact this
   have hc:Lib.bytesCells w e (bP r)=(r.map U8++List.replicate (grownCap w r.length 0 e-r.length) (Value.int .u8 0)).toArray:=by
    have hsz:=cj r
    rw[<- hb]
    apply Array.ext'
    simp[Lib.bytesCells,hsz]
   have hl:(Lib.bytesCells w e (bP r)).size=grownCap w r.length 0 e:=by rw[hc];simp;omega
   refine⟨List.replicate (grownCap w r.length 0 e-r.length) (Value.int .u8 0),_,by rw[<- hc],.inl (by show _<=(Lib.bytesCells w e (bP r)).size;omega),?_,by simp,hge⟩
   simp;omega
  unfold Oper.wp
  simp only[execOp,ha.eval hx,Sem.run_bind,hrun,Result.andThen_ok]
  exact hK _ _ ((k w.heap.size _ hw.aH.size).go _ _ (ha.put d _ hd) (hw.push _ hA hheap rfl rfl rfl))⟩
end
end Sl
end
section
open Sl aq
theorem DJ:aJ Tryz.prog 37:=⟨_,Tryz.func37,rfl,by kernel_rfl⟩
theorem vq(n v:List aq.By):∀ i,(st n v i).1.length<=n.length+2+3*i/\(st n v i).2<=n.length+2+i
 | 0=>by simp[st]
 | i+1=>by
   obtain⟨h1,h2⟩:=vq n v i
   unfold st
   split
   · simp only[List.length_append,List.length_cons,List.length_nil];omega
   · simp only[List.length_append,List.length_cons,List.length_nil];omega
def PN(n v:List aq.By)(i:Nat):Bool:=tn v i&&decide (76<(st n v i).2+scan v (i+1)-i)
theorem PR(n v:List aq.By)(i:Nat)(h:PN n v i=true):st n v (i+1)=((st n v i).1++[13,10]++[v.getD i 0],1):=by
 simp only[PN,Bool.and_eq_true,decide_eq_true_eq] at h
 rw[st,if_pos h];simp
theorem RW(n v:List aq.By)(i:Nat)(h:PN n v i=false):st n v (i+1)=((st n v i).1++[v.getD i 0],(st n v i).2+1):=by
 rw[st,if_neg]
 rintro⟨h1,h2⟩
 rw[PN,h1,decide_eq_true h2] at h
 cases h
theorem Hi(n v:List aq.By)(w:World)(hn:n.length<1000000)(hv:v.length<1000000):Calls Tryz.prog 37 [.agg #[Z n,Z v]].toArray w fun e w'=>∃ x:ay,e=.returned x.v/\iP x (ek n v)/\aa w [] x.an w':=by
 refine enter (n:=82) Tryz.func37 rfl rfl rfl (aa.start w []) ?_
 refine Y83 ?_
 refine JL.box (r:=[Z n,Z v]) rfl rfl rfl fun b1 _=>?_
 repeat(first|refine JL.q (by first|exact Y392|exact Y393) rfl ?_|refine Y84 ?_)
 refine JL.SN (r:=n) Tryz.underlying9 rfl Tryz.underlying22 Tryz.underlying5 rfl rfl fun b cap _=>?_
 refine Y24 ?_
 refine JL.iH (v:=Z [58,32]) (m:=2) (xs:=n.map U8) (news:=([58,32]:List Bt).map U8) (fun b' cap'=>[⟨b',dM 5 (n.length+2) cap' (n.map U8++([58,32]:List Bt).map U8),true⟩,⟨b1,Row 65 [Z n,Z v],true⟩]) Tryz.underlying22 dV rfl rfl (fun _ _=>jC Tryz.underlying9) Y642 Y609 rfl fun b cap=>?_
 refine Y85 ?_
 have hsl:=vq n v
 refine JC.loop (fun q:Nat × Nat × Nat=>[(3,Z v),(4,.slice (some ⟨q.2.1,0,none⟩) (st n v q.1).1.length q.2.2),(5,N (st n v q.1).2),(6,N q.1)])
  (fun q=>[⟨q.2.1,dM 5 (st n v q.1).1.length q.2.2 ((st n v q.1).1.map U8),true⟩]) (fun q=>v.length-q.1) (fun q=>q.1<=v.length) (0,b,cap) (Nat.zero_le _) ?_ (.keep _ _ _ _ _ _ ?_ (.nil _)) ?_
 · show af _ [(3,Z v),(4,.slice (some ⟨b,0,none⟩) (n++[58,32]).length cap),(5,N (n.length+2)),(6,N 0)]
   rw[List.length_append]
   exact Y269
 · intro o h
   show dM _ (n++[58,32]).length _ ((n++[58,32]).map U8) o
   rw[List.length_append,List.map_append]
   exact h
 rintro⟨i,b,cap⟩ hi
 simp only at hi
 dsimp only
 obtain⟨hl1,hl2⟩:=hsl i
 refine Y8 ?_
 refine JC.cond rfl (fun h=>?_) (fun h=>?_)
 · have hi':i<v.length:=of_decide_eq_true h
   clear h hi
   have i0:=fun {n:Nat} {E:Env} {C:World->Prop} {dst:Option Tmp} {ty:TypeId} {pos:String} {aft:Array Edge} {g:Option (Nat × Bool)} {x y:Operand}=>nq hi' (n:=n) (E:=E) (C:=C) (dst:=dst) (ty:=ty) (pos:=pos) (aft:=aft) (g:=g) (x:=x) (y:=y)
   have i1:=fun {n:Nat} {E:Env} {C:World->Prop} {dst:Option Tmp} {ty:TypeId} {pos:String} {aft:Array Edge} {g:Option (Nat × Bool)} {x y:Operand}=>nq (s:=v) (i:=i-1) Y609 (n:=n) (E:=E) (C:=C) (dst:=dst) (ty:=ty) (pos:=pos) (aft:=aft) (g:=g) (x:=x) (y:=y)
   have b0:=fun w'=>iz (v.getD i 0) w'
   have b1:=fun w'=>iz (v.getD (i-1) 0) w'
   have htn:tn v i=(decide ((0:Int)<(i:Int))&&(bl (v.getD i 0)&&!bl (v.getD (i-1) 0))):=by
    unfold tn
    congr 1
    exact Y255
   have hst1:=PR n v i
   have hst2:=RW n v i
   have hbr:PN n v i=(tn v i&&decide (76<(st n v i).2+scan v (i+1)-i)):=rfl
   have hnoF:tn v i=false->PN n v i=false:=fun h=>by rw[hbr,h];rfl
   have hpos:tn v i=true->0<i:=fun h=>by
    rw[htn] at h
    simp only[Bool.and_eq_true,decide_eq_true_eq] at h
    omega
   generalize hB:PN n v i=B at hst1 hst2 hbr hnoF
   generalize hO:(st n v i).1=O at hl1 hst1 hst2⊢
   generalize hL:(st n v i).2=L at hl2 hst2 hbr⊢
   cases h1:decide ((0:Int)<(i:Int)) <;> cases h2:bl (v.getD i 0) <;> cases h3:bl (v.getD (i-1) 0)
   all_goals (rw[h1,h2,h3] at htn)
   all_goals (try have hip:0<i:=by(have:=of_decide_eq_true h1;omega))
   all_goals (repeat(first|refine JL.q (by first|exact Y333|(apply i0;rfl;rfl)|(apply i1;rfl;rfl)|(apply OQ.dB (vs:=[U8 (v.getD i 0)]);exact gO;rfl;exact b0;exact h2)|(apply OQ.dB (vs:=[U8 (v.getD (i-1) 0)]);exact gO;rfl;exact b1;exact h3)|exact Y329|exact Y330|exact Y331|exact Y323|exact Y338) rfl ?_|refine JC.seq ?_|refine JC.region ?_|refine JC.block ?_|refine JC.skip ?_|refine JL.nil ?_|refine JE.next ?_|refine JL.bG rfl rfl ?_|refine JL.aM rfl rfl rfl rfl ?_))
   all_goals (
    refine JC.join (ι:=Nat × Nat) (fun q=>[(3,Z v),(4,.slice (some ⟨q.1,0,none⟩) (if B then O++[13,10] else O).length q.2),(5,N (if B then 0 else L)),(6,N i)]) (fun q=>[⟨q.1,dM 5 (if B then O++[13,10] else O).length q.2 ((if B then O++[13,10] else O).map U8),true⟩]) (fun _=>True) ?_ ?_
    · refine JC.cond rfl (fun h=>?_) (fun h=>?_)
      all_goals first|(exfalso;revert h;decide)|skip
      all_goals clear h
      all_goals first
       | (have hB0:B=false:=hnoF (by rw[htn];rfl)
          subst hB0
          (repeat(refine JC.skip ?_))
          exact JE.mid (b,cap) trivial Y640 (aj.refl _))
       | (have ht:tn v i=true:=by rw[htn];rfl
          have hp:=hpos ht
          rw[ht,Bool.true_and] at hbr
          (repeat(first|refine JL.q Y672 rfl ?_|refine JC.seq ?_|refine JC.region ?_|refine JC.block ?_|refine JL.nil ?_|refine JE.next ?_))
          refine JC.loop (fun to:Nat=>[(3,Z v),(4,.slice (some ⟨b,0,none⟩) O.length cap),(5,N L),(6,N i),(7,N to)]) (fun _=>[⟨b,dM 5 O.length cap (O.map U8),true⟩]) (fun to=>v.length-to) (fun to=>i+1<=to/\to<=v.length/\scan v to=scan v (i+1)) (i+1) ⟨Nat.le_refl _,hi',rfl⟩ Y640 (aj.refl _) ?_
          rintro to ⟨k1,k2,k3⟩
          cases g1:decide ((to:Int)<(v.length:Int))
          · have hto:scan v (i+1)=to:=by
             have:=of_decide_eq_false g1
             rw[<- k3,jP Y609];omega
            rw[hto] at hbr
            have k4:i<=L+to:=by omega
            (repeat(first|refine JL.q (by(apply OQ.fV;rfl;rfl;exact g1)) rfl ?_|refine JL.aM rfl rfl rfl rfl ?_|refine JL.ic rfl rfl rfl rfl ?_|refine Y48 ?_))
            refine Y245 ?_
            (refine Y86 ?_)
            refine JC.cond rfl (fun h=>?_) (fun h=>?_)
            · have hB1:B=true:=by rw[hbr];exact h
              subst hB1
              (refine Y61 ?_)
              refine JL.DI (v1:=U8 13) (v2:=U8 10) (xs:=O.map U8) (fun b' cap'=>[⟨b',dM 5 (O.length+2) cap' (O.map U8++[U8 13,U8 10]),true⟩]) Tryz.underlying22 dV rfl rfl rfl rfl rfl rfl (fun _=>rfl) Y642 Y609 rfl rfl fun bl b' cap'=>?_
              (refine Y87 ?_)
              refine JE.mid (b',cap') trivial ?_ ?_
              · dsimp only
                rw[if_pos rfl,if_pos rfl,List.length_append]
                exact Y269
              · dsimp only
                rw[if_pos rfl,List.length_append,List.map_append]
                exact aj.refl _
            · have hB1:B=false:=by rw[hbr];exact h
              subst hB1
              (repeat(refine JC.skip ?_))
              exact JE.mid (b,cap) trivial Y640 (aj.refl _)
          · have hto':to<v.length:=by have:=of_decide_eq_true g1;omega
            have j0:=fun {n:Nat} {E:Env} {C:World->Prop} {dst:Option Tmp} {ty:TypeId} {pos:String} {aft:Array Edge} {g:Option (Nat × Bool)} {x y:Operand}=>nq hto' (n:=n) (E:=E) (C:=C) (dst:=dst) (ty:=ty) (pos:=pos) (aft:=aft) (g:=g) (x:=x) (y:=y)
            have j1:=fun {n:Nat} {E:Env} {C:World->Prop} {dst:Option Tmp} {ty:TypeId} {pos:String} {aft:Array Edge} {g:Option (Nat × Bool)} {x y:Operand}=>nq (s:=v) (i:=to-1) Y609 (n:=n) (E:=E) (C:=C) (dst:=dst) (ty:=ty) (pos:=pos) (aft:=aft) (g:=g) (x:=x) (y:=y)
            have c0:=fun w'=>iz (v.getD to 0) w'
            have c1:=fun w'=>iz (v.getD (to-1) 0) w'
            have k0:0<to:=by omega
            have htn2:tn v to=(bl (v.getD to 0)&&!bl (v.getD (to-1) 0)):=by
             unfold tn
             rw[decide_eq_true k0,Bool.true_and]
            have k4:i<=L+to:=by omega
            cases g2:bl (v.getD to 0) <;> cases g3:bl (v.getD (to-1) 0)
            all_goals rw[g2,g3] at htn2
            all_goals (repeat(first|refine JL.q (by first|exact Y322|(apply OQ.fV;rfl;rfl;exact g1)|(apply j0;rfl;rfl)|(apply j1;rfl;rfl)|(apply OQ.dB (vs:=[U8 (v.getD to 0)]);exact gO;rfl;exact c0;exact g2)|(apply OQ.dB (vs:=[U8 (v.getD (to-1) 0)]);exact gO;rfl;exact c1;exact g3)|exact Y329|exact Y330|exact Y331|exact Y323|exact Y338) rfl ?_|refine JC.seq ?_|refine JC.region ?_|refine JL.nil ?_|refine JE.next ?_|refine JL.bG rfl rfl ?_|refine JL.aM rfl rfl rfl rfl ?_))
            all_goals refine JC.cond rfl (fun h=>?_) (fun h=>?_)
            all_goals first|(exfalso;revert h;decide)|skip
            all_goals clear h
            all_goals first
             | (have hnt:¬ tn v to=true:=by rw[htn2];decide
                (refine Y51 ?_)
                exact JE.again (i:=to) (to+1) ⟨by omega,by omega,by rw[<- k3,pL hto' hnt]⟩ Y609 Y640 (aj.refl _))
             | (have hto:scan v (i+1)=to:=by rw[<- k3,mO hto' (by rw[htn2];rfl)]
                rw[hto] at hbr
                (refine Y86 ?_)
                refine JC.cond rfl (fun h=>?_) (fun h=>?_)
                · have hB1:B=true:=by rw[hbr];exact h
                  subst hB1
                  (refine Y61 ?_)
                  refine JL.DI (v1:=U8 13) (v2:=U8 10) (xs:=O.map U8) (fun b' cap'=>[⟨b',dM 5 (O.length+2) cap' (O.map U8++[U8 13,U8 10]),true⟩]) Tryz.underlying22 dV rfl rfl rfl rfl rfl rfl (fun _=>rfl) Y642 Y609 rfl rfl fun bl b' cap'=>?_
                  (refine Y87 ?_)
                  refine JE.mid (b',cap') trivial ?_ ?_
                  · dsimp only
                    rw[if_pos rfl,if_pos rfl,List.length_append]
                    exact Y269
                  · dsimp only
                    rw[if_pos rfl,List.length_append,List.map_append]
                    exact aj.refl _
                · have hB1:B=false:=by rw[hbr];exact h
                  subst hB1
                  (repeat(refine JC.skip ?_))
                  exact JE.mid (b,cap) trivial Y640 (aj.refl _)))
    · rintro⟨b',cap'⟩ _
      dsimp only
      cases B
      · have e:=hst2 rfl
        simp only[Bool.false_eq_true,if_false]
        (repeat(first|refine JL.q Y673 rfl ?_|refine Y88 ?_))
        refine JL.ji (v:=U8 (v.getD i 0)) (xs:=O.map U8) (fun b' cap'=>[⟨b',dM 5 (O.length+1) cap' (O.map U8++[U8 (v.getD i 0)]),true⟩]) Tryz.underlying22 dV rfl rfl rfl (fun _=>rfl) Y642 Y609 rfl rfl fun bl b'' cap''=>?_
        (refine Y18 ?_)
        refine JE.again (i:=(i,b,cap)) (i+1,b'',cap'') hi' Y674 ?_ ?_
        · dsimp only
          rw[e]
          dsimp only
          rw[List.length_append]
          exact Y269
        · dsimp only
          rw[e]
          dsimp only
          rw[List.length_append,List.map_append]
          exact aj.refl _
      · have e:=hst1 rfl
        simp only[if_true]
        have hl3:(O++[13,10]).length<=n.length+4+3*i:=by simp only[List.length_append,List.length_cons,List.length_nil];omega
        generalize O++[13,10]=O2 at e hl3⊢
        (repeat(first|refine JL.q Y673 rfl ?_|refine Y88 ?_))
        refine JL.ji (v:=U8 (v.getD i 0)) (xs:=O2.map U8) (fun b' cap'=>[⟨b',dM 5 (O2.length+1) cap' (O2.map U8++[U8 (v.getD i 0)]),true⟩]) Tryz.underlying22 dV rfl rfl rfl (fun _=>rfl) Y642 Y609 rfl rfl fun bl b'' cap''=>?_
        (refine Y18 ?_)
        refine JE.again (i:=(i,b,cap)) (i+1,b'',cap'') hi' Y674 ?_ ?_
        · dsimp only
          rw[e]
          dsimp only
          rw[List.length_append]
          exact Y269
        · dsimp only
          rw[e]
          dsimp only
          rw[List.length_append,List.map_append]
          exact aj.refl _)
 · have hi':¬ i<v.length:=of_decide_eq_false h
   obtain rfl:i=v.length:=by omega
   clear h hi hi'
   refine Y59 ?_
   refine JL.DI (v1:=U8 13) (v2:=U8 10) (xs:=(st n v v.length).1.map U8) (fun b' cap'=>[⟨b',dM 5 ((st n v v.length).1.length+2) cap' ((st n v v.length).1.map U8++[U8 13,U8 10]),true⟩]) Tryz.underlying22 dV rfl rfl rfl rfl rfl rfl (fun _=>rfl) Y642 Y609 rfl rfl fun bl b' cap'=>?_
   refine Y39 ?_
   refine JC.ret (JE.aK rfl (RV.tmp rfl) ?_)
   intro w' hw
   refine⟨⟨some ⟨b',0,none⟩,cap',ek n v⟩,?_,⟨rfl,by simp⟩,hw.weak ?_⟩
   · show _=Ending.returned (Value.slice _ (ek n v).length _)
     rw[ek,List.length_append];rfl
   · have hl:(ek n v).length=(st n v v.length).1.length+2:=by rw[ek,List.length_append];rfl
     have:=x7 (e:=5) (b:=b') (cap:=cap') hl
     rw[ek,List.map_append] at this
     exact this
def mG(n v:List Bt):Bool:=c8 n&&fC v
def sP(n v:List Bt):List Bt:=if mG n v then ek n v else []
def codeF(n v:List Bt):Nat:=if mG n v then 0 else 3
theorem oU:aJ Tryz.prog 108:=⟨_,Tryz.func108,rfl,by kernel_rfl⟩
theorem BJ:aJ Tryz.prog 109:=⟨_,Tryz.func109,rfl,by kernel_rfl⟩
theorem oV:aJ Tryz.prog 199:=⟨_,Tryz.func199,rfl,by kernel_rfl⟩
theorem DK:aJ Tryz.prog 61:=⟨_,Tryz.func61,rfl,by kernel_rfl⟩
theorem rM{n:List aq.By}(h:c8 n=true):n.length<=64:=(iS h).2.2
theorem x9(n v:List aq.By):(ek n v).length<=n.length+4+3*v.length:=by
 have:=(vq n v v.length).1
 rw[ek,List.length_append]
 simp only[List.length_cons,List.length_nil]
 omega
theorem vt{v:List aq.By}(h:fC v=true):v.length<=8192:=(hU h).2.1
end
section
open Sl aq gZ
def oW:List (List Bt):=[b8,E8,GD,b7,bin,[]]
def qo:List Int:=[0,1,2,0,0,0]
def vu:List Value:=[Z b8,.int .i64 0,Z E8,.int .i64 1,Z GD,.int .i64 2,Z b7,.int .i64 0,Z bin,.int .i64 0,Z [],.int .i64 0]
def fz(w:World):Prop:=∃ e fr,w.heap[1]?=some (.cells vu.toArray e fr)
theorem fz.lt{w:World}(h:fz w):1<w.heap.size:=by
 obtain⟨e,fr,h⟩:=h
 exact(Array.getElem?_eq_some_iff.1 h).1
theorem fz.ext{w w':World}(h:fz w)(hx:Ext w w'):fz w':=by
 have hl:=h.lt
 obtain⟨e,fr,h⟩:=h
 exact⟨e,fr,(hx.block _ hl Y614).trans h⟩
theorem fz.holds{w0 w:World}{M:List aL}(h:fz w0)(hw:aa w0 [] M w):fz w:=h.ext hw.aH
theorem fz.cell{w:World}(h:fz w):∀ i u,vu[i]?=some u->w.cell? ⟨1,0+i,none⟩=some u:=fun i u hu=>by
 obtain⟨e,fr,h⟩:=h
 exact cell_of h (by show(vu.toArray)[0+i]?=some u;rw[Nat.zero_add];simpa using hu)
theorem vv:aJ Tryz.prog 154:=⟨_,Tryz.func154,rfl,by kernel_rfl⟩
theorem sQ:aJ Tryz.prog 86:=⟨_,Tryz.func86,rfl,by kernel_rfl⟩
theorem lI:aJ Tryz.prog 84:=⟨_,Tryz.func84,rfl,by kernel_rfl⟩
theorem lJ:aJ Tryz.prog 103:=⟨_,Tryz.func103,rfl,by kernel_rfl⟩
theorem TX:kM Tryz.prog 164=true:=by kernel_rfl
theorem TY:gX Tryz.prog 164=some 12:=by kernel_rfl
theorem To:Tryz.prog.underlying 164=some (.array 6 163):=by kernel_rfl
theorem TZ:kM Tryz.prog 163=true:=by kernel_rfl
theorem SO:gX Tryz.prog 163=some 2:=by kernel_rfl
theorem T0:zc Tryz.prog 163=some [Z [],.int .i64 0]:=by kernel_rfl
theorem Tp:kM Tryz.prog 63=true:=by kernel_rfl
theorem Mp:gX Tryz.prog 63=some 2:=by kernel_rfl
theorem Ul:zc Tryz.prog 63=some [Z [],Z []]:=by kernel_rfl
section
variable {n:Nat} {E:Env} {C:World->Prop} {dst:Option Tmp} {ty:TypeId} {pos:String} {aft:Array Edge} {g:Option (Nat × Bool)} {x:Operand} {b:Nat}
theorem zV(hx:ev E x=some (.pointer (some ⟨b,0,none⟩))):OQ Tryz.prog n E C ⟨dst,.fieldAddr 163 x 0,ty,pos,aft,g⟩ (.pointer (some ⟨b,0,none⟩)):=OQ.ov (o:=0) Tryz.underlying163 rfl rfl Y610 hx rfl
theorem zW(hx:ev E x=some (.pointer (some ⟨b,0,none⟩))):OQ Tryz.prog n E C ⟨dst,.fieldAddr 163 x 1,ty,pos,aft,g⟩ (.pointer (some ⟨b,1,none⟩)):=OQ.ov (o:=1) Tryz.underlying163 rfl rfl Y610 hx rfl
end
theorem Km:gD Tryz.prog 3=true:=by kernel_rfl
theorem OQ.Kn{P:Program}{n:Nat}{E:Env}{C:World->Prop}{dst:Option Tmp}{t ty e:TypeId}{pos:String}{aft:Array Edge}{g:Option (Nat × Bool)}{x y:Operand}{len i sz:Nat}{cs ds:List Value}(hu:P.underlying t=some (.array len e))(hz:gX P e=some sz)(ha:kM P e=true)(hx:ev E x=some (.agg cs.toArray))(hy:ev E y=some (N i))(hi:i<len)(hv:(cs.drop (i*sz)).take sz=ds) :
  OQ P n E C ⟨dst,.index t x y,ty,pos,aft,g⟩ (.agg ds.toArray):=
 OQ.run fun a hk w _=>by
  have h1:=hk.eval hx
  have h2:=hk.eval hy
  have h3:(underlying t).run P w=.ok (.array len e) w:=run_underlying hu w
  simp[execOp,h1,h2,Instr.index,asIntOf,Sem.run_bind,h3,hi,bR hz,part,xJ ha,hv]
theorem FB{i:Nat}(h:i<6):(vu.drop (i*2)).take 2=[Z (oW.getD i []),.int .i64 (qo.getD i 0)]:=by
 have:i=0\/i=1\/i=2\/i=3\/i=4\/i=5:=by omega
 rcases this with rfl|rfl|rfl|rfl|rfl|rfl <;> rfl
theorem Nj(i:Nat):(oW.getD i []).length<9223372036854775808:=by
 by_cases h:i<6
 · have:i=0\/i=1\/i=2\/i=3\/i=4\/i=5:=by omega
   rcases this with rfl|rfl|rfl|rfl|rfl|rfl <;> decide
 · rw[List.getD_eq_getElem?_getD,List.getElem?_eq_none (by show 6<=i;omega)]
   decide
theorem Nk{i:Nat}(h:i<6){c:List aq.By}(hs:bY (oW.getD i []) c=true):kL (c.map small)=some (qo.getD i 0):=by
 have hs:=of_decide_eq_true hs
 rw[<- hs]
 have:i=0\/i=1\/i=2\/i=3\/i=4\/i=5:=by omega
 rcases this with rfl|rfl|rfl|rfl|rfl|rfl <;> decide
theorem Ko{c:List aq.By}(h:∀ j,j<6->bY (oW.getD j []) c=false):kL (c.map small)=none:=by
 have k:=fun j hj=>of_decide_eq_false (h j hj)
 have h0:¬ b8=c.map small:=k 0 Y610
 have h1:¬ E8=c.map small:=k 1 Y610
 have h2:¬ GD=c.map small:=k 2 Y610
 have h3:¬ b7=c.map small:=k 3 Y610
 have h4:¬ bin=c.map small:=k 4 Y610
 have h5:¬ []=c.map small:=k 5 Y610
 unfold kL
 rw[if_neg (fun e=>h1 e.symm),if_neg (fun e=>h2 e.symm),if_neg]
 rintro(e|e|e|e)
 · exact h5 e.symm
 · exact h3 e.symm
 · exact h0 e.symm
 · exact h4 e.symm
theorem Hj(c:List Bt)(w:World)(hE:fz w):Calls Tryz.prog 154 [Z c].toArray w fun e w'=>e=.returned (.tuple #[.int .i64 ((kL (c.map small)).getD 0),.bool (kL (c.map small)).isSome])/\Ext w w':=by
 refine enter (n:=17) Tryz.func154 rfl rfl rfl (aa.start w []) ?_
 repeat(first|refine JL.q (by exact Y394) rfl ?_|refine Y89 ?_)
 refine JC.loop (fun i:Nat=>[(0,Z c),(6,.agg vu.toArray),(7,N i)]) (fun _=>[]) (fun i=>6-i) (fun i=>i<=6/\∀ j,j<i->bY (oW.getD j []) c=false) 0 ⟨by decide,fun j hj=>by omega⟩ Y640 (aj.refl _) ?_
 rintro i ⟨hi,hno⟩
 refine Y22 ?_
 refine JC.cond rfl (fun h=>?_) (fun h=>?_)
 · have hi':i<6:=of_decide_eq_true h
   clear h hi
   repeat(first|refine JL.q (by exact Y395) rfl ?_|refine Y90 ?_)
   refine JL.alloc T0 rfl fun b5 _=>?_
   refine JL.ax (cs:=[Z (oW.getD i []),.int .i64 (qo.getD i 0)]) SO rfl rfl rfl rfl .here rfl ?_
   have cs:=fun w'=>x6 (oW.getD i []) c w' (Nj i)
   cases hb:bY (oW.getD i []) c
   · rw[hb] at cs
     repeat(first|refine JL.q Y675 rfl ?_|refine Y36 ?_)
     refine Y245 ?_
     refine Y25 ?_
     refine JE.again (i:=i) (i+1) ⟨hi',fun j hj=>?_⟩ Y609 Y640 (.nil _)
     by_cases e:j=i
     · subst e;exact hb
     · exact hno j Y609
   · rw[hb] at cs
     rw[Nk hi' hb]
     repeat(first|refine JL.q Y675 rfl ?_|refine Y36 ?_)
     refine Y246 ?_
     repeat(first|refine JL.q (by first|(apply zW;rfl)|exact Y398) rfl ?_|refine Y20 ?_)
     refine Y247 ?_
     refine Y2 ?_
     exact Y259
 · have hi':¬ i<6:=of_decide_eq_false h
   obtain rfl:i=6:=by omega
   rw[Ko hno]
   refine Y11 ?_
   exact Y261
def Hl(c:Int):Option (List Bt):=if c=0 then some b8 else if c=1 then some E8 else if c=2 then some GD else none
theorem Nl{i:Nat}(h:i<6){c:Int}(hc:qo.getD i 0=c)(hno:∀ j,j<i->¬ qo.getD j 0=c):Hl c=some (oW.getD i []):=by
 subst hc
 have:i=0\/i=1\/i=2\/i=3\/i=4\/i=5:=by omega
 rcases this with rfl|rfl|rfl|rfl|rfl|rfl
 · rfl
 · rfl
 · rfl
 · exact absurd rfl (hno 0 Y610)
 · exact absurd rfl (hno 0 Y610)
 · exact absurd rfl (hno 0 Y610)
theorem Kq{c:Int}(hno:∀ j,j<6->¬ qo.getD j 0=c):Hl c=none:=by
 have h0:¬ (0:Int)=c:=hno 0 Y610
 have h1:¬ (1:Int)=c:=hno 1 Y610
 have h2:¬ (2:Int)=c:=hno 2 Y610
 unfold Hl
 rw[if_neg (fun e=>h0 e.symm),if_neg (fun e=>h1 e.symm),if_neg (fun e=>h2 e.symm)]
theorem DL(c:Int)(w:World)(hE:fz w):Calls Tryz.prog 86 [.int .i64 c].toArray w fun e w'=>e=.returned (.tuple #[Z ((Hl c).getD []),.bool (Hl c).isSome])/\Ext w w':=by
 refine enter (n:=17) Tryz.func86 rfl rfl rfl (aa.start w []) ?_
 repeat(first|refine JL.q (by exact Y394) rfl ?_|refine Y89 ?_)
 refine JC.loop (fun i:Nat=>[(0,.int .i64 c),(6,.agg vu.toArray),(7,N i)]) (fun _=>[]) (fun i=>6-i) (fun i=>i<=6/\∀ j,j<i->¬ qo.getD j 0=c) 0 ⟨by decide,fun j hj=>by omega⟩ Y640 (aj.refl _) ?_
 rintro i ⟨hi,hno⟩
 refine Y22 ?_
 refine JC.cond rfl (fun h=>?_) (fun h=>?_)
 · have hi':i<6:=of_decide_eq_true h
   clear h hi
   repeat(first|refine JL.q (by exact Y395) rfl ?_|refine Y90 ?_)
   refine JL.alloc T0 rfl fun b5 _=>?_
   refine JL.ax (cs:=[Z (oW.getD i []),.int .i64 (qo.getD i 0)]) SO rfl rfl rfl rfl .here rfl ?_
   cases hb:decide (qo.getD i 0=c)
   · repeat(first|refine JL.q Y676 rfl ?_|refine Y36 ?_)
     refine Y245 ?_
     refine Y25 ?_
     refine JE.again (i:=i) (i+1) ⟨hi',fun j hj=>?_⟩ Y609 Y640 (.nil _)
     by_cases e:j=i
     · subst e;exact of_decide_eq_false hb
     · exact hno j Y609
   · rw[Nl hi' (of_decide_eq_true hb) hno]
     repeat(first|refine JL.q Y676 rfl ?_|refine Y36 ?_)
     refine Y246 ?_
     repeat(first|refine JL.q (by first|(apply zV;rfl)|exact Y396) rfl ?_|refine Y20 ?_)
     refine Y247 ?_
     refine Y2 ?_
     exact Y259
 · have hi':¬ i<6:=of_decide_eq_false h
   obtain rfl:i=6:=by omega
   rw[Kq hno]
   refine Y11 ?_
   exact Y261
theorem BK(k:List Bt)(v1 v2 v3 v4:Value)(h1:v1.cells=#[v1])(w:World):Calls Tryz.prog 84 [.agg #[Z k,v1,v2,v3,v4]].toArray w fun e w'=>e=.returned (.bool (fo k))/\Ext w w':=by
 refine enter (n:=6) Tryz.func84 rfl rfl rfl (aa.start w []) ?_
 refine JC.seq (JC.region (JL.box (r:=[Z k,v1,v2,v3,v4]) rfl rfl rfl fun b _=>?_))
 have hq:=fun w'=>Kg k lU w'
 have e10:decide (k.take lU.length=lU)=fo k:=rfl
 rw[e10] at hq
 repeat(first|refine JL.q (by first|(apply OQ.load;exact bS;rfl;exact .here;exact(Row.cell (v:=Z k) rfl))|(apply OQ.ai (vs:=[Z k,Z lU]);exact G5;rfl;exact(fun w' _=>hq w'))) rfl ?_|refine Y84 ?_)
 exact Y244
theorem Kr{l:List fP}{i:Nat}(hi:i<l.length)(hno:∀ j,j<i->¬ (l.getD j ([],[])).1=fF)(h:(l.getD i ([],[])).1=fF):cJ l fF=(l.getD i ([],[])).2:=by
 induction l generalizing i with
 | nil=>simp at hi
 | cons p l ih=>
   cases i with
   | zero=>
     unfold cJ
     rw[List.find?_cons_of_pos Y616]
     rfl
   | succ i=>
     have h0:¬ p.1=fF:=hno 0 Y609
     have:=ih (i:=i) (by simpa using hi) (fun j hj=>by simpa using hno (j+1) Y609) Y616
     unfold cJ at this⊢
     rw[List.find?_cons_of_neg (by simpa using h0),this]
     simp
theorem Ks{l:List fP}(hno:∀ j,j<l.length->¬ (l.getD j ([],[])).1=fF):cJ l fF=[]:=by
 have:l.find? (fun p=>decide (p.1=fF))=none:=by
  rw[List.find?_eq_none]
  intro p hp
  obtain⟨j,hj,rfl⟩:=List.getElem_of_mem hp
  have:=hno j hj
  rw[List.getD_eq_getElem?_getD,List.getElem?_eq_getElem hj] at this
  simpa using this
 unfold cJ
 rw[this]
 rfl
theorem FD(k:List Bt)(ps:gm)(v2 v3 v4:Value)(w:World)(hp:ps.ok w)(hl:ps.l.length<9223372036854775807):Calls Tryz.prog 103 [.agg #[Z k,ps.v,v2,v3,v4]].toArray w fun e w'=>e=.returned (Z (cJ ps.l fF))/\Ext w w':=by
 refine enter (n:=18) Tryz.func103 rfl rfl rfl (aa.start w []) ?_
 refine JC.seq (JC.region (JL.box (r:=[Z k,ps.v,v2,v3,v4]) rfl rfl rfl fun b _=>?_))
 repeat(first|refine JL.q (by first|exact Y399|(apply OQ.len;exact Tryz.underlying56;rfl)|exact Y323|exact Y324|exact Y377) rfl ?_|refine JC.seq ?_|refine JC.region ?_|refine JC.block ?_|refine JL.nil ?_|refine JE.next ?_)
 refine JC.loop (fun i:Nat=>[(6,ps.v),(7,N ps.l.length),(8,N i)]) (fun _=>[]) (fun i=>ps.l.length-i) (fun i=>i<=ps.l.length/\∀ j,j<i->¬ (ps.l.getD j ([],[])).1=fF) 0 ⟨Nat.zero_le _,fun j hj=>by omega⟩ Y640 (.nil _) ?_
 rintro i ⟨hi,hno⟩
 refine Y22 ?_
 refine JC.cond rfl (fun h=>?_) (fun h=>?_)
 · have hi':i<ps.l.length:=of_decide_eq_true h
   clear h hi
   obtain⟨ba,ja,eA,la,ca1,ca2⟩:=hp.at hi'
   have vA:ps.v=.slice (some ⟨ba,ja,none⟩) ps.l.length ps.cap:=by rw[<- eA];rfl
   have hstep:=fun h=>Kr hi' hno h
   have hnext:¬ (ps.l.getD i ([],[])).1=fF->∀ j,j<i+1->¬ (ps.l.getD j ([],[])).1=fF:=fun h j hj=>by
    by_cases e:j=i
    · subst e;exact h
    · exact hno j Y609
   generalize ps.l.getD i ([],[])=pr at ca1 ca2 hstep hnext
   have hcs:∀ k' u,([Z pr.1,Z pr.2]:List Value)[k']?=some u->w.cell? ⟨ba,ja+i*2+k',none⟩=some u:=fun k' u hu=>by
    match k',hu with
    | 0,hu=>cases hu;exact ca1
    | 1,hu=>cases hu;exact ca2
    | k'+2,hu=>simp at hu
   rw[vA]
   repeat(first|refine JL.q (by first|exact Y400|(apply OQ.bE (cs:=[Z pr.1,Z pr.2]);exact Tp;rfl;exact Mp;exact la;exact Y614;exact hcs)) rfl ?_|refine Y90 ?_)
   refine JL.alloc Ul rfl fun b4 _=>?_
   refine JL.ax (cs:=[Z pr.1,Z pr.2]) Mp rfl rfl rfl rfl .here rfl ?_
   cases hb:decide (pr.1=fF)
   · repeat(first|refine JL.q Y677 rfl ?_|refine Y91 ?_)
     refine Y245 ?_
     refine Y25 ?_
     rw[<- vA]
     exact JE.again (i:=i) (i+1) ⟨hi',hnext (of_decide_eq_false hb)⟩ Y609 Y640 (.nil _)
   · rw[hstep (of_decide_eq_true hb)]
     repeat(first|refine JL.q Y677 rfl ?_|refine Y91 ?_)
     refine Y246 ?_
     repeat(first|refine JL.q (by(apply OQ.load;exact bS;rfl;exact .here;exact(Row.cell (v:=Z pr.2) rfl))) rfl ?_|refine Y84 ?_)
     refine Y247 ?_
     refine Y2 ?_
     exact Y248
 · have hi':¬ i<ps.l.length:=of_decide_eq_false h
   obtain rfl:i=ps.l.length:=by omega
   rw[Ks hno]
   refine Y11 ?_
   exact Y244
end
section
open Sl aq Tok gZ zo
structure kG where
 fr:List Bt
 to:List Bt
 id:List Bt
 th:List Bt
 pl:Bool
 bu:ay
 ci:ay
def kG.cs(e:kG):List Value:=[Z e.fr,Z e.to,Z e.id,Z e.th,.bool e.pl,e.bu.v,e.ci.v]
def kG.en(e:kG):jo:=⟨e.fr,e.to,e.id,e.th,e.pl,e.bu.l,e.ci.l⟩
structure kG.ok (w:World) (e:kG):Prop where
 bu:e.bu.ok w
 ci:e.ci.ok w
theorem kG.ok.holds{w0 w:World}{M:List aL}{e:kG}(h:e.ok w0)(hw:aa w0 [] M w):e.ok w:=⟨h.bu.holds hw rfl,h.ci.holds hw rfl⟩
structure kG.low (e:kG):Prop where
 fr:e.fr.length<=300
 to:e.to.length<=300
 id:e.id.length<=300
 th:e.th.length<=300
 ci:e.ci.l.length<=3000
 bu:e.bu.l.length<=4000
theorem w9:kM Tryz.prog 24=true:=by kernel_rfl
theorem oX:gX Tryz.prog 24=some 7:=by kernel_rfl
theorem Q7:zc Tryz.prog 24=some [Z [],Z [],Z [],Z [],.bool false,aB.v,aB.v]:=by kernel_rfl
theorem BL:gD Tryz.prog 4=true:=by kernel_rfl
theorem jr:gD Tryz.prog 22=true:=by kernel_rfl
theorem qp:aJ Tryz.prog 7:=⟨_,Tryz.func7,rfl,by kernel_rfl⟩
def vw(e:kG):Bool:=decide (300<e.fr.length)||(decide (300<e.to.length)||(decide (300<e.id.length)||(decide (300<e.th.length)||(decide (3000<e.ci.l.length)||decide (4000<e.bu.l.length)))))
theorem Ho{e:kG}(h:vw e=false):e.low:=by
 simp only[vw,Bool.or_eq_false_iff,decide_eq_false_iff_not] at h
 exact⟨by omega,by omega,by omega,by omega,by omega,by omega⟩
theorem BM(e:kG)(w:World):Calls Tryz.prog 7 [.agg e.cs.toArray].toArray w fun x w'=>x=.returned (.bool (vw e))/\Ext w w':=by
 refine enter (n:=37) Tryz.func7 rfl rfl rfl (aa.start w []) ?_
 refine JC.seq (JC.region (JL.box (r:=e.cs) rfl rfl rfl fun b1 _=>?_))
 unfold vw
 have i0:decide ((300:Int)<(e.fr.length:Int))=decide (300<e.fr.length):=by simp only[Int.ofNat_lt,show(300:Int)=((300:Nat):Int) from rfl]
 have i1:decide ((300:Int)<(e.to.length:Int))=decide (300<e.to.length):=by simp only[Int.ofNat_lt,show(300:Int)=((300:Nat):Int) from rfl]
 have i2:decide ((300:Int)<(e.id.length:Int))=decide (300<e.id.length):=by simp only[Int.ofNat_lt,show(300:Int)=((300:Nat):Int) from rfl]
 have i3:decide ((300:Int)<(e.th.length:Int))=decide (300<e.th.length):=by simp only[Int.ofNat_lt,show(300:Int)=((300:Nat):Int) from rfl]
 have i4:decide ((3000:Int)<(e.ci.l.length:Int))=decide (3000<e.ci.l.length):=by simp only[Int.ofNat_lt,show(3000:Int)=((3000:Nat):Int) from rfl]
 have i5:decide ((4000:Int)<(e.bu.l.length:Int))=decide (4000<e.bu.l.length):=by simp only[Int.ofNat_lt,show(4000:Int)=((4000:Nat):Int) from rfl]
 rw[<- i0,<- i1,<- i2,<- i3,<- i4,<- i5]
 clear i0 i1 i2 i3 i4 i5
 cases g0:decide ((300:Int)<(e.fr.length:Int))
 cases g1:decide ((300:Int)<(e.to.length:Int))
 cases g2:decide ((300:Int)<(e.id.length:Int))
 cases g3:decide ((300:Int)<(e.th.length:Int))
 cases g4:decide ((3000:Int)<(e.ci.l.length:Int))
 cases g5:decide ((4000:Int)<(e.bu.l.length:Int))
 all_goals (repeat(first|refine JL.q (by first|exact Y402|exact Y403|exact Y404|exact Y405|(apply OQ.load;exact jr;rfl;exact .here;exact(Row.cell (v:=e.ci.v) rfl))|(apply OQ.load;exact jr;rfl;exact .here;exact(Row.cell (v:=e.bu.v) rfl))|exact Y322|exact Y406|(apply OQ.cZ (a:=(e.fr.length:Int)) (b:=300);rfl;rfl;exact g0)|(apply OQ.cZ (a:=(e.to.length:Int)) (b:=300);rfl;rfl;exact g1)|(apply OQ.cZ (a:=(e.id.length:Int)) (b:=300);rfl;rfl;exact g2)|(apply OQ.cZ (a:=(e.th.length:Int)) (b:=300);rfl;rfl;exact g3)|(apply OQ.cZ (a:=(e.ci.l.length:Int)) (b:=3000);rfl;rfl;exact g4)|(apply OQ.cZ (a:=(e.bu.l.length:Int)) (b:=4000);rfl;rfl;exact g5)|exact Y330|exact Y331|exact Y323|exact Y324|exact Y377) rfl ?_|refine JC.seq ?_|refine JC.region ?_|refine JL.nil ?_|refine JE.next ?_|refine JL.bG rfl rfl ?_|refine JL.aM rfl rfl rfl rfl ?_))
 all_goals refine JC.ret ?_
 all_goals (skip)
 all_goals exact JE.aK rfl (RV.tmp rfl) fun w' hw=>⟨rfl,hw.aH⟩
theorem ya:aJ Tryz.prog 45:=⟨_,Tryz.func45,rfl,by kernel_rfl⟩
theorem rN:aJ Tryz.prog 46:=⟨_,Tryz.func46,rfl,by kernel_rfl⟩
theorem DM:aJ Tryz.prog 81:=⟨_,Tryz.func81,rfl,by kernel_rfl⟩
theorem DN:aJ Tryz.prog 80:=⟨_,Tryz.func80,rfl,by kernel_rfl⟩
theorem Hp:aJ Tryz.prog 126:=⟨_,Tryz.func126,rfl,by kernel_rfl⟩
theorem Hq:aJ Tryz.prog 24:=⟨_,Tryz.func24,rfl,by kernel_rfl⟩
theorem xb:Tryz.prog.follows .mixedOrders=true:=by kernel_rfl
def SP:List aq.By:=[60,62,40,41,34,92]
def DO(c:aq.By):Bool:=(decide ((c.toNat:Int)<33)||decide ((126:Int)<(c.toNat:Int)))||decide ((0:Int)<=kO c SP)
theorem Nn(c:aq.By):DO c=!jS c:=by
 have h:∀ c:Fin 256,DO (BitVec.ofNat 8 c.val)=!jS (BitVec.ofNat 8 c.val):=by decide +kernel
 simpa using h ⟨c.toNat,c.isLt⟩
theorem Hr(c:Bt)(w:World):Calls Tryz.prog 81 [U8 c].toArray w fun e w'=>e=.returned (.bool (DO c))/\Ext w w':=by
 refine enter (n:=14) Tryz.func81 rfl rfl rfl (aa.start w []) ?_
 have ci:=fun w'=>qa SP c w'
 unfold DO
 cases h1:decide ((c.toNat:Int)<33)
 cases h2:decide ((126:Int)<(c.toNat:Int))
 cases h3:decide ((0:Int)<=kO c SP)
 all_goals (repeat(first|refine JL.q (by first|(apply OQ.fV (b:=33);rfl;rfl;exact h1)|(apply OQ.cZ (b:=126);rfl;rfl;exact h2)|(apply OQ.ai (vs:=[Z SP,U8 c]);exact nW;rfl;exact(fun w' _=>ci w'))|(apply OQ.dn (b:=0);rfl;rfl;exact h3)) rfl ?_|refine JL.bG rfl rfl ?_|refine JL.aM rfl rfl rfl rfl ?_|refine Y12 ?_))
 all_goals exact JC.ret (JE.aK rfl (RV.tmp rfl) fun w' hw=>⟨rfl,hw.aH⟩)
abbrev Kt:Value:=.func (.func 81) #[] ([]:List Value).toArray
theorem Ku(w:World):kP Tryz.prog w Kt DO:=⟨81,[],rfl,DM,fun c w' _=>Hr c w'⟩
def ON(p:aq.By->Bool)(l:List aq.By):Int:=if (l.takeWhile fun c=>!p c).length<l.length then((l.takeWhile fun c=>!p c).length:Int) else -1
theorem zX(p:aq.By->Bool)(c:aq.By)(l:List aq.By):((c::l).takeWhile fun c=>!p c)=if p c then [] else c::(l.takeWhile fun c=>!p c):=by
 rw[List.takeWhile_cons]
 cases p c <;> rfl
theorem zY(p:aq.By->Bool):∀ {l:List aq.By},l.all (fun c=>!p c)=true↔(l.takeWhile fun c=>!p c)=l
 | []=>by simp
 | c::l=>by
   rw[zX,List.all_cons]
   cases p c with
   | true=>simp
   | false=>simp only[Bool.not_false,Bool.true_and,Bool.false_eq_true,if_false,List.cons.injEq,true_and];exact zY p
theorem No(p:aq.By->Bool):∀ (l:List aq.By) (i:Nat),i<l.length->(l.take i).all (fun c=>!p c)=true->p (l.getD i 0)=true->ON p l=(i:Int):=by
 have key:∀ (l:List aq.By) (i:Nat),i<l.length->(l.take i).all (fun c=>!p c)=true->p (l.getD i 0)=true->(l.takeWhile fun c=>!p c).length=i:=by
  intro l
  induction l with
  | nil=>intro i h;simp at h
  | cons c l ih=>
    intro i h h1 h2
    cases i with
    | zero=>
      have:p c=true:=h2
      rw[zX,this]
      rfl
    | succ i=>
      rw[List.take_succ_cons,List.all_cons,Bool.and_eq_true] at h1
      rw[zX,show p c=false by simpa using h1.1]
      show((l.takeWhile fun c=>!p c).length+1)=_
      rw[ih i Y616 h1.2 h2]
 intro l i h h1 h2
 unfold ON
 rw[key l i h h1 h2,if_pos h]
theorem Kv(p:aq.By->Bool){l:List aq.By}(h:l.all (fun c=>!p c)=true):ON p l=-1:=by
 unfold ON
 rw[if_neg]
 rw[(zY p).1 h]
 omega
theorem Np(p:aq.By->Bool)(l:List aq.By):decide ((0:Int)<=ON p l)=!(l.all fun c=>!p c):=by
 cases h:l.all fun c=>!p c with
 | true=>rw[Kv p h];rfl
 | false=>
   unfold ON
   rw[if_pos]
   · exact decide_eq_true Y609
   · have hle:(l.takeWhile fun c=>!p c).length<=l.length:=(List.takeWhile_prefix _).length_le
     refine Nat.lt_of_le_of_ne hle fun e=>?_
     have:(l.takeWhile fun c=>!p c)=l:=(List.takeWhile_prefix _).eq_of_length e
     have h2:l.all (fun c=>!p c)=true:=(zY p).2 this
     rw[h] at h2
     cases h2
theorem Kw(s:ay)(fv:Value)(p:aq.By->Bool)(w:World)(hs:s.ok w)(hF:kP Tryz.prog w fv p)(hl:s.l.length<9223372036854775807) :
  Calls Tryz.prog 126 [s.v,fv].toArray w fun e w'=>e=.returned (.int .i64 (ON p s.l))/\Ext w w':=by
 refine enter (n:=19) Tryz.func126 rfl rfl rfl (aa.start w []) ?_
 refine Y92 ?_
 refine JC.loop (fun i:Nat=>[(0,s.v),(1,fv),(7,N s.l.length),(8,N i)]) (fun _=>[]) (fun i=>s.l.length-i) (fun i=>i<=s.l.length/\(s.l.take i).all (fun c=>!p c)=true) 0 ⟨Nat.zero_le _,rfl⟩ Y640 (aj.refl _) ?_
 rintro i ⟨hi,hp⟩
 refine Y22 ?_
 refine JC.cond rfl (fun h=>?_) (fun h=>?_)
 · have hi':i<s.l.length:=of_decide_eq_true h
   clear h hi
   obtain⟨ba,ja,hae,hca⟩:=hs.reads.at Y624
   have hc:=hca i _ (dF U8 0 hi')
   have vA:s.v=.slice (some ⟨ba,ja,none⟩) s.l.length s.cap:=by rw[<- hae];rfl
   have hall:=eK (fun c=>!p c) s.l 0 hi'
   have hhit:=No p s.l i hi' hp
   rw[hp,Bool.true_and] at hall
   generalize s.l.getD i 0=c at hc hall hhit
   rw[vA]
   cases h1:p c
   · rw[h1] at hall
     repeat(first|refine JL.q Y678 rfl ?_|refine Y93 ?_)
     refine Y245 ?_
     refine Y25 ?_
     rw[<- vA]
     exact Y264
   · rw[hhit h1]
     repeat(first|refine JL.q Y678 rfl ?_|refine Y93 ?_)
     refine Y246 ?_
     refine Y24 ?_
     refine Y247 ?_
     refine Y2 ?_
     exact Y248
 · have hi':¬ i<s.l.length:=of_decide_eq_false h
   clear h
   rw[List.take_of_length_le Y609] at hp
   rw[Kv p hp]
   refine Y11 ?_
   refine Y247 ?_
   skip
   exact Y248
theorem Hs(s:ay)(fv:Value)(p:aq.By->Bool)(w:World)(hs:s.ok w)(hF:kP Tryz.prog w fv p)(hl:s.l.length<9223372036854775807) :
  Calls Tryz.prog 80 [s.v,fv].toArray w fun e w'=>e=.returned (.bool (!(s.l.all fun c=>!p c)))/\Ext w w':=by
 refine enter (n:=9) Tryz.func80 rfl rfl rfl (aa.start w []) ?_
 have hi:=Np p s.l
 repeat(first|refine JL.q (by first|(apply OQ.ai (vs:=[s.v,fv]);exact Hp;rfl;exact(fun w' hw'=>Kw s fv p w' (hs.holds hw' rfl) (hF.holds hw') hl))|(apply OQ.dn (a:=ON p s.l) (b:=0);rfl;rfl;exact hi)) rfl ?_|refine Y0 ?_)
 refine Y247 ?_
 skip
 exact Y248
theorem vz(s:List Bt)(w:World):Calls Tryz.prog 46 [Z s].toArray w fun e w'=>e=.returned (.bool (mX s))/\Ext w w':=by
 refine enter (n:=14) Tryz.func46 rfl rfl rfl (aa.start w []) ?_
 cases h1:decide (s=[])
 cases h2:decide ((200:Int)<(s.length:Int))
 rotate_left
 · have hF:mX s=false:=by
    unfold mX
    rw[decide_eq_false (p:=s.length<=200) Y679,Bool.and_false,Bool.and_false]
   rw[hF]
   repeat(first|refine JL.q Y680 rfl ?_|refine JL.bG rfl rfl ?_|refine Y40 ?_)
   refine Y246 ?_
   refine Y3 ?_
   refine Y247 ?_
   refine Y250 ?_
   exact Y248
 · have hF:mX s=false:=by
    rw[of_decide_eq_true h1]
    rfl
   rw[hF]
   repeat(first|refine JL.q (by exact Y409) rfl ?_|refine JL.aM rfl rfl rfl rfl ?_|refine Y79 ?_)
   refine Y246 ?_
   refine Y3 ?_
   refine Y247 ?_
   refine Y250 ?_
   exact Y248
 · have h20:s.length<=200:=by have:=of_decide_eq_false h2;omega
   have hne:s≠[]:=of_decide_eq_false h1
   have hI:mX s=s.all jS:=by
    unfold mX
    rw[decide_eq_true (p:=1<=s.length) (by have:=List.length_pos_iff.2 hne;omega),decide_eq_true h20]
    simp
   have hA:(!(!(s.all fun c=>!DO c)))=mX s:=by
    rw[hI,Bool.not_not]
    congr 1
    funext c
    rw[Nn,Bool.not_not]
   rw[<- hA]
   repeat(first|refine JL.q Y680 rfl ?_|refine JL.bG rfl rfl ?_|refine Y40 ?_)
   refine Y245 ?_
   refine Y94 ?_
   refine JL.SL Tryz.underlying9 Tryz.underlying22 Tryz.underlying5 rfl rfl fun b1 cap1=>?_
   rw[jy]
   repeat(first|refine JL.q (by first|(apply OQ.ai (vs:=[ay.v ⟨some ⟨b1,0,none⟩,cap1,s⟩,Kt]);exact DN;rfl;exact(fun w' hw'=>Hs ⟨some ⟨b1,0,none⟩,cap1,s⟩ Kt DO w' (ay.bU hw' nofun) (Ku w') (by show s.length<_;omega)))|exact Y329|exact Y324) rfl ?_|refine JL.nil ?_|refine JE.next ?_)
   refine Y247 ?_
   skip
   exact Y248
theorem BN(s:List Bt)(w:World)(hl:s.length<1000000):Calls Tryz.prog 45 [Z s].toArray w fun e w'=>e=.returned (.bool (ux s))/\Ext w w':=by
 refine enter (n:=17) Tryz.func45 rfl rfl rfl (aa.start w []) ?_
 have ca:=fun w'=>xW s w' hl
 unfold ux
 generalize (cH s).1=a at ca⊢
 generalize (cH s).2=k at ca⊢
 have ik:decide ((k:Int)=0)=decide (k=0):=decide_eq_decide.2 Y609
 rw[<- ik]
 cases h1:decide ((k:Int)=0)
 case true=>
  cases h2:decide (a=s)
  all_goals (repeat(first|refine JL.q (by first|exact Y410|exact Y411|(apply OQ.fR (l:=a) (r:=s);rfl;rfl;exact h2)) rfl ?_|refine JL.bG rfl rfl ?_|refine Y95 ?_))
  all_goals refine JC.ret ?_
  all_goals (skip)
  all_goals exact JE.aK rfl (RV.tmp rfl) fun w' hw=>⟨rfl,hw.aH⟩
 repeat(first|refine JL.q (by first|exact Y410|exact Y411) rfl ?_|refine JL.aM rfl rfl rfl rfl ?_|refine Y96 ?_)
 refine Y247 ?_
 skip
 exact Y248
def qq(a b c d f:Bool):List Value:=[.bool a,.bool b,.bool c,.bool d,.bool f]
theorem Q8:kM Tryz.prog 53=true:=by kernel_rfl
theorem Nq:gX Tryz.prog 53=some 5:=by kernel_rfl
theorem Tq:zc Tryz.prog 53=some (qq false false false false false):=by kernel_rfl
def jj(w:World):Prop:=∃ e fr,w.heap[0]?=some (.cells (qq true true true true true).toArray e fr)
theorem jj.lt{w:World}(h:jj w):0<w.heap.size:=by
 obtain⟨e,fr,h⟩:=h
 exact(Array.getElem?_eq_some_iff.1 h).1
theorem jj.ext{w w':World}(h:jj w)(hx:Ext w w'):jj w':=by
 have hl:=h.lt
 obtain⟨e,fr,h⟩:=h
 exact⟨e,fr,(hx.block _ hl Y614).trans h⟩
theorem jj.holds{w0 w:World}{M:List aL}(h:jj w0)(hw:aa w0 [] M w):jj w:=h.ext hw.aH
theorem jj.cell{w:World}(h:jj w):∀ i u,(qq true true true true true)[i]?=some u->w.cell? ⟨0,0+i,none⟩=some u:=fun i u hu=>by
 obtain⟨e,fr,h⟩:=h
 exact cell_of h (by show((qq true true true true true).toArray)[0+i]?=some u;rw[Nat.zero_add];simpa using hu)
section
variable {n:Nat} {E:Env} {C:World->Prop} {dst:Option Tmp} {ty:TypeId} {pos:String} {aft:Array Edge} {g:Option (Nat × Bool)} {x y:Operand}
theorem OQ.RX{a b c d f r:Bool}(hx:ev E x=some (.agg (qq a b c d f).toArray))(hy:ev E y=some (.agg (qq true true true true true).toArray))(h:(a&&(b&&(c&&(d&&f))))=r):OQ Tryz.prog n E C ⟨dst,.binOp .neq 53 x y 53,ty,pos,aft,g⟩ (.bool (!r)):=by
 refine OQ.Uj (la:=[.bool a,.bool b,.bool c,.bool d,.bool f]) (lb:=[.bool true,.bool true,.bool true,.bool true,.bool true]) Y636 Y636 hx hy Y636 Y636 Y636 Y636 ?_
 subst h
 simp
theorem OQ.Nr{x1 x2 x3 x4 x5:Operand}{a b c d f:Bool}(h1:ev E x1=some (.bool a))(h2:ev E x2=some (.bool b))(h3:ev E x3=some (.bool c))(h4:ev E x4=some (.bool d))(h5:ev E x5=some (.bool f)):OQ Tryz.prog n E C ⟨dst,.build 53 #[(0,x1),(1,x2),(2,x3),(3,x4),(4,x5)],ty,pos,aft,g⟩ (.agg (qq a b c d f).toArray):=by
 refine OQ.run fun k hk w _=>?_
 have e1:=hk.eval h1
 have e2:=hk.eval h2
 have e3:=hk.eval h3
 have e4:=hk.eval h4
 have e5:=hk.eval h5
 have h3:=run_build (P:=Tryz.prog) w 53 #[(0,.bool a),(1,.bool b),(2,.bool c),(3,.bool d),(4,.bool f)] (qq a b c d f).toArray Y636
 simp[execOp,e1,e2,e3,e4,e5,Sem.run_bind,h3]
end
theorem Kx(e:kG)(w:World)(h1:e.fr.length<1000000)(h2:e.to.length<1000000):Calls Tryz.prog 24 [.agg e.cs.toArray].toArray w fun x w'=>x=.returned (.agg (qq (ux e.fr) (ux e.to) (mX e.id) (mX e.th) (decide ((e.bu.l.length:Int)<=3000))).toArray)/\Ext w w':=by
 refine enter (n:=20) Tryz.func24 rfl rfl rfl (aa.start w []) ?_
 refine JC.seq (JC.region (JL.box (r:=e.cs) rfl rfl rfl fun b1 _=>?_))
 refine JL.alloc Tq rfl fun b2 _=>?_
 refine Y97 ?_
 refine JC.tail 17 xb Y636 ?_
 repeat(first|refine JQ.q (by first|exact Y412|exact Y413|exact Y414|exact Y415|exact Y416|(apply OQ.ai (vs:=[Z e.fr]);exact ya;rfl;exact(fun w' _=>BN e.fr w' h1))|(apply OQ.ai (vs:=[Z e.to]);exact ya;rfl;exact(fun w' _=>BN e.to w' h2))|(apply OQ.ai (vs:=[Z e.id]);exact rN;rfl;exact(fun w' _=>vz e.id w'))|(apply OQ.ai (vs:=[Z e.th]);exact rN;rfl;exact(fun w' _=>vz e.th w'))|exact Y406|(apply OQ.fA (b:=3000);rfl;rfl;rfl)|(apply OQ.Nr;rfl;rfl;rfl;rfl;rfl)|exact Y377) rfl ?_|refine JQ.Jw ?_)
 refine JL.ax (cs:=qq (ux e.fr) (ux e.to) (mX e.id) (mX e.th) (decide ((e.bu.l.length:Int)<=3000))) Nq rfl rfl rfl rfl .here rfl ?_
 refine Y98 ?_
 refine Y247 ?_
 skip
 exact JE.aK rfl (RV.aT (cs:=qq (ux e.fr) (ux e.to) (mX e.id) (mX e.th) (decide ((e.bu.l.length:Int)<=3000))) Q8 Nq rfl .here rfl Row.all) fun w' hw=>⟨rfl,hw.aH⟩
end
section
namespace gZ
open aq
def br(r:List By):List By:=if r.getLast?=some 10 then(if r.dropLast.getLast?=some 13 then r.dropLast.dropLast else r.dropLast) else r
def fY(d:List By):Nat:=if (d.takeWhile (· != 10)).length<d.length then(d.takeWhile (· != 10)).length+1 else d.length
theorem Ns(d:List By):fY d<=d.length:=by
 unfold fY
 split <;> omega
theorem n7(x:List By)(c:By):(x++[c]).getLast?=some c:=by simp
theorem zZ(x:List By):br (x++[13,10])=x:=by
 have e:x++[13,10]=(x++[13])++[10]:=by simp
 unfold br
 rw[e,if_pos (n7 _ _),List.dropLast_concat,if_pos (n7 _ _),List.dropLast_concat]
theorem tT{x:List By}(h:x.getLast?≠some 13):br (x++[10])=x:=by
 unfold br
 rw[if_pos (n7 _ _),List.dropLast_concat,if_neg h]
theorem Nt{x:List By}(h:x.getLast?≠some 10):br x=x:=by
 unfold br
 rw[if_neg h]
theorem FF:∀ d:List By,(∃ p r,d=p++10::r/\(∀ c∈p,c≠10)/\d.takeWhile (· != 10)=p)\/((∀ c∈d,c≠10)/\d.takeWhile (· != 10)=d)
 | []=>.inr ⟨by simp,rfl⟩
 | c::d=>by
   by_cases h:c=10
   · subst h
     exact .inl ⟨[],d,rfl,by simp,by simp⟩
   · have hb:(c != 10)=true:=by simpa using h
     rcases FF d with⟨p,r,e,h1,h2⟩|⟨h1,h2⟩
     · refine .inl ⟨c::p,r,by rw[e];rfl,?_,?_⟩
       · intro x hx
         rcases List.mem_cons.1 hx with rfl|hx
         · exact h
         · exact h1 x hx
       · rw[List.takeWhile_cons,if_pos hb,h2]
     · refine .inr ⟨?_,?_⟩
       · intro x hx
         rcases List.mem_cons.1 hx with rfl|hx
         · exact h
         · exact h1 x hx
       · rw[List.takeWhile_cons,if_pos hb,h2]
theorem vC:∀ (p r x:List By),(∀ c∈p,c≠10)->fk (p++r) x=fk r (x++p)
 | [],r,x,_=>by simp
 | c::p,r,x,h=>by
   show fk (c::(p++r)) x=_
   rw[fk,if_neg (h c Y614),vC p r (x++[c]) (fun y hy=>h y (by simp[hy]))]
   simp
theorem j3{d:List By}(h:d≠[]):∃ e,di d=(br (d.take (fY d)),e)::di (d.drop (fY d))/\d.take (fY d)=br (d.take (fY d))++e/\(fY d<d.length->e=[10]/\(br (d.take (fY d))).getLast?≠some 13\/e=[13,10])/\(fY d<d.length->∃ p,d.take (fY d)=p++[10]/\∀ c∈p,c≠10):=by
 rcases FF d with⟨p,r,e,h1,h2⟩|⟨h1,h2⟩
 · have hn:fY d=p.length+1:=by
    unfold fY
    rw[h2,if_pos (by rw[e];simp)]
   have ht:d.take (fY d)=p++[10]:=by
    rw[hn,e,show p++10::r=(p++[10])++r by simp]
    rw[List.take_left' Y614]
   have hd:d.drop (fY d)=r:=by
    rw[hn,e,show p++10::r=(p++[10])++r by simp]
    rw[List.drop_left' Y614]
   have hl:di d=fk (10::r) p:=by
    unfold di
    rw[e,vC p (10::r) [] h1]
    rfl
   rw[hd,ht,hl,fk,if_pos rfl]
   by_cases h13:p.getLast?=some 13
   · obtain⟨q,rfl⟩:∃ q,p=q++[13]:=List.getLast?_eq_some_iff.1 h13
     refine⟨[13,10],?_,?_,fun _=>.inr rfl,fun _=>⟨_,rfl,h1⟩⟩
     · rw[if_pos h13,show(q++[13])++[10]=q++[13,10] by simp,zZ,List.dropLast_concat]
       rfl
     · rw[show(q++[13])++[10]=q++[13,10] by simp,zZ]
   · refine⟨[10],?_,?_,fun _=>.inl ⟨rfl,?_⟩,fun _=>⟨_,rfl,h1⟩⟩
     · rw[if_neg h13,tT h13]
       rfl
     · rw[tT h13]
     · rw[tT h13];exact h13
 · have hn:fY d=d.length:=by
    unfold fY
    rw[h2,if_neg Y609]
   have ht:d.take (fY d)=d:=by rw[hn,List.take_length]
   have hd:d.drop (fY d)=[]:=by rw[hn,List.drop_length]
   have hw:br d=d:=Nt (fun hh=>by
    have hm:(10:By)∈d:=List.mem_of_getLast? hh
    exact h1 10 hm rfl)
   refine⟨[],?_,?_,fun hh=>by omega,fun hh=>by omega⟩
   · rw[hd,ht,hw]
     unfold di
     have:=vC d [] [] h1
     rw[List.append_nil,List.nil_append] at this
     rw[this,fk,if_neg h]
     rfl
   · rw[ht,hw,List.append_nil]
def qt(bd b:List By):Option (List (List By)):=fD bd ((di b).dropWhile fun x=>aX bd x.1 != 1) []
def j4(bd b:List By)(at':Nat):Option Nat->List (List By)->Prop
 | none,out=>out=[]/\qt bd b=fD bd ((di (b.drop at')).dropWhile fun x=>aX bd x.1 != 1) []
 | some bg,out=>bg<=at'/\∃ o p,o++p=(b.take at').drop bg/\(at'<b.length->br (o++p)=o/\(o++p).getLast?≠some 13)/\qt bd b=fD bd (gT bd (di (b.drop at')) p o).2 (out++[(gT bd (di (b.drop at')) p o).1])
theorem DP(bd b:List By):j4 bd b 0 none []:=⟨rfl,rfl⟩
theorem FG{bd l e:List By}{r:List (List By × List By)}{o:List (List By)}(h:aX bd l=1):fD bd ((l,e)::r) o=fD bd (gT bd r [] []).2 (o++[(gT bd r [] []).1]):=by
 rw[fD];simp[h]
theorem Nu{bd l e:List By}{r:List (List By × List By)}{o:List (List By)}(h:aX bd l=2):fD bd ((l,e)::r) o=some o:=by
 rw[fD];simp[h]
def fM(b:List By)(at':Nat):List By:=(b.drop at').take (fY (b.drop at'))
theorem n8(b:List By)(at':Nat):(b.drop at').drop (fY (b.drop at'))=b.drop (at'+fY (b.drop at')):=by rw[List.drop_drop]
theorem qu{b:List By}{at':Nat}(h:at'<b.length):b.drop at'≠[]:=by
 rw[Ne,List.drop_eq_nil_iff];omega
theorem Ht(b:List By){bg at' n:Nat}(h:bg<=at')(h1:at'<=b.length):(b.take (at'+n)).drop bg=(b.take at').drop bg++(b.drop at').take n:=by
 have e:b.take (at'+n)=b.take at'++(b.drop at').take n:=List.take_add
 rw[e,List.drop_append_of_le_length Y625]
theorem yc{bd b:List By}{at':Nat}(h:at'<b.length)(hs:j4 bd b at' none [])(hm:aX bd (br (fM b at'))≠1):j4 bd b (at'+fY (b.drop at')) none []:=by
 obtain⟨_,hg⟩:=hs
 obtain⟨e,hl,_⟩:=j3 (qu h)
 refine⟨rfl,?_⟩
 have hc:(aX bd (br (fM b at')) != 1)=true:=by simpa using hm
 rw[hg,hl,List.dropWhile_cons,n8]
 show(if (aX bd (br (fM b at')) != 1)=true then _ else _:List _) |> fun x=>fD bd x []=_
 rw[if_pos hc]
theorem BO(b:List By)(m:Nat):(b.take m).drop m=[]:=by
 rw[List.drop_eq_nil_iff,List.length_take];omega
theorem Ky{bd b:List By}{at':Nat}(h:at'<b.length)(hs:j4 bd b at' none [])(hm:aX bd (br (fM b at'))=1):j4 bd b (at'+fY (b.drop at')) (some (at'+fY (b.drop at'))) []:=by
 obtain⟨_,hg⟩:=hs
 obtain⟨e,hl,_⟩:=j3 (qu h)
 refine⟨Nat.le_refl _,[],[],?_,fun _=>⟨rfl,by simp⟩,?_⟩
 · rw[BO];rfl
 have hc:(aX bd (br (fM b at')) != 1)=false:=by simpa using hm
 rw[hg,hl,List.dropWhile_cons,n8]
 show(if (aX bd (br (fM b at')) != 1)=true then _ else _:List _) |> fun x=>fD bd x []=_
 rw[hc]
 show fD bd ((br (fM b at'),e)::_) []=_
 rw[FG hm]
theorem Hu{bd b:List By}{at' bg:Nat}{out:List (List By)}(h:at'<b.length)(hs:j4 bd b at' (some bg) out)(hm:aX bd (br (fM b at'))=0):j4 bd b (at'+fY (b.drop at')) (some bg) out:=by
 obtain⟨hle,o,p,h1,h2,hg⟩:=hs
 obtain⟨e,hl,he,h3,h4⟩:=j3 (qu h)
 refine⟨by omega,o++p++br (fM b at'),e,?_,fun hlt=>?_,?_⟩
 · rw[Ht b hle Y609,<- h1,List.append_assoc]
   congr 1
   exact he.symm
 · have hlt':fY (b.drop at')<(b.drop at').length:=by rw[List.length_drop];omega
   obtain⟨w1,w2⟩:=h2 h
   obtain⟨q,hq,hq1⟩:=h4 hlt'
   have hq:fM b at'=q++[10]:=hq
   have he:fM b at'=br (fM b at')++e:=he
   have hen:(o++p++br (fM b at')++e)=(o++p++q)++[10]:=by
    rw[List.append_assoc,<- he,hq,<- List.append_assoc]
   constructor
   · rcases h3 hlt' with⟨rfl,h13⟩|rfl
     · have h13:(br (fM b at')).getLast?≠some 13:=h13
       refine tT ?_
       cases hw:br (fM b at') with
       | nil=>rw[List.append_nil];exact w2
       | cons c r=>
         rw[hw] at h13
         rw[List.getLast?_append]
         cases hq:(c::r).getLast? with
         | none=>simp at hq
         | some x=>rw[hq] at h13;exact h13
     · exact zZ _
   · rw[hen,n7]
     decide
 · rw[hg,hl,gT,if_pos (show aX bd (br ((b.drop at').take (fY (b.drop at'))))=0 from hm),n8]
   rfl
theorem Hv{bd b:List By}{at' bg:Nat}{out:List (List By)}(h:at'<b.length)(hs:j4 bd b at' (some bg) out)(hm:aX bd (br (fM b at'))=1):j4 bd b (at'+fY (b.drop at')) (some (at'+fY (b.drop at'))) (out++[br ((b.take at').drop bg)]):=by
 obtain⟨hle,o,p,h1,h2,hg⟩:=hs
 obtain⟨e,hl,_⟩:=j3 (qu h)
 refine⟨Nat.le_refl _,[],[],?_,fun _=>⟨rfl,by simp⟩,?_⟩
 · rw[BO];rfl
 rw[hg,hl,gT,if_neg Y681,n8,<- h1,(h2 h).1]
 show fD bd ((br (fM b at'),e)::_) _=_
 rw[FG hm]
theorem Hw{bd b:List By}{at' bg:Nat}{out:List (List By)}(h:at'<b.length)(hs:j4 bd b at' (some bg) out)(hm:aX bd (br (fM b at'))=2):qt bd b=some (out++[br ((b.take at').drop bg)]):=by
 obtain⟨hle,o,p,h1,h2,hg⟩:=hs
 obtain⟨e,hl,_⟩:=j3 (qu h)
 rw[hg,hl,gT,if_neg Y681,<- h1,(h2 h).1]
 show fD bd ((br (fM b at'),e)::_) _=_
 rw[Nu hm]
theorem jP{bd b:List By}{st:Option Nat}{out:List (List By)}(hs:j4 bd b b.length st out):qt bd b=none:=by
 have e:di (b.drop b.length)=[]:=by rw[List.drop_length];rfl
 cases st with
 | none=>
   rw[hs.2,e]
   rw[List.dropWhile_nil,fD]
 | some bg=>
   obtain⟨_,o,p,_,_,hg⟩:=hs
   rw[hg,e]
   rw[gT,fD]
theorem Hx{bd b:List By}(h:cG bd=true):de b bd=match qt bd b with
  | none=>([],3)
  | some out=>(out,0):=by
 unfold de qt
 rw[if_neg (by rw[h];decide)]
 split <;> rename_i hh <;> rw[hh]
end gZ
end
section
open Sl
theorem mj:aJ Tryz.prog 139:=⟨_,Tryz.func139,rfl,by kernel_rfl⟩
theorem qv:aJ Tryz.prog 162:=⟨_,Tryz.func162,rfl,by kernel_rfl⟩
def preB(s d:List Bt):Bool:=decide ((d.length:Int)<=(s.length:Int))&&decide (s.take d.length=d)
def Hy(s d:List Bt):Bool:=decide ((d.length:Int)<=(s.length:Int))&&decide (s.drop (s.length-d.length)=d)
theorem OQ.isNil{P:Program}{n:Nat}{E:Env}{C:World->Prop}{dst:Option Tmp}{t t' ty e:TypeId}{pos:String}{aft:Array Edge}{g:Option (Nat × Bool)}{x y:Operand}{ad:Option Addr}{k cap:Nat}(hu:P.underlying t=some (.slice e))(hx:ev E x=some (.slice ad k cap))(hy:ev E y=some (.slice none 0 0)) :
  OQ P n E C ⟨dst,.binOp .eql t x y t',ty,pos,aft,g⟩ (.bool ad.isNone):=
 OQ.run fun c ha w _=>by
  have h1:=ha.eval hx
  have h2:=ha.eval hy
  have h4:(binOp .eql t (.slice ad k cap) (.slice none 0 0)).run P w=.ok (.bool ad.isNone) w:=by
   show(do pure (.bool (<- Op.equal t (.slice ad k cap) (.slice none 0 0))):Sem Value).run P w=_
   simp[Sem.run_bind,run_equal_slice_nil w t e ad k cap hu]
  simp[execOp,h1,h2,eqGuard,h4]
theorem rO(a b:ay)(w:World)(ha:a.ok w)(hb:b.ok w):Calls Tryz.prog 139 [a.v,b.v].toArray w fun e w'=>e=.returned (.bool (decide (a.l=b.l)))/\Ext w w':=by
 refine enter (n:=10) Tryz.func139 rfl rfl rfl (aa.start w []) ?_
 repeat(first|refine JL.q (by first|(apply OQ.wU (s:=a);exact Tryz.underlying22;exact Tryz.underlying5;exact Tryz.underlying9;rfl;exact(fun w' hw'=>ha.holds hw' rfl))|(apply OQ.wU (s:=b);exact Tryz.underlying22;exact Tryz.underlying5;exact Tryz.underlying9;rfl;exact(fun w' hw'=>hb.holds hw' rfl))|(apply OQ.TT;rfl;rfl)|exact Y323|exact Y324) rfl ?_|refine JC.seq ?_|refine JC.region ?_|refine JL.nil ?_|refine JE.next ?_)
 exact Y244
theorem Nv(s d:ay)(w:World)(hs:s.ok w)(hd:d.ok w):Calls Tryz.prog 107 [s.v,d.v].toArray w fun e w'=>e=.returned (.bool (preB s.l d.l))/\Ext w w':=by
 refine enter (n:=18) Tryz.func107 rfl rfl rfl (aa.start w []) ?_
 have hcap:=hs.len
 unfold preB
 cases h:decide ((d.l.length:Int)<=(s.l.length:Int))
 · repeat(first|refine JL.q (by exact Y417) rfl ?_|refine JL.aM rfl rfl rfl rfl ?_|refine Y99 ?_)
   exact Y244
 · have hle:d.l.length<=s.l.length:=by have:=of_decide_eq_true h;omega
   repeat(first|refine JL.q (by first|exact Y417|exact Y418|(apply OQ.ai (vs:=[(s.fst d.l.length).v,d.v]);exact mj;rfl;exact(fun w' hw'=>rO (s.fst d.l.length) d w' ((hs.holds hw' rfl).fst _) (hd.holds hw' rfl)))) rfl ?_|refine JL.bG rfl rfl ?_|refine Y100 ?_)
   exact Y244
theorem FH(s d:ay)(w:World)(hs:s.ok w)(hd:d.ok w)(hl:s.l.length<=4611686018427387904):Calls Tryz.prog 162 [s.v,d.v].toArray w fun e w'=>e=.returned (.bool (Hy s.l d.l))/\Ext w w':=by
 refine enter (n:=21) Tryz.func162 rfl rfl rfl (aa.start w []) ?_
 unfold Hy
 cases h:decide ((d.l.length:Int)<=(s.l.length:Int))
 · repeat(first|refine JL.q (by exact Y417) rfl ?_|refine JL.aM rfl rfl rfl rfl ?_|refine Y99 ?_)
   exact Y244
 · have hle:d.l.length<=s.l.length:=by have:=of_decide_eq_true h;omega
   have hsub:s.l.length-d.l.length<=s.l.length:=Nat.sub_le _ _
   repeat(first|refine JL.q (by first|exact Y417|(apply OQ.snd (s:=s);exact Tryz.underlying22;exact dD;rfl;rfl;exact hsub)|(apply OQ.ai (vs:=[(s.snd (s.l.length-d.l.length)).v,d.v]);exact mj;rfl;exact(fun w' hw'=>rO (s.snd (s.l.length-d.l.length)) d w' ((hs.holds hw' rfl).snd _ hsub) (hd.holds hw' rfl)))|exact Y330|exact Y323|exact Y324|exact Y378|exact Y338) rfl ?_|refine JC.seq ?_|refine JC.region ?_|refine JL.nil ?_|refine JE.next ?_|refine JL.bG rfl rfl ?_)
   exact Y244
theorem j5:aJ Tryz.prog 72:=⟨_,Tryz.func72,rfl,by kernel_rfl⟩
theorem n9(s:ay)(w:World)(hs:s.ok w)(hl:s.l.length<=4294967296):Calls Tryz.prog 72 [s.v].toArray w fun e w'=>∃ q:Acc,e=.returned (aD q s.l.length)/\(q=none->s.l=[])/\aa w [] (bw 5 q (s.l.map U8)) w':=by
 refine enter (n:=8) Tryz.func72 rfl rfl rfl (aa.start w []) ?_
 obtain⟨ad,cap,l⟩:=s
 cases ad with
 | none=>
   have h0:l=[]:=by
    cases l with
    | nil=>rfl
    | cons c l=>
      obtain⟨b,j,h1,_⟩:=hs.reads.at Y614
      cases h1
   refine Y101 ?_
   refine Y271 ?_
   refine Y3 ?_
   refine Y247 ?_
   refine Y250 ?_
   exact JE.aK rfl (RV.tmp rfl) fun w' hw=>⟨none,rfl,fun _=>h0,hw⟩
 | some ad=>
   refine Y101 ?_
   refine Y252 ?_
   refine Y102 ?_
   refine JL.lB Tryz.underlying22 dV rfl fun b0 _=>?_
   repeat(refine JL.q Y652 rfl ?_)
   refine JL.append (cs:=l.map U8) (m:=l.length) (ad:=some ad) (sc:=cap) (xs:=[]) (fun b' cap'=>[⟨b',Sl.Own 5 1 (0+l.length) cap' ([]++l.map U8),true⟩]) Tryz.underlying22 dV rfl rfl Y642 Y614 (fun w' hw'=>(hs.holds hw' rfl).reads) (sG _) rfl Y610 (by simp only[] at hl;omega) (by simp only[] at hl;omega) rfl fun b1 cap1=>?_
   rw[Nat.zero_add,List.nil_append]
   refine Y39 ?_
   refine JC.ret (JE.aK rfl (RV.tmp rfl) fun w' hw=>⟨some (b1,cap1),rfl,(fun h=>by cases h),?_⟩)
   show aa w [] [⟨b1,Sl.Own 5 1 (l.map U8).length cap1 (l.map U8),true⟩] w'
   rw[List.length_map]
   exact hw
end
section
open Sl aq
def RY(l:List Bt):List Int:=l.map fun c=>(c.toNat:Int)
theorem PS(l:List Bt):Go.Lib.bytesOf (RY l)=aq.dD l:=by
 unfold Go.Lib.bytesOf RY aq.dD
 rw[List.map_map]
 refine List.map_congr_left fun c _=>?_
 show UInt8.ofNat ((c.toNat:Int)).toNat=_
 rw[Int.toNat_natCast]
 apply UInt8.toBitVec_inj.1
 exact BitVec.eq_of_toNat_eq Y614
theorem Kz(c:aq.By):∀ l:List aq.By,Go.Lib.indexByte (aq.dD l) (UInt8.ofBitVec c)=kO c l
 | []=>rfl
 | d::r=>by
   show(if (UInt8.ofBitVec d==UInt8.ofBitVec c) then 0 else if Go.Lib.indexByte (aq.dD r) (UInt8.ofBitVec c) == -1 then -1 else Go.Lib.indexByte (aq.dD r) (UInt8.ofBitVec c)+1:Int)=_
   rw[Kz c r]
   unfold kO
   rw[jA]
   have hb:(UInt8.ofBitVec d==UInt8.ofBitVec c)=decide (d=c):=by
    by_cases h:d=c
    · subst h;simp
    · rw[decide_eq_false h]
      exact beq_eq_false_iff_ne.2 fun k=>h (congrArg UInt8.toBitVec k)
   rw[hb]
   by_cases hd:d=c
   · simp[hd]
   · simp only[hd,decide_false,Bool.false_eq_true,if_false,List.length_cons,Nat.add_lt_add_iff_right]
     by_cases h:fi c r<r.length
     · simp only[h,if_true]
       rw[if_neg Y633]
       omega
     · simp only[h,if_false]
       rfl
theorem OQ.Tr{P:Program}{n:Nat}{E:Env}{w0:World}{S:List Nat}{M:List aL}{dst:Option Tmp}{ty:TypeId}{pos:String}{aft:Array Edge}{g:Option (Nat × Bool)}{f:FuncId}{ats:Array TypeId}{x y:Operand}{s:ay}{c:Bt}(hf:zF P f)(hx:ev E x=some s.v)(hy:ev E y=some (U8 c))(hs:∀ w,aa w0 S M w->s.ok w) :
  OQ P n E (aa w0 S M) ⟨dst,.call ⟨.value (.func f),#[x,y],ats⟩,ty,pos,aft,g⟩ (I (kO c s.l)):=by
 refine⟨fun ac hk w hw=>?_⟩
 obtain⟨fn,h1,h2,h3,h4,h5⟩:=hf.go
 have hc:((c.toNat:Int)).toNat.toUInt8=UInt8.ofBitVec c:=by
  rw[Int.toNat_natCast]
  apply UInt8.toBitVec_inj.1
  apply BitVec.eq_of_toNat_eq
  simp[Nat.toUInt8,UInt8.ofNat]
 have hr:(Extern.BytealgIndexByte.indexByte #[s.v,U8 c]).run P w=.ok (I (kO c s.l)) w:=by
  have ok:=hs w hw
  obtain⟨ad,cap,l⟩:=s
  cases ad with
  | none=>
    have h0:l=[]:=by
     cases l with
     | nil=>rfl
     | cons d l=>
       obtain⟨b,j,k1,_⟩:=ok.reads.at Y614
       cases k1
    subst h0
    exact Lib.run_indexByteNil w 0 cap (c.toNat:Int)
  | some a=>
    have:=Lib.run_indexByteAt (P:=P) w a l.length cap (RY l) (by unfold RY;rw[List.length_map]) (fun i hi=>by
     obtain⟨b,j,k1,k2⟩:=ok.reads _ _ (dF U8 0 hi)
     cases k1
     rw[dH,k2]
     unfold RY
     rw[List.getD_eq_getElem?_getD,List.getD_eq_getElem?_getD,List.getElem?_map,List.getElem?_eq_getElem hi]
     rfl) (c.toNat:Int)
    rw[PS,hc,Kz] at this
    exact this
 have r:=run_callFunc_extern h1 h2 h3 h4 h5 #[s.v,U8 c] w
 rw[hr] at r
 unfold Oper.quietAt
 have r':(execOp ac.eval ⟨dst,.call ⟨.value (.func f),#[x,y],ats⟩,ty,pos,aft,g⟩).run P w=.ok (.value (I (kO c s.l))) w:=by
  simp only[Result.andThen] at r
  have k1:=hk.eval hx
  have k2:=hk.eval hy
  have e:(.ok (.value (I (kO c s.l))) w:Result Next)=(callFunc f #[s.v,U8 c]).run P w:=r.symm
  rw[e]
  simp[execOp,resolve,Sem.run_bind,Act.eval,Deferred.ofValue,invoke,k1,k2]
  simp[Act.eval] at k1 k2
  simp[k1,k2]
 rw[r']
 exact⟨rfl,rfl⟩
theorem Nw:zF Tryz.prog 242:=⟨_,Tryz.func242,rfl,rfl,by kernel_rfl,by kernel_rfl⟩
theorem yd:aJ Tryz.prog 213:=⟨_,Tryz.func213,rfl,by kernel_rfl⟩
theorem sR:aJ Tryz.prog 161:=⟨_,Tryz.func161,rfl,by kernel_rfl⟩
theorem ye:aJ Tryz.prog 112:=⟨_,Tryz.func112,rfl,by kernel_rfl⟩
theorem sS:aJ Tryz.prog 113:=⟨_,Tryz.func113,rfl,by kernel_rfl⟩
theorem BP(s:ay)(c:Bt)(w:World)(hs:s.ok w):Calls Tryz.prog 213 [s.v,U8 c].toArray w fun e w'=>e=.returned (I (kO c s.l))/\Ext w w':=by
 refine enter (n:=8) Tryz.func213 rfl rfl rfl (aa.start w []) ?_
 repeat(first|refine JL.q (by(apply OQ.Tr;exact Nw;rfl;rfl;exact(fun w' hw'=>hs.holds hw' rfl))) rfl ?_|refine Y0 ?_)
 exact Y244
theorem vD(s:ay)(b cap:Nat)(c:Bt)(w:World)(hs:s.ok w)(hd:(⟨some ⟨b,0,none⟩,cap,[c]⟩:ay).ok w):Calls Tryz.prog 161 [s.v,.slice (some ⟨b,0,none⟩) 1 cap].toArray w fun e w'=>e=.returned (I (kO c s.l))/\Ext w w':=by
 refine enter (n:=200) Tryz.func161 rfl rfl rfl (aa.start w []) ?_
 obtain⟨b',j',h1,h2⟩:=hd.reads.at Y614
 cases h1
 have hc:w.cell? ⟨b,0,none⟩=some (U8 c):=h2 0 _ rfl
 repeat(first|refine JL.q (by first|exact Y319|exact Y323|exact Y324|exact Y378) rfl ?_|refine JC.seq ?_|refine JC.region ?_|refine JC.block ?_|refine JL.nil ?_|refine JE.next ?_)
 refine Y245 ?_
 repeat(first|refine JL.q Y638 rfl ?_|refine Y0 ?_)
 refine Y246 ?_
 repeat(first|refine JL.q (by first|(apply OQ.pX (i:=0);exact Tryz.underlying22;exact dD;rfl;rfl;exact(Nat.zero_lt_succ 0))|exact Y407|(apply OQ.ai (vs:=[s.v,U8 c]);exact yd;rfl;exact(fun w' hw'=>BP s c w' (hs.holds hw' rfl)))) rfl ?_|refine Y0 ?_)
 refine Y247 ?_
 refine Y2 ?_
 exact Y248
def Nx(c:Bt)(s:ay):Value:=if fi c s.l<s.l.length then .tuple #[(s.fst (fi c s.l)).v,(s.snd (fi c s.l+1)).v,.bool true] else .tuple #[s.v,aB.v,.bool false]
theorem KA(s:ay)(b cap:Nat)(c:Bt)(w:World)(hl:s.l.length<9223372036854775807)(hs:s.ok w)(hd:(⟨some ⟨b,0,none⟩,cap,[c]⟩:ay).ok w):Calls Tryz.prog 112 [s.v,.slice (some ⟨b,0,none⟩) 1 cap].toArray w fun e w'=>e=.returned (Nx c s)/\Ext w w':=by
 refine enter (n:=23) Tryz.func112 rfl rfl rfl (aa.start w []) ?_
 have hcap:=hs.len
 by_cases h:fi c s.l<s.l.length
 · have e1:kO c s.l=(fi c s.l:Nat):=if_pos h
   have hle:fi c s.l<=s.l.length:=by omega
   have hle1:fi c s.l+1<=s.l.length:=h
   have hq:∀ w',aa w [] [] w'->Calls Tryz.prog 161 [s.v,.slice (some ⟨b,0,none⟩) 1 cap].toArray w' fun e w2=>e=.returned (N (fi c s.l))/\Ext w' w2:=fun w' hw'=>by
    have:=vD s b cap c w' (hs.holds hw' rfl) (hd.holds hw' rfl)
    rw[e1] at this
    exact this
   rw[show Nx c s=_ from if_pos h]
   generalize fi c s.l=k at hq hle hle1
   repeat(first|refine JL.q (by exact Y419) rfl ?_|refine Y0 ?_)
   refine Y4 ?_
   refine Y249 ?_
   refine JC.seq (JC.quiet oL Y636 ?_)
   repeat(refine JQ.q (by first|exact Y418|(apply OQ.snd (s:=s) (m:=k+1);exact Tryz.underlying22;exact dD;rfl;rfl;exact hle1)|exact Y323|exact Y324|exact Y378|exact Y337) rfl ?_)
   refine JQ.nil (JE.next ?_)
   refine Y247 ?_
   refine Y250 ?_
   exact Y251
 · have e1:kO c s.l=-1:=if_neg h
   have hq:∀ w',aa w [] [] w'->Calls Tryz.prog 161 [s.v,.slice (some ⟨b,0,none⟩) 1 cap].toArray w' fun e w2=>e=.returned (I (-1))/\Ext w' w2:=fun w' hw'=>by
    have:=vD s b cap c w' (hs.holds hw' rfl) (hd.holds hw' rfl)
    rw[e1] at this
    exact this
   rw[show Nx c s=_ from if_neg h]
   repeat(first|refine JL.q (by exact Y419) rfl ?_|refine Y0 ?_)
   repeat(first|refine JL.q (by exact Y325) rfl ?_|refine JL.nil ?_|refine JE.next ?_)
   refine Y252 ?_
   refine Y5 ?_
   refine Y247 ?_
   skip
   exact Y251
def js(c:Bt)(s:ay):ay:=if s.l.getLast?=some c then s.fst (s.l.length-1) else s
theorem Hz{c:Bt}{s:ay}{w:World}(h:s.ok w):(js c s).ok w:=by
 unfold js
 split
 · exact h.fst _
 · exact h
theorem BQ(l:List aq.By)(c:aq.By):Hy l [c]=decide (l.getLast?=some c):=by
 unfold Hy
 rcases List.eq_nil_or_concat l with rfl|⟨r,d,rfl⟩
 · simp
 · simp
   intro _
   omega
theorem vE(s:ay)(b cap:Nat)(c:Bt)(w:World)(hl:s.l.length<=4611686018427387904)(hs:s.ok w)(hd:(⟨some ⟨b,0,none⟩,cap,[c]⟩:ay).ok w):Calls Tryz.prog 113 [s.v,.slice (some ⟨b,0,none⟩) 1 cap].toArray w fun e w'=>e=.returned (js c s).v/\Ext w w':=by
 refine enter (n:=16) Tryz.func113 rfl rfl rfl (aa.start w []) ?_
 have hcap:=hs.len
 have hq:=fun w' (hw':aa w [] [] w')=>FH s ⟨some ⟨b,0,none⟩,cap,[c]⟩ w' (hs.holds hw' rfl) (hd.holds hw' rfl) hl
 rw[show Hy s.l (ay.l ⟨some ⟨b,0,none⟩,cap,[c]⟩)=_ from BQ s.l c] at hq
 unfold js
 by_cases h:s.l.getLast?=some c
 · rw[if_pos h]
   simp only[h,decide_true] at hq
   have hpos:1<=s.l.length:=by
    cases hh:s.l with
    | nil=>rw[hh] at h;cases h
    | cons d r=>simp
   have hle:s.l.length-1<=s.l.length:=by omega
   repeat(first|refine JL.q (by exact Y420) rfl ?_|refine Y0 ?_)
   refine Y271 ?_
   repeat(first|refine JL.q (by first|(apply OQ.gh (b:=1);rfl;rfl;exact hpos;exact Y609)|exact Y418) rfl ?_|refine Y103 ?_)
   refine Y247 ?_
   refine Y250 ?_
   exact Y248
 · rw[if_neg h]
   simp only[h,decide_false] at hq
   repeat(first|refine JL.q (by exact Y420) rfl ?_|refine Y0 ?_)
   refine Y252 ?_
   refine Y5 ?_
   refine Y247 ?_
   skip
   exact Y248
end
section
open Sl aq gZ
def ay.hd(s:ay)(l:List Bt):ay:=⟨s.ad,s.cap,l⟩
theorem ay.DQ(s:ay)(m:Nat):s.fst m=s.hd (s.l.take m):=by
 unfold ay.fst ay.hd
 congr 1
 split
 · rfl
 · cases s.ad <;> simp[Addr.add]
theorem ay.FI{s:ay}{w:World}(h:s.ok w)(m:Nat):(s.hd (s.l.take m)).ok w:=ay.DQ s m▸h.fst m
theorem OQ.OO{P:Program}{n:Nat}{E:Env}{C:World->Prop}{dst:Option Tmp}{t ty e:TypeId}{pos:String}{aft:Array Edge}{g:Option (Nat × Bool)}{x y:Operand}{len b j:Nat}{c:Bt}(hu:P.underlying t=some (.array len e))(hz:gX P e=some 1)(hx:ev E x=some (.pointer (some ⟨b,j,none⟩)))(hy:ev E y=some (U8 c))(hi:c.toNat<len) :
  OQ P n E C ⟨dst,.indexAddr t x y,ty,pos,aft,g⟩ (.pointer (some ⟨b,j+c.toNat,none⟩)):=
 OQ.run fun a ha w _=>by
  have h1:=ha.eval hx
  have h2:=ha.eval hy
  have h3:(underlying t).run P w=.ok (.array len e) w:=run_underlying hu w
  have h4:(0:Int)<=(c.toNat:Int)/\(c.toNat:Int)<(len:Int):=by omega
  simp[execOp,h1,h2,Instr.indexAt,asIntOf,Sem.run_bind,h3,Instr.sureAddr,hi,bR hz,dH]
theorem DR:aJ Tryz.prog 231:=⟨_,Tryz.func231,rfl,by kernel_rfl⟩
theorem yg:aJ Tryz.prog 254:=⟨_,Tryz.func254,rfl,by kernel_rfl⟩
theorem HA:aJ Tryz.prog 232:=⟨_,Tryz.func232,rfl,by kernel_rfl⟩
theorem KB:aJ Tryz.prog 191:=⟨_,Tryz.func191,rfl,by kernel_rfl⟩
theorem BR:aJ Tryz.prog 234:=⟨_,Tryz.func234,rfl,by kernel_rfl⟩
theorem oY:aJ Tryz.prog 192:=⟨_,Tryz.func192,rfl,by kernel_rfl⟩
def BT:Nat->List Value
 | 0=>List.replicate 256 (.bool false)
 | 1=>(List.replicate 256 (.bool false)).set 32 (.bool true)
 | _+2=>((List.replicate 256 (.bool false)).set 32 (.bool true)).set 9 (.bool true)
theorem oa:∀ k,(BT k).length=256
 | 0=>by simp[BT]
 | 1=>by simp[BT]
 | _+2=>by simp[BT]
theorem FJ:∀ k,(BT k).all Value.oneCell'=true
 | 0=>by decide +kernel
 | 1=>by decide +kernel
 | _+2=>by
   have h:(BT 2).all Value.oneCell'=true:=by decide +kernel
   exact h
theorem DS(c:Bt):(BT 2)[c.toNat]?=some (.bool (bl c)):=by
 have h:∀ c:Fin 256,(match (BT 2)[c.val]? with|some (.bool b)=>b==bl (BitVec.ofNat 8 c.val)|_=>false)=true:=by decide +kernel
 have h2:=h ⟨c.toNat,c.isLt⟩
 have e:BitVec.ofNat 8 c.toNat=c:=by simp
 dsimp only at h2
 rw[e] at h2
 split at h2
 · next b hb=>rw[hb,eq_of_beq h2]
 · cases h2
theorem T3:zc Tryz.prog 234=some (BT 0):=by kernel_rfl
theorem SQ:gX Tryz.prog 234=some 256:=by kernel_rfl
theorem T4:kM Tryz.prog 234=true:=by kernel_rfl
theorem Q9:gX Tryz.prog 4=some 1:=by kernel_rfl
theorem HB:gD Tryz.prog 4=true:=by kernel_rfl
def Ra(k:Nat):Bt:=([32,9]:List Bt).getD k 0
theorem HC(w:World):Calls Tryz.prog 231 [Z [32,9]].toArray w fun e w'=>e=.returned (.tuple #[.agg (BT 2).toArray,.bool true])/\Ext w w':=by
 refine enter (n:=21) Tryz.func231 rfl rfl rfl (aa.start w []) ?_
 refine JC.seq (JC.region (JL.alloc T3 rfl fun b _=>?_))
 refine Y7 ?_
 refine JC.loop (fun k:Nat=>[(0,Z [32,9]),(2,Pt b 0),(3,.bool false),(4,N k)]) (fun k=>[⟨b,Row 234 (BT k),true⟩]) (fun k=>2-k) (fun k=>k<=2) 0 Y610 Y640 (aj.refl _) ?_
 intro k hk
 refine Y8 ?_
 refine JC.cond rfl (fun h=>?_) (fun h=>?_)
 · have hk':k<2:=of_decide_eq_true h
   clear h hk
   have hlt:k<([32,9]:List Bt).length:=hk'
   have h128:decide ((128:Int)<=((([32,9]:List Bt).getD k 0).toNat:Int))=false:=by
    have:k=0\/k=1:=by omega
    rcases this with rfl|rfl <;> rfl
   have h256:(([32,9]:List Bt).getD k 0).toNat<256:=BitVec.isLt _
   have hset:(BT k).set (0+(([32,9]:List Bt).getD k 0).toNat) (.bool true)=BT (k+1):=by
    have:k=0\/k=1:=by omega
    rcases this with rfl|rfl
    · rw[Nat.zero_add];rfl
    · rw[Nat.zero_add];rfl
   have i0:=fun {n:Nat} {E:Env} {C:World->Prop} {dst:Option Tmp} {ty:TypeId} {pos:String} {aft:Array Edge} {g:Option (Nat × Bool)} {x y:Operand}=>OQ.ru (P:=Tryz.prog) (n:=n) (E:=E) (C:=C) (dst:=dst) (t:=9) (ty:=ty) (pos:=pos) (aft:=aft) (g:=g) (x:=x) (y:=y) (l:=[32,9]) (k:=.i64) (i:=k) Tryz.underlying9 (hi:=hlt)
   generalize ([32,9]:List Bt).getD k 0=c at h128 h256 hset i0
   repeat(first|refine JL.q (by first|(apply i0;rfl;rfl)|(apply OQ.dn (b:=128);rfl;rfl;exact h128)) rfl ?_|refine Y93 ?_)
   refine Y245 ?_
   repeat(first|refine JL.q (by(apply OQ.OO (c:=c);exact Tryz.underlying234;exact Q9;rfl;rfl;exact h256)) rfl ?_|refine Y104 ?_)
   refine JL.aP (r':=BT (k+1)) Q9 rfl rfl rfl rfl .here (by rw[oa];omega) hset ?_
   refine Y18 ?_
   exact JE.again (i:=k) (k+1) hk' Y609 Y640 (aj.refl _)
 · have hk':¬ k<2:=of_decide_eq_false h
   obtain rfl:k=2:=by omega
   repeat(first|refine JL.q (by(apply OQ.aF;exact T4;exact SQ;rfl;exact .here;exact(oa 2);exact Row.all)) rfl ?_|refine Y105 ?_)
   refine JL.ax SQ rfl rfl (oa 2) (FJ 2) .here rfl ?_
   refine Y39 ?_
   refine JC.ret (JE.aV rfl (RV.aT T4 SQ rfl .here (oa 2) Row.all) (RV.tmp rfl) fun w' hw=>⟨rfl,hw.aH⟩)
def BU(b:Nat)(w:World):Prop:=∀ c:Bt,w.cell? ⟨b,c.toNat,none⟩=some (.bool (bl c))
theorem BU.holds{b:Nat}{w0 w:World}{M:List aL}(h:BU b w0)(hw:aa w0 [] M w):BU b w:=fun c=>by
 have:=h c
 exact(hw.reads (ad:=some ⟨b,0,none⟩) (cs:=BT 2) (fun i v hv=>⟨b,0,rfl,by
  have hi:i<256:=by have:=(List.getElem?_eq_some_iff.1 hv).1;rwa [oa] at this
  have h1:=h (BitVec.ofNat 8 i)
  have h2:=DS (BitVec.ofNat 8 i)
  have e:(BitVec.ofNat 8 i).toNat=i:=by rw[BitVec.toNat_ofNat];omega
  rw[e] at h1 h2
  rw[Nat.zero_add,h1,<- h2,hv]⟩) (fun _ a _=>by simp)) c.toNat _ (DS c) |> fun ⟨b',j',e',c'⟩=>by
   cases e'
   rwa [Nat.zero_add] at c'
theorem KD(b:Nat)(c:Bt)(w:World)(h:BU b w):Calls Tryz.prog 254 [Pt b 0,U8 c].toArray w fun e w'=>e=.returned (.bool (bl c))/\Ext w w':=by
 refine enter (n:=10) Tryz.func254 rfl rfl rfl (aa.start w []) ?_
 have hc:w.cell? ⟨b,0+c.toNat,none⟩=some (.bool (bl c)):=by rw[Nat.zero_add];exact h c
 repeat(first|refine JL.q (by first|(apply OQ.S8;rfl)|(apply OQ.OO (c:=c);exact Tryz.underlying234;exact Q9;rfl;rfl;exact c.isLt)|(apply OQ.aI;exact HB;rfl;exact(block_lt_of_cell hc);exact Y614;exact hc)|exact Y323|exact Y324) rfl ?_|refine JC.seq ?_|refine JC.region ?_|refine JL.nil ?_|refine JE.next ?_)
 exact Y244
theorem KF(s:ay)(b:Nat)(w:World)(hs:s.ok w)(hl:s.l.length<9223372036854775808)(hb:BU b w):Calls Tryz.prog 232 [s.v,Pt b 0].toArray w fun e w'=>e=.returned (s.hd (gL s.l)).v/\Ext w w':=by
 refine enter (n:=23) Tryz.func232 rfl rfl rfl (aa.start w []) ?_
 refine Y7 ?_
 refine JC.loop (fun m:Nat=>[(0,(s.hd (s.l.take m)).v),(1,Pt b 0)]) (fun _=>[]) (fun m=>m) (fun m=>m<=s.l.length/\gL (s.l.take m)=gL s.l) s.l.length ⟨Nat.le_refl _,by rw[List.take_length]⟩ ?_ (aj.refl _) ?_
 · rw[List.take_length]
   exact Y269
 rintro m ⟨hm,hc⟩
 have hy:(s.hd (s.l.take m)).ok w:=ay.FI hs m
 have hyl:(s.hd (s.l.take m)).l=s.l.take m:=rfl
 have hyn:(s.hd (s.l.take m)).l.length=m:=by rw[hyl,List.length_take];omega
 have hcap:=hy.len
 cases h0:decide ((0:Int)<((s.hd (s.l.take m)).l.length:Int))
 · have hm0:m=0:=by have:=of_decide_eq_false h0;omega
   subst hm0
   repeat(first|refine JL.q Y653 rfl ?_|refine Y106 ?_)
   refine Y245 ?_
   refine Y107 ?_
   refine JC.ret (JE.aK rfl (RV.tmp rfl) fun w' hw=>⟨?_,hw.aH⟩)
   rw[<- hc]
   rfl
 · have hpos:0<m:=by have:=of_decide_eq_true h0;omega
   obtain⟨k,rfl⟩:∃ k,m=k+1:=⟨m-1,by omega⟩
   repeat(first|refine JL.q Y653 rfl ?_|refine Y106 ?_)
   refine Y246 ?_
   have hk:k<(s.hd (s.l.take (k+1))).l.length:=by omega
   have eg:(s.hd (s.l.take (k+1))).l.getD k 0=s.l.getD k 0:=by
    rw[hyl,List.getD_eq_getElem?_getD,List.getD_eq_getElem?_getD,List.getElem?_take,if_pos Y609]
   obtain⟨ba,ja,hae,hca⟩:=hy.reads.at Y624
   have hcc:=hca k _ (dF U8 0 hk)
   have hav:(s.hd (s.l.take (k+1))).v=.slice (some ⟨ba,ja,none⟩) (k+1) (s.hd (s.l.take (k+1))).cap:=by
    show Value.slice (s.hd (s.l.take (k+1))).ad (s.hd (s.l.take (k+1))).l.length _=_
    rw[hae,hyn]
   rw[eg] at hcc
   have hgo:=I0 (s:=s.l) (n:=k) hm
   have hst:=AG (s:=s.l) (n:=k) hm
   have ef:(s.hd (s.l.take (k+1))).fst k=s.hd (s.l.take k):=by
    rw[ay.DQ]
    unfold ay.hd
    rw[List.take_take,Nat.min_eq_left Y609]
   have cb:=fun w' (hw':aa w [] [] w')=>KD b (s.l.getD k 0) w' (hb.holds hw')
   have e1:k+1-1=k:=rfl
   generalize s.l.getD k 0=c at hcc hgo hst cb
   have hsz:k+1<9223372036854775808:=by omega
   cases hbl:bl c
   · rw[hbl] at cb
     rw[hav]
     repeat(first|refine JL.q Y682 rfl ?_|refine Y108 ?_)
     refine Y246 ?_
     repeat(first|refine JE.uC rfl ?_|refine Y19 ?_)
     refine JC.ret (JE.aK rfl (RV.tmp rfl) fun w' hw=>⟨?_,hw.aH⟩)
     rw[<- hav,<- hc,hst hbl]
   · rw[hbl] at cb
     have hle:k<=(s.hd (s.l.take (k+1))).l.length:=by omega
     rw[hav]
     repeat(first|refine JL.q Y682 rfl ?_|refine Y108 ?_)
     refine Y245 ?_
     repeat(first|refine JL.q (by first|exact Y421|(apply OQ.fst (s:=s.hd (s.l.take (k+1))) (m:=k);exact Tryz.underlying22;exact dD;exact(congrArg some hav.symm);rfl;exact hle;exact hcap)|exact Y323|exact Y324|exact Y378) rfl ?_|refine JC.region ?_|refine JC.skip ?_|refine JL.nil ?_|refine JE.next ?_|refine JE.ah ?_)
     rw[ef]
     exact JE.again (i:=k+1) k ⟨by omega,by rw[<- hc,hgo hbl]⟩ (Nat.lt_succ_self k) Y640 (aj.refl _)
theorem Ny(s:ay)(w:World)(hs:s.ok w)(hl:s.l.length<9223372036854775808):Calls Tryz.prog 191 [s.v,Z [32,9]].toArray w fun e w'=>e=.returned (s.hd (gL s.l)).v/\Ext w w':=by
 refine enter (n:=38) Tryz.func191 rfl rfl rfl (aa.start w []) ?_
 have e2:([32,9]:List Bt).length=2:=rfl
 cases h0:decide ((s.l.length:Int)=0)
 · repeat(first|refine JL.q (by first|exact Y425|(apply OQ.fR (l:=[32,9]) (r:=[]);rfl;rfl;rfl)) rfl ?_|refine JL.bG rfl rfl ?_|refine Y99 ?_)
   refine Y245 ?_
   repeat(first|refine JL.q (by first|exact Y322|(apply OQ.ep (a:=2) (b:=1);rfl;rfl;rfl)|exact Y331|exact Y323) rfl ?_|refine JC.seq ?_|refine JC.region ?_|refine JC.skip ?_|refine JL.nil ?_|refine JE.next ?_|refine JL.aM rfl rfl rfl rfl ?_)
   refine Y245 ?_
   repeat(first|refine JL.q (by first|(apply OQ.ai (vs:=[Z [32,9]]);exact DR;rfl;exact(fun w' _=>HC w'))|exact Y426|exact Y323) rfl ?_|refine JC.seq ?_|refine JC.region ?_|refine JC.skip ?_|refine JE.next ?_)
   refine JL.alloc T3 rfl fun b _=>?_
   refine JL.ax SQ rfl rfl (oa 2) (FJ 2) .here rfl ?_
   refine Y24 ?_
   refine Y246 ?_
   have ct:=fun w' (hw':aa w [] [⟨b,Row 234 (BT 2),true⟩] w')=>KF s b w' (hs.holds hw' rfl) hl (fun c=>by
    obtain⟨o,ho,hA⟩:=hw'.get (b:=b) (A:=Row 234 (BT 2)) (wr:=true) .here
    exact cell_of ho (Row.cell (DS c) o hA))
   repeat(first|refine JL.q (by(apply OQ.ai (vs:=[s.v,Pt b 0]);exact HA;rfl;exact(fun w' hw'=>ct w' hw'))) rfl ?_|refine Y0 ?_)
   refine Y247 ?_
   refine Y250 ?_
   exact Y248
 · have hn:s.l=[]:=List.eq_nil_of_length_eq_zero Y683
   repeat(first|refine JL.q (by exact Y425) rfl ?_|refine JL.aM rfl rfl rfl rfl ?_|refine Y100 ?_)
   refine Y246 ?_
   refine Y24 ?_
   refine Y247 ?_
   refine Y250 ?_
   refine JE.aK rfl (RV.tmp rfl) fun w' hw=>⟨?_,hw.aH⟩
   rw[hn,show s.hd (gL [])=s by rw[show gL []=s.l by rw[hn];rfl];rfl]
theorem Nz(s:ay)(b cap:Nat)(c:Bt)(w:World)(hl:s.l.length<=4611686018427387904)(hs:s.ok w)(hd:(⟨some ⟨b,0,none⟩,cap,[c]⟩:ay).ok w):Calls Tryz.prog 234 [s.v,.slice (some ⟨b,0,none⟩) 1 cap].toArray w fun e w'=>e=.returned (.tuple #[(js c s).v,.bool (decide (s.l.getLast?=some c))])/\Ext w w':=by
 refine enter (n:=18) Tryz.func234 rfl rfl rfl (aa.start w []) ?_
 have hcap:=hs.len
 have hq:=fun w' (hw':aa w [] [] w')=>FH s ⟨some ⟨b,0,none⟩,cap,[c]⟩ w' (hs.holds hw' rfl) (hd.holds hw' rfl) hl
 rw[show Hy s.l (ay.l ⟨some ⟨b,0,none⟩,cap,[c]⟩)=_ from BQ s.l c] at hq
 unfold js
 by_cases h:s.l.getLast?=some c
 · rw[if_pos h]
   simp only[h,decide_true] at hq⊢
   have hpos:1<=s.l.length:=by
    cases hh:s.l with
    | nil=>rw[hh] at h;cases h
    | cons x r=>simp
   have hle:s.l.length-1<=s.l.length:=by omega
   repeat(first|refine JL.q (by exact Y427) rfl ?_|refine Y42 ?_)
   refine Y245 ?_
   repeat(first|refine JL.q (by first|(apply OQ.gh (a:=s.l.length) (b:=1);rfl;rfl;exact hpos;exact Y609)|(apply OQ.fst (s:=s) (m:=s.l.length-1);exact Tryz.underlying22;exact dD;rfl;rfl;exact hle;exact hcap)|exact Y323|exact Y324|exact Y378) rfl ?_|refine JC.seq ?_|refine JC.region ?_|refine JC.skip ?_|refine JL.nil ?_|refine JE.next ?_)
   exact Y261
 · rw[if_neg h]
   simp only[h,decide_false] at hq⊢
   repeat(first|refine JL.q (by exact Y427) rfl ?_|refine Y42 ?_)
   refine Y246 ?_
   refine Y24 ?_
   refine Y247 ?_
   refine Y250 ?_
   exact Y259
theorem yh(c:Bt)(s:ay):js c s=s.hd (if s.l.getLast?=some c then s.l.dropLast else s.l):=by
 unfold js
 split
 · rw[ay.DQ,List.dropLast_eq_take]
 · rfl
theorem FK(l:List aq.By):br l=if l.getLast?=some 10 then(if l.dropLast.getLast?=some 13 then l.dropLast.dropLast else l.dropLast) else l:=rfl
theorem rP(l:List aq.By):∃ m,m<=l.length/\br l=l.take m:=by
 rw[FK]
 split
 · split
   · refine⟨l.length-1-1,by omega,?_⟩
     rw[List.dropLast_eq_take,List.dropLast_eq_take,List.take_take,List.length_take,Nat.min_eq_left Y609]
     congr 1
     omega
   · exact⟨l.length-1,by omega,List.dropLast_eq_take⟩
 · exact⟨l.length,Nat.le_refl _,List.take_length.symm⟩
theorem HD(l:List aq.By):∃ m,m<=l.length/\gL l=l.take m:=by
 have h:∀ (r:List aq.By),∃ m,m<=r.length/\r.dropWhile bl=r.drop m:=by
  intro r
  induction r with
  | nil=>exact⟨0,Nat.le_refl _,rfl⟩
  | cons c r ih=>
    obtain⟨m,h1,h2⟩:=ih
    rw[List.dropWhile_cons]
    split
    · exact⟨m+1,by simp only[List.length_cons];omega,h2⟩
    · exact⟨0,by omega,rfl⟩
 obtain⟨m,h1,h2⟩:=h l.reverse
 refine⟨l.length-m,by omega,?_⟩
 unfold gL
 rw[h2,List.drop_reverse,List.reverse_reverse]
theorem FM{s:ay}{w:World}(h:s.ok w):(s.hd (br s.l)).ok w:=by
 obtain⟨m,_,e⟩:=rP s.l
 rw[e]
 exact ay.FI h m
theorem yj(s:ay)(w:World)(hs:s.ok w)(hl:s.l.length<=4611686018427387904):Calls Tryz.prog 192 [s.v].toArray w fun e w'=>e=.returned (s.hd (br s.l)).v/\Ext w w':=by
 refine enter (n:=17) Tryz.func192 rfl rfl rfl (aa.start w []) ?_
 refine Y24 ?_
 refine JL.q9 (v:=U8 10) Tryz.underlying22 dV rfl rfl rfl rfl fun bl _=>?_
 have hq:=fun w' (hw':aa w [] [⟨bl,Row 5 [U8 10],true⟩] w')=>Nz s bl 1 10 w' hl (hs.holds hw' rfl) (zA (l:=[10]) hw' .here rfl (Nat.le_refl _))
 rw[FK]
 by_cases h:s.l.getLast?=some 10
 · simp only[h,decide_true] at hq
   rw[if_pos h]
   have e1:js 10 s=s.hd s.l.dropLast:=by rw[yh,if_pos h]
   rw[e1] at hq
   have hy:(s.hd s.l.dropLast).ok w:=by rw[List.dropLast_eq_take];exact ay.FI hs _
   have hyl:(s.hd s.l.dropLast).l.length<=4611686018427387904:=by show s.l.dropLast.length<=_;rw[List.length_dropLast];omega
   have e2:js 13 (s.hd s.l.dropLast)=s.hd (if s.l.dropLast.getLast?=some 13 then s.l.dropLast.dropLast else s.l.dropLast):=yh 13 _
   rw[<- e2]
   repeat(first|refine JL.q (by exact Y428) rfl ?_|refine Y109 ?_)
   refine Y245 ?_
   refine Y94 ?_
   refine JL.q9 (v:=U8 13) Tryz.underlying22 dV rfl rfl rfl rfl fun Ra _=>?_
   repeat(first|refine JL.q (by(apply OQ.ai (vs:=[(s.hd s.l.dropLast).v,.slice (some ⟨Ra,0,none⟩) 1 1]);exact sS;rfl;exact(fun w' hw'=>vE (s.hd s.l.dropLast) Ra 1 13 w' hyl (hy.holds hw' rfl) (zA (l:=[13]) hw' .here rfl (Nat.le_refl _))))) rfl ?_|refine Y27 ?_)
   exact Y244
 · simp only[h,decide_false] at hq
   rw[if_neg h]
   repeat(first|refine JL.q (by exact Y428) rfl ?_|refine Y109 ?_)
   refine Y246 ?_
   refine Y24 ?_
   refine Y247 ?_
   refine Y250 ?_
   exact Y248
end
section
namespace Sl
inductive j6:List aL->List aL->Prop where
 | nil (N:List aL):j6 [] N
 | keep (b:Nat) (A A':Obj->Prop) (wr wr':Bool) (N N':List aL):(∀ o,A o->A' o)->(wr'=true->wr=true)->j6 N' N->j6 (⟨b,A',wr'⟩::N') (⟨b,A,wr⟩::N)
 | drop (e:aL) (N N':List aL):j6 N' N->j6 N' (e::N)
theorem j6.keys{M M':List aL}(h:j6 M' M):(M'.map aL.b).Sublist (M.map aL.b):=by
 induction h with
 | nil=>exact List.nil_sublist _
 | keep _ _ _ _ _ _ _ _ _ _ ih=>exact ih.cons_cons _
 | drop _ _ _ _ ih=>exact ih.cons _
theorem j6.old{M M':List aL}(h:j6 M' M):∀ e∈M',∃ e'∈M,e'.b=e.b/\(e.wr=true->e'.wr=true)/\∀ o,e'.A o->e.A o:=by
 induction h with
 | nil=>simp
 | keep b A A' wr wr' M M' hA hw _ ih=>
   intro e he
   simp only[List.mem_cons] at he
   rcases he with rfl|he
   · exact⟨⟨b,A,wr⟩,by simp,rfl,hw,hA⟩
   · obtain⟨e',h1,h2⟩:=ih e he
     exact Y235
 | drop _ _ _ _ ih=>
   intro e he
   obtain⟨e',h1,h2⟩:=ih e he
   exact Y235
theorem aa.FN{w0 w:World}{S:List Nat}{M M':List aL}(h:aa w0 S M w)(hs:j6 M' M):aa w0 S M' w:=by
 refine⟨h.aH,h.nodup.sublist hs.keys,fun e he=>?_⟩
 obtain⟨e',h1,h2,h3,h4⟩:=hs.old e he
 obtain⟨⟨o,ho,hA⟩,h5⟩:=h.all e' h1
 exact⟨⟨o,h2▸ho,h4 o hA⟩,fun hw=>h2▸h5 (h3 hw)⟩
theorem aa.perm{w0 w:World}{S:List Nat}{M M':List aL}(h:aa w0 S M w)(hp:M.Perm M'):aa w0 S M' w:=
 ⟨h.aH,(hp.map aL.b).nodup_iff.1 h.nodup,fun e he=>h.all e (hp.mem_iff.2 he)⟩
def AF(M:List aL):List Nat:=(M.filter (·.wr)).map aL.b
theorem od{M:List aL}{k:Nat}:k∈AF M↔∃ e∈M,e.wr=true/\e.b=k:=by
 simp[AF,and_assoc]
theorem aa.KG{w0 w:World}{S:List Nat}{M:List aL}(h:aa w0 S M w):aa w (AF M) M w:=
 ⟨pV.refl _ _,h.nodup,fun e he=>⟨(h.all e he).1,fun hw=>.inl (od.2 ⟨e,he,hw,rfl⟩)⟩⟩
theorem aa.rQ{w0 w:World}{M:List aL}(h:aa w0 [] M w):∀ k∈AF M,w0.heap.size<=k:=fun k hk=>by
 obtain⟨e,he,hw,rfl⟩:=od.1 hk
 rcases(h.all e he).2 hw with h|h
 · cases h
 · exact h
theorem aa.DU{w0 w w':World}{M M':List aL}(h:aa w0 [] M w)(h':aa w (AF M) M' w'):aa w0 [] M' w':=by
 refine⟨⟨h'.aH.os.trans h.aH.os,h'.aH.tape.trans h.aH.tape,h'.aH.output.trans h.aH.output,Nat.le_trans h.aH.size h'.aH.size,fun k hk _=>?_⟩,h'.nodup,fun e he=>⟨(h'.all e he).1,fun hw=>.inr ?_⟩⟩
 · refine(h'.aH.block k (Nat.lt_of_lt_of_le hk h.aH.size) fun hm=>?_).trans (h.aH.block k hk Y614)
   have:=h.rQ k hm
   omega
 · rcases(h'.all e he).2 hw with h1|h1
   · exact h.rQ _ h1
   · exact Nat.le_trans h.aH.size h1
theorem aa.FO{w0 w1 w:World}{M M':List aL}(h:aa w1 (AF M) M' w)(hx:Ext w0 w1)(hge:∀ k∈AF M,w0.heap.size<=k):Ext w0 w:=
 ⟨h.aH.os.trans hx.os,h.aH.tape.trans hx.tape,h.aH.output.trans hx.output,Nat.le_trans hx.size h.aH.size,fun k hk _=>(h.aH.block k (Nat.lt_of_lt_of_le hk hx.size) fun hm=>by have:=hge k hm;omega).trans (hx.block k hk Y614)⟩
theorem yl{M:List aL}(h:(M.map aL.b).Nodup):∀ {e1 e2:aL},e1∈M->e2∈M->e1.b=e2.b->e1=e2:=by
 induction M with
 | nil=>intro e1 e2 h1;cases h1
 | cons x M ih=>
   simp only[List.map_cons,List.nodup_cons] at h
   intro e1 e2 h1 h2 he
   rcases List.mem_cons.1 h1 with rfl|h1'
   · rcases List.mem_cons.1 h2 with rfl|h2'
     · rfl
     · exact absurd (he▸List.mem_map_of_mem (f:=aL.b) h2') h.1
   · rcases List.mem_cons.1 h2 with rfl|h2'
     · exact absurd (he▸List.mem_map_of_mem (f:=aL.b) h1') h.1
     · exact ih h.2 h1' h2' he
theorem aR.other{M M':List aL}{b b':Nat}{A A':Obj->Prop}(h:aR M b A b' A' M')(hn:(M.map aL.b).Nodup):∀ e∈M',e=⟨b',A',true⟩\/(e∈M/\e.b≠b):=by
 induction h with
 | @here b A b' A' M=>
   intro e he
   simp only[List.map_cons,List.nodup_cons] at hn
   simp only[List.mem_cons] at he
   rcases he with rfl|he
   · exact .inl rfl
   · exact Y234
 | @there x M b A b' A' M' hu ih=>
   intro e he
   simp only[List.map_cons,List.nodup_cons] at hn
   simp only[List.mem_cons] at he
   rcases he with rfl|he
   · refine .inr ⟨by simp,fun h=>hn.1 ?_⟩
     rw[h]
     exact List.mem_map_of_mem hu.has.mem (f:=aL.b)
   · rcases ih hn.2 e he with h|⟨h1,h2⟩
     · exact .inl h
     · exact .inr ⟨by simp[h1],h2⟩
theorem aa.KH{w0 w w':World}{S:List Nat}{M M':List aL}{b b':Nat}{A A':Obj->Prop}(h:aa w0 S M w)(hr:aR M b A b' A' M')(hc:aa w [b] [⟨b',A',true⟩] w'):aa w0 S M' w':=by
 have hin:=(h.all _ hr.has.mem).2 rfl
 obtain⟨⟨o,ho,hA⟩,hb'⟩:=hc.all ⟨b',A',true⟩ Y614
 have hb':=hb' rfl
 simp only[List.mem_singleton] at hb' hin ho
 have hlt:b<w.heap.size:=h.lt hr.has.mem
 refine⟨⟨hc.aH.os.trans h.aH.os,hc.aH.tape.trans h.aH.tape,hc.aH.output.trans h.aH.output,Nat.le_trans h.aH.size hc.aH.size,fun k hk hS=>?_⟩,?_,fun e he=>?_⟩
 · refine(hc.aH.block k (Nat.lt_of_lt_of_le hk h.aH.size) ?_).trans (h.aH.block k hk hS)
   intro hkb
   have hkb:k=b:=by simpa using hkb
   subst hkb
   rcases hin with h4|h4
   · exact hS h4
   · omega
 · rcases hb' with rfl|hb'
   · rw[hr.Rz.keys];exact h.nodup
   · refine hr.nodup h.nodup fun hm=>?_
     obtain⟨e,he,hb⟩:=List.mem_map.1 hm
     have:=h.lt he
     omega
 · rcases hr.other h.nodup e he with rfl|⟨h4,h5⟩
   · refine⟨⟨o,ho,hA⟩,fun _=>?_⟩
     rcases hb' with rfl|hb'
     · exact hin
     · exact .inr (Nat.le_trans h.aH.size hb')
   · obtain⟨⟨o2,ho2,hA2⟩,h6⟩:=h.all e h4
     exact⟨⟨o2,(hc.aH.block _ (h.lt h4) (by simpa using h5)).trans ho2,hA2⟩,h6⟩
section
variable {P:Program} {m l:Nat}
def qw(o:Oper):Bool:=match o.op with
 | .defer _=>false
 | _=>true
abbrev Rd(l:Nat):Fence:=Fence.wide.inRound l
theorem vF{o:Oper}{a:Act}{w:World}{K K':Act->World->Prop}{Q:Exit->Act->World->Prop}(hd:qw o=true)(hQ:¬ LetsOut Q)(hK:∀ a w,K a w->K' a w)(h:o.wp P a w K Q):o.wpIn (Rd l) m P a w K' Q:=by
 refine⟨fun _ _=>trivial,?_⟩
 have e:Oper.semAt (Rd l).round a.eval o=execOp a.eval o:=Oper.semAt_some l _ _ fun c hc=>by
  unfold qw at hd
  rw[hc] at hd
  cases hd
 rw[e]
 unfold Oper.wp at h
 have hdep:(Rd l).depth.isSome=true->1<=m:=fun h=>by cases h
 cases hr:(execOp a.eval o).run P w with
 | ok nx w'=>
   rw[hr] at h
   cases nx with
   | value v=>exact hK _ _ h
   | skip=>exact hK _ _ h
   | defer d=>exact hK _ _ h
   | enter f args=>
     have h':Calls P f args w' fun
      | .returned v,w''=>K (a.put o.dst v) w''
      | .panicked chain,w''=>Q (.panic chain) a w''
      | .outgrown,_=>LetsOut Q:=h
     refine⟨hdep,(callsIn_wide (n:=m-1)).2 (h'.mono fun e w2 h2=>?_)⟩
     cases e with
     | returned v=>exact hK _ _ h2
     | panicked ch=>exact h2
     | outgrown=>exact h2
   | row r args=>
     have h':Rows P r args w' fun v w''=>K (a.put o.dst v) w'':=h
     refine⟨hdep,fun c cs _=>?_⟩
     obtain⟨v,w2,h2,hs⟩:=h' c cs
     exact⟨v,w2,hK _ _ h2,stepsIn_wide.2 hs⟩
   | round=>exact h.elim
   | _=>exact h.elim
 | halt x w'=>
   rw[hr] at h
   cases x with
   | panic v=>exact h
   | _=>exact h.elim
theorem j7{ops:Array Oper}{Q:Exit->Act->World->Prop}(hQ:¬ LetsOut Q):∀ (os:List Oper),os.all qw=true->∀ a w,wpList P ops Q os a w->wpListIn (Rd l) m P ops Q os a w
 | [],_,a,w,h=>h
 | o::os,hd,a,w,h=>by
   simp only[List.all_cons,Bool.and_eq_true] at hd
   have ih:=j7 (ops:=ops) hQ os hd.2
   unfold wpList at h
   unfold wpListIn
   by_cases hw:Region.wanted o (yielded ops a.tmps)=true
   · simp only[hw,if_true] at h⊢
     rcases h with h|h
     · exact vF hd.1 hQ ih h
     · exact absurd h.2 hQ
   · simp only[hw,if_false] at h⊢
     exact⟨fun _ _=>trivial,ih _ _ h⟩
end
section
variable {P:Program} {n:Nat} {w0:World} {S:List Nat} {Q Q':Exit->Act->World->Prop} {E:Env} {M:List aL} {m l:Nat}
structure JR (P:Program) (n:Nat) (w0:World) (S:List Nat) (l m:Nat) (Q:Exit->Act->World->Prop) (c:Code) (E:Env) (M:List aL):Prop where
 go:∀ a w,bF n E a->aa w0 S M w->c.wpIn (Rd l) m P Q a w
theorem JR.region{id:Nat}{os:List Oper}(hd:os.all qw=true)(hQ:¬ LetsOut Q)(h:JL P n w0 S os.toArray Q os E M):JR P n w0 S l m Q (.region id os.toArray false) E M:=
 ⟨fun a w ha hw=>wpIn_region_lit (j7 hQ os hd a w (h.go a w ha hw))⟩
theorem JR.seq{x y:Code}(h:JR P n w0 S l m (Exit.then (y.wpIn (Rd l) m P Q) Q) x E M):JR P n w0 S l m Q (.seq x y) E M:=⟨fun a w ha hw=>wpIn_seq (h.go a w ha hw)⟩
theorem JR.block{id:Nat}{c:Code}(h:JR P n w0 S l m (Exit.inBlock id Q) c E M):JR P n w0 S l m Q (.block id c) E M:=⟨fun a w ha hw=>wpIn_block (h.go a w ha hw)⟩
theorem JE.gH{y:Code}(h:JR P n w0 S l m Q' y E M):JE n w0 S (Exit.then (y.wpIn (Rd l) m P Q') Q) .normal E M:=⟨h.go⟩
theorem aA{K:Act->World->Prop}(h:¬ LetsOut Q):¬ LetsOut (Exit.then K Q):=fun ⟨a,w,x⟩=>h ⟨a,w,x⟩
theorem aN{id:Nat}(h:¬ LetsOut Q):¬ LetsOut (Exit.inBlock id Q):=fun ⟨a,w,x⟩=>h ⟨a,w,x⟩
end
def mk(D:Nat):Deferred:={ target:=.collected D,args:=#[] }
def Aa:Obj->Prop:=fun o=>o=.deferred (some [])
structure kS (D n:Nat) (E:Env) (a:Act):Prop where
 defers:a.defers=[mk D]
 base:bF n E { a with defers:=[] }
section
variable {P:Program} {D n:Nat} {w0:World} {S:List Nat} {ops:Array Oper} {Q Q':Exit->Act->World->Prop} {os:List Oper} {E:Env} {M:List aL} {d:Nat} {op:Op} {ty:TypeId} {pos:String} {aft:Array Edge} {v:Value}
theorem ym(a:Act):({ a with defers:=[] }:Act).eval=a.eval:=funext fun x=>by cases x <;> rfl
theorem kS.put{a:Act}(h:kS D n E a)(d:Nat)(v:Value)(hd:Nat.blt d n=true):kS D n ((d,v)::E) (a.put (some d) v):=⟨h.defers,h.base.put d v hd⟩
theorem kS.eval{a:Act}(h:kS D n E a){x:Operand}{v:Value}(hx:ev E x=some v):a.eval x=v:=by
 rw[<- ym];exact h.base.eval hx
structure KL (P:Program) (D n:Nat) (w0:World) (S:List Nat) (ops:Array Oper) (Q:Exit->Act->World->Prop) (os:List Oper) (E:Env) (M:List aL):Prop where
 go:∀ a w,kS D n E a->aa w0 S M w->wpList P ops Q os a w
structure KE (D n:Nat) (w0:World) (S:List Nat) (Q:Exit->Act->World->Prop) (e:Exit) (E:Env) (M:List aL):Prop where
 go:∀ a w,kS D n E a->aa w0 S M w->Q e a w
structure KC (P:Program) (D n:Nat) (w0:World) (S:List Nat) (Q:Exit->Act->World->Prop) (c:Code) (E:Env) (M:List aL):Prop where
 go:∀ a w,kS D n E a->aa w0 S M w->c.wp P Q a w
theorem KC.seq{x y:Code}(h:KC P D n w0 S (Exit.then (y.wp P Q) Q) x E M):KC P D n w0 S Q (.seq x y) E M:=⟨fun a w ha hw=>wp_seq (h.go a w ha hw)⟩
theorem KC.skip(h:KE D n w0 S Q .normal E M):KC P D n w0 S Q .skip E M:=⟨fun a w ha hw=>wp_skip (h.go a w ha hw)⟩
theorem KC.ret(h:KE D n w0 S Q .ret E M):KC P D n w0 S Q .ret E M:=⟨fun a w ha hw=>wp_ret (h.go a w ha hw)⟩
theorem KC.cond{c:Operand}{x y:Code}{t:Bool}(hc:ev E c=some (.bool t))(ht:t=true->KC P D n w0 S Q x E M)(hf:t=false->KC P D n w0 S Q y E M):KC P D n w0 S Q (.cond c x y) E M:=
 ⟨fun a w ha hw=>wp_cond_split (ha.eval hc) (fun h=>(ht h).go a w ha hw) (fun h=>(hf h).go a w ha hw)⟩
theorem KC.region{id:Nat}{os:List Oper}(h:KL P D n w0 S os.toArray Q os E M):KC P D n w0 S Q (.region id os.toArray false) E M:=⟨fun a w ha hw=>wp_region_lit (h.go a w ha hw)⟩
theorem KE.next{y:Code}(h:KC P D n w0 S Q' y E M):KE D n w0 S (Exit.then (y.wp P Q') Q) .normal E M:=⟨h.go⟩
theorem KE.ag{K:Act->World->Prop}(h:KE D n w0 S Q .ret E M):KE D n w0 S (Exit.then K Q) .ret E M:=⟨h.go⟩
theorem KE.ah{id:Nat}(h:KE D n w0 S Q .normal E M):KE D n w0 S (Exit.inBlock id Q) .normal E M:=⟨h.go⟩
theorem KL.nil(h:KE D n w0 S Q .normal E M):KL P D n w0 S ops Q [] E M:=⟨h.go⟩
theorem KL.q(h:OQ P n E (aa w0 S M) ⟨some d,op,ty,pos,aft,none⟩ v)(hd:Nat.blt d n=true)(k:KL P D n w0 S ops Q os ((d,v)::E) M):KL P D n w0 S ops Q (⟨some d,op,ty,pos,aft,none⟩::os) E M:=
 ⟨fun a _ ha hw=>wpList_plain rfl fun _ hK=>Oper.wp_of_quiet (C:=aa w0 S M) (K:=fun a'=>a'=a.put (some d) v) hw (fun _ _ hw' e=>hK _ _ (e▸k.go _ _ (ha.put d v hd) hw')) ⟨v,fun w hw=>by
  have:=h.go _ ha.base w hw
  unfold Oper.quietAt at this⊢
  rwa [ym] at this,rfl⟩⟩
theorem KC.weak{c:Code}{M':List aL}(hM:aj M' M)(h:KC P D n w0 S Q c E M'):KC P D n w0 S Q c E M:=⟨fun a w ha hw=>h.go a w ha (hw.weak hM)⟩
theorem nr{m:Nat}{fn:Func}{R:Ending->World->Prop}{a:Act}{w:World}{v:Value}(ha:kS D n E a)(hw:aa w0 S (⟨D,Aa,true⟩::M) w)
  (hv:∀ w',aa w0 S M w'->(results fn a.tmps).run P w'=.ok v w') (hR:∀ w',aa w0 S M w'->R (.returned v) w'):bodyPostM Fence.wide m P fn R .ret a w:=by
 obtain⟨o,ho,hA⟩:=hw.get (b:=D) (A:=Aa) (wr:=true) .here
 cases hA
 have hlt:D<w.heap.size:=(Array.getElem?_eq_some_iff.1 ho).1
 have h2:aa w0 S (⟨D,fun o=>o=.deferred none,true⟩::M) (w.putObj D (.deferred none)):=
  hw.write (A':=fun o=>o=.deferred none) .here rfl (World.putObj_heap_same hlt) World.putObj_size (fun k hk=>World.putObj_heap_other hk) rfl rfl rfl
 have h3:aa w0 S M (w.putObj D (.deferred none)):=h2.weak (.drop _ _ _ (aj.refl _))
 show LeavesInM Fence.wide m P fn a.tmps R a.defers .returning w
 rw[ha.defers]
 exact⟨by simp,.inl ⟨D,_,rfl,run_takeDeferred ho,v,hv _ h3,hR _ h3⟩⟩
theorem KE.aK{m:Nat}{fn:Func}{R:Ending->World->Prop}{r1:Tmp}{v1:Value}(hr:fn.results=#[.tmp r1])(h1:lk E r1=some v1)(hR:∀ w,aa w0 S M w->R (.returned v1) w):KE D n w0 S (bodyPostM Fence.wide m P fn R) .ret E (⟨D,Aa,true⟩::M):=by
 refine⟨fun a w ha hw=>nr (v:=v1) ha hw (fun w' _=>?_) hR⟩
 have e1:a.tmps.getD r1 undef=v1:=ha.base.all r1 v1 h1
 rw[ia,hr]
 simp[uG,e1]
theorem KE.aV{m:Nat}{fn:Func}{R:Ending->World->Prop}{r1 r2:Tmp}{v1 v2:Value}(hr:fn.results=#[.tmp r1,.tmp r2])(h1:lk E r1=some v1)(h2:lk E r2=some v2)(hR:∀ w,aa w0 S M w->R (.returned (.tuple #[v1,v2])) w):KE D n w0 S (bodyPostM Fence.wide m P fn R) .ret E (⟨D,Aa,true⟩::M):=by
 refine⟨fun a w ha hw=>nr (v:=.tuple #[v1,v2]) ha hw (fun w' _=>?_) hR⟩
 have e1:a.tmps.getD r1 undef=v1:=ha.base.all r1 v1 h1
 have e2:a.tmps.getD r2 undef=v2:=ha.base.all r2 v2 h2
 rw[ia,hr]
 simp[uG,e1,e2,Sem.run_bind]
theorem KE.less{e:Exit}{M':List aL}(hM:aj M' M)(h:KE D n w0 S Q e E M'):KE D n w0 S Q e E M:=⟨fun a w ha hw=>h.go a w ha (hw.weak hM)⟩
theorem Ab{f:FuncId}{fn:Func}{c:Code}{vs:List Value}{w:World}{R:Ending->World->Prop}(hf:P.funcs[f]?=some fn)(hb:fn.body=some c)(hn:fn.ntmps=n)(hl:Nat.ble vs.length n=true)
  (hM:aa w S M w) (h:JC P n w S (bodyPostM Fence.wide 3 P fn R) c (enum 0 vs) M):Calls P f vs.toArray w R:=by
 refine callsIn_wide.1 (callsIn_of_wp_marks (n:=3) hf hb trivial (wpIn_wide.2 (h.go _ _ ?_ hM)))
 rw[hn]
 exact bF.enter vs Y626
end
structure vG (L:List Nat) (W W':World):Prop where
 os:W'.os=W.os
 tape:W'.tape=W.tape
 output:W'.output=W.output
 size:W.heap.size<=W'.heap.size
 same:∀ k∈L,W'.heap[k]?=W.heap[k]?
theorem vG.trans{L:List Nat}{X Y Z:World}(h:vG L X Y)(k:vG L Y Z):vG L X Z:=
 ⟨k.os.trans h.os,k.tape.trans h.tape,k.output.trans h.output,Nat.le_trans h.size k.size,fun i hi=>(k.same i hi).trans (h.same i hi)⟩
def DV{α ι:Type}(Mi:ι->List aL)(Inv:List α->ι->Prop)(xs:List α)(w1:World)(S1:List Nat):Exit->Act->World->Prop
 | .normal,_,W'=>∃ j,Inv xs j/\aa w1 S1 (Mi j) W'
 | _,_,_=>False
theorem aE{α ι:Type}{Mi:ι->List aL}{Inv:List α->ι->Prop}{xs:List α}{w1:World}{S1:List Nat}:¬ LetsOut (DV Mi Inv xs w1 S1):=fun ⟨_,_,h⟩=>h
theorem JE.round{α ι:Type}{n:Nat}{w1:World}{S1:List Nat}{E:Env}{M:List aL}{Mi:ι->List aL}{Inv:List α->ι->Prop}{xs:List α}(j:ι)(hj:Inv xs j)(hM:aj (Mi j) M):JE n w1 S1 (DV Mi Inv xs w1 S1) .normal E M:=
 ⟨fun _ _ _ hw=>⟨j,hj,hw.weak hM⟩⟩
theorem JC.range{P:Program}{n:Nat}{w0:World}{Q:Exit->Act->World->Prop}{E:Env}{M:List aL}{α ι:Type}{g:Operand}{p d rid:Nat}{ty:TypeId}{pos:String}{body:Code}{gf:Nat}{lb:Array Value}(enc:α->Value)(L:List Nat)(Sd Sp:List α->Prop)(N:Nat)
  (Mi:ι->List aL) (Inv:List α->ι->Prop) (hg:ev E g=some (.func (.func gf) #[] lb)) (eg:∀ args w,(callFunc gf args).run P w=.ok (.enter gf args) w)
  (hseq:∀ W,aa w0 [] M W->SeqStopsK Fence.wide 2 P gf lb (fun x=>#[enc x]) (vG L) Sd Sp N W)
  (hcell:∀ i,∀ e∈Mi i,∀ o,e.A o->o.isCells=true) (hL:∀ i,∀ k∈L,k<w0.heap.size\/∃ A,Has (Mi i) k A false)
  (i0:ι) (h0:Inv [] i0) (hM:∀ w,aa w0 [] M w->aa w0 [] (Mi i0) w) (hp:Nat.blt p n=true) (hd:Nat.blt d n=true)
  (hbody:∀ l pre x i w1,Inv pre i->pre.length<N->Ext w0 w1->(∀ k∈AF (Mi i),w0.heap.size<=k)->JR P n w1 (AF (Mi i)) l 1 (DV Mi Inv (pre++[x]) w1 (AF (Mi i))) body ((d,enc x)::(p,enc x)::E) (Mi i))
  (hdone:∀ D xs i,Sd xs->Inv xs i->KE D n w0 [] Q .normal E (⟨D,Aa,true⟩::Mi i)) :
  JC P n w0 [] Q (.rangeFunc g #[p] (.region rid #[⟨some d,.assign (.tmp p),ty,pos,#[],none⟩] false) body) E M:=by
 refine⟨fun a w ha hw=>(wpIn_wide (n:=3)).1 ?_⟩
 have hLw:∀ k∈L,k<w.heap.size:=fun k hk=>by
  rcases hL i0 k hk with h|⟨A,h⟩
  · exact Nat.lt_of_lt_of_le h hw.aH.size
  · exact(hM w hw).lt h.mem
 have hI:OwnFrom w.heap.size (fun pre W=>∃ i,Inv pre i/\aa w0 [] (Mi i) W):=by
  rintro pre W W' row ⟨i,hi,h⟩ hgr hrow
  refine⟨i,hi,⟨hgr.os.trans h.aH.os,hgr.tape.trans h.aH.tape,hgr.output.trans h.aH.output,Nat.le_trans h.aH.size hgr.size,fun k hk _=>?_⟩,h.nodup,fun e he=>⟨?_,(h.all e he).2⟩⟩
  · refine(hgr.block k (Nat.lt_of_lt_of_le hk h.aH.size) fun hr=>?_).trans (h.aH.block k hk Y614)
    have:=(hrow k hr.symm).1
    have:=hw.aH.size
    omega
  · obtain⟨o,ho,hA⟩:=(h.all e he).1
    refine⟨o,(hgr.block e.b (h.lt he) fun hr=>?_).trans ho,hA⟩
    obtain⟨_,o2,ho2,hc⟩:=hrow _ hr.symm
    rw[ho] at ho2
    cases ho2
    rw[hcell i e he o hA] at hc
    cases hc
 have hpn:p<n:=by simpa using hp
 have hdn:d<n:=by simpa using hd
 refine wpIn_rangeFunc_ownG (n:=3) rfl Y609 (gf:=gf) (lb:=lb) (ha.eval hg) trivial eg (w0:=w) (hseq w hw) (fun h k=>h.trans k) (fun W l o o' hl _ _ _=>?_) (RowKit.Below.refl _ _) (fun _=>rfl)
  (fun pre W=>∃ i,Inv pre i/\aa w0 [] (Mi i) W) (fun _ _ _=>False) hI (fun _ _ _ _ _ h _ _=>h) ⟨i0,h0,hM w hw⟩ (fun x=>(a.put (some p) (enc x)).put (some d) (enc x)) ?_ ?_ ?_ (fun _ _ _ _ _ _ h _=>h.elim)
 · exact⟨rfl,rfl,rfl,by simp,fun k hk=>World.putObj_heap_other (by have:=hLw k hk;omega)⟩
 · intro l x W K hK
   refine wpIn_region_lit (wpListIn_plain rfl fun K' hK'=>⟨fun _ _=>trivial,?_⟩)
   have he:((#[p].zip #[enc x]).foldl (fun t (x:Nat × Value)=>t.setIfInBounds x.1 x.2) a.tmps).getD p undef=enc x:=by
    have:p<a.tmps.size:=by rw[ha.size];exact hpn
    simp[this]
   have hs:Oper.semAt (Rd l).round ({ tmps:=(#[p].zip #[enc x]).foldl (fun t (x:Nat × Value)=>t.setIfInBounds x.1 x.2) a.tmps,defers:=[] }:Act).eval ⟨some d,.assign (.tmp p),ty,pos,#[],none⟩=.pure (.value (enc x)):=by
    refine(Oper.semAt_some l _ _ ?_).trans ?_
    · intro c h;cases h
    show Sem.pure (Next.value (_:Value))=_
    exact congrArg (fun v=>Sem.pure (Next.value v)) he
   show Oper.uponIn _ _ _ _ _ _ _ ((Oper.semAt (Rd l).round _ _).run P W)
   rw[hs]
   refine hK' _ _ (wpListIn_nil ?_)
   show K _ W
   have e:({ tmps:=(#[p].zip #[enc x]).foldl (fun t (x:Nat × Value)=>t.setIfInBounds x.1 x.2) a.tmps,defers:=[] }:Act).put (some d) (enc x)=(a.put (some p) (enc x)).put (some d) (enc x):=by
    obtain⟨tm,df⟩:=a
    have:=ha.defers
    simp only at this
    subst this
    simp[Act.put]
   rw[e]
   exact hK
 · rintro l pre x W ⟨i,hi,h⟩ hlen
   refine wpIn_mono ((hbody l pre x i W hi hlen h.aH h.rQ).go _ W ((ha.put p _ hp).put d _ hd) h.KG) ?_
   · rintro e a2 W2 hq
     cases e with
     | normal=>
       obtain⟨j,hj,h2⟩:=hq
       refine⟨⟨h2.aH.size,fun k o _ hk ho=>?_⟩,⟨h2.aH.os,h2.aH.tape,h2.aH.output,h2.aH.size,fun k hk=>?_⟩,j,hj,h.DU h2⟩
       · refine(h2.aH.block k (Array.getElem?_eq_some_iff.1 hk).1 fun hm=>?_).trans hk
         obtain⟨e,he,_,rfl⟩:=od.1 hm
         obtain⟨o',ho',hA⟩:=(h.all e he).1
         rw[hk] at ho'
         cases ho'
         rw[hcell i e he _ hA] at ho
         cases ho
       · rcases hL i k hk with hlt|⟨A,hA⟩
         · exact h2.aH.block k (Nat.lt_of_lt_of_le hlt h.aH.size) fun hm=>by have:=h.rQ k hm;omega
         · refine h2.aH.block k (h.lt hA.mem) fun hm=>?_
           obtain⟨e,he,hwr,hb⟩:=od.1 hm
           have:=yl h.nodup he hA.mem hb
           subst this
           cases hwr
     | ret=>exact hq.elim
     | exit id=>exact hq.elim
     | goto t=>exact hq.elim
     | panic ch=>exact hq.elim
     | outgrown=>exact hq.elim
 · rintro D xs W hD hS ⟨i,hi,h⟩ hk
   refine(hdone D xs i hS hi).go _ W ⟨?_,?_⟩ ?_
   · show _::a.defers=_
     rw[ha.defers];rfl
   · exact⟨ha.size,rfl,ha.all⟩
   · refine⟨h.aH,?_,fun e he=>?_⟩
     · simp only[List.map_cons,List.nodup_cons,h.nodup,and_true]
       intro hm
       obtain⟨e,he,hb⟩:=List.mem_map.1 hm
       obtain⟨o,ho,hA⟩:=(h.all e he).1
       rw[hb] at ho
       rw[hk] at ho
       cases ho
       have:=hcell i e he _ hA
       cases this
     · simp only[List.mem_cons] at he
       rcases he with rfl|he
       · exact⟨⟨_,hk,rfl⟩,fun _=>.inr (Nat.le_trans hw.aH.size hD)⟩
       · exact h.all e he
end Sl
end
section
namespace Sl
section
variable {P:Program} {n:Nat} {W:World} {ops:Array Oper} {Q Q':Exit->Act->World->Prop} {os:List Oper} {E E':Env} {d:Nat} {op:Op} {ty:TypeId} {pos:String} {aft:Array Edge} {v:Value} {m:Nat}
structure FL (P:Program) (n m:Nat) (W:World) (ops:Array Oper) (Q:Exit->Act->World->Prop) (os:List Oper) (E:Env):Prop where
 go:∀ a,bF n E a->wpListIn Fence.wide m P ops Q os a W
structure FE (n:Nat) (W:World) (Q:Exit->Act->World->Prop) (e:Exit) (E:Env):Prop where
 go:∀ a,bF n E a->Q e a W
structure FC (P:Program) (n:Nat) (W:World) (Q:Exit->Act->World->Prop) (c:Code) (E:Env):Prop where
 go:∀ a,bF n E a->c.wp P Q a W
theorem FC.seq{x y:Code}(h:FC P n W (Exit.then (y.wp P Q) Q) x E):FC P n W Q (.seq x y) E:=⟨fun a ha=>wp_seq (h.go a ha)⟩
theorem FC.skip(h:FE n W Q .normal E):FC P n W Q .skip E:=⟨fun a ha=>wp_skip (h.go a ha)⟩
theorem FC.ret(h:FE n W Q .ret E):FC P n W Q .ret E:=⟨fun a ha=>wp_ret (h.go a ha)⟩
theorem FC.exit{id:Nat}(h:FE n W Q (.exit id) E):FC P n W Q (.exit id) E:=⟨fun a ha=>wp_exit (h.go a ha)⟩
theorem FC.block{id:Nat}{c:Code}(h:FC P n W (Exit.inBlock id Q) c E):FC P n W Q (.block id c) E:=⟨fun a ha=>wp_block (h.go a ha)⟩
theorem FC.cond{c:Operand}{x y:Code}{t:Bool}(hc:ev E c=some (.bool t))(ht:t=true->FC P n W Q x E)(hf:t=false->FC P n W Q y E):FC P n W Q (.cond c x y) E:=
 ⟨fun a ha=>wp_cond_split (ha.eval hc) (fun h=>(ht h).go a ha) (fun h=>(hf h).go a ha)⟩
theorem FC.region{id:Nat}{os:List Oper}(h:FL P n 2 W os.toArray Q os E):FC P n W Q (.region id os.toArray false) E:=⟨fun a ha=>(wpIn_wide (n:=2)).1 (wpIn_region_lit (h.go a ha))⟩
theorem FE.next{y:Code}(h:FC P n W Q' y E):FE n W (Exit.then (y.wp P Q') Q) .normal E:=⟨h.go⟩
theorem FE.ak{K:Act->World->Prop}{id:Nat}(h:FE n W Q (.exit id) E):FE n W (Exit.then K Q) (.exit id) E:=⟨h.go⟩
theorem FE.ag{K:Act->World->Prop}(h:FE n W Q .ret E):FE n W (Exit.then K Q) .ret E:=⟨h.go⟩
theorem FE.ah{id:Nat}(h:FE n W Q .normal E):FE n W (Exit.inBlock id Q) .normal E:=⟨h.go⟩
theorem FE.aQ{id:Nat}(h:FE n W Q .ret E):FE n W (Exit.inBlock id Q) .ret E:=⟨h.go⟩
theorem FE.aC{id:Nat}(h:FE n W Q .normal E):FE n W (Exit.inBlock id Q) (.exit id) E:=⟨fun a ha=>by
 show(if id=id then Q .normal a W else _)
 rw[if_pos rfl];exact h.go a ha⟩
theorem FL.nil(h:FE n W Q .normal E):FL P n m W ops Q [] E:=⟨h.go⟩
theorem FL.q(h:OQ P n E (fun w=>w=W) ⟨some d,op,ty,pos,aft,none⟩ v)(hdf:qw ⟨some d,op,ty,pos,aft,none⟩=true)(hd:Nat.blt d n=true)(k:FL P n m W ops Q os ((d,v)::E)):FL P n m W ops Q (⟨some d,op,ty,pos,aft,none⟩::os) E:=
 ⟨fun a ha=>wpListIn_plain rfl fun K hK=>by
  have hk:=hK _ _ (k.go _ (ha.put d v hd))
  have hq:=h.go a ha W rfl
  refine⟨fun _ _=>trivial,?_⟩
  have e:Oper.semAt Fence.wide.round a.eval ⟨some d,op,ty,pos,aft,none⟩=execOp a.eval ⟨some d,op,ty,pos,aft,none⟩:=rfl
  rw[e]
  unfold Oper.quietAt at hq
  cases hr:(execOp a.eval ⟨some d,op,ty,pos,aft,none⟩).run P W with
  | ok nx w'=>
    rw[hr] at hq
    cases nx with
    | value u=>
      obtain⟨rfl,rfl⟩:=hq
      exact hk
    | skip=>
      obtain⟨rfl,rfl⟩:=hq
      exact hk
    | enter f args=>
      obtain⟨rfl,hc⟩:=hq
      refine⟨fun h=>(by cases h),(callsIn_wide (n:=m-1)).2 (hc.mono ?_)⟩
      rintro e w2 ⟨rfl,rfl⟩
      exact hk
    | _=>exact hq.elim
  | halt x w'=>
    rw[hr] at hq
    exact hq.elim⟩
theorem FL.yield{l:Nat}{x y:Operand}{t:TypeId}{R:Ending->World->Prop}(hx:ev E x=some (.func (.yield l) #[] #[]))(hy:ev E y=some v)(hd:Nat.blt d n=true)(h:YieldAt Fence.wide 1 P l #[v] W R)
  (hR:∀ e W',R e W'->∃ b,e=.returned (.bool b)/\FL P n 2 W' ops Q os ((d,.bool b)::E)):FL P n 2 W ops Q (⟨some d,.call ⟨.value x,#[y],#[t]⟩,ty,pos,aft,none⟩::os) E:=
 ⟨fun a ha=>wpListIn_plain rfl fun K hK=>by
  obtain⟨fn,tmps,assign,body,hrun,hro⟩:=h
  refine⟨fun _ _=>trivial,?_⟩
  have e:(Oper.semAt Fence.wide.round a.eval ⟨some d,.call ⟨.value x,#[y],#[t]⟩,ty,pos,aft,none⟩).run P W=.ok (.round l fn tmps assign body) W:=by
   have e0:Oper.semAt Fence.wide.round a.eval ⟨some d,.call ⟨.value x,#[y],#[t]⟩,ty,pos,aft,none⟩=execOp a.eval ⟨some d,.call ⟨.value x,#[y],#[t]⟩,ty,pos,aft,none⟩:=rfl
   rw[e0]
   simp only[execOp,resolve,Sem.run_bind,ha.eval hx,List.map_toArray,List.map_cons,List.map_nil,ha.eval hy,Deferred.ofValue,Sem.run_pure,Result.andThen_ok,invoke]
   simpa using hrun
  rw[e]
  refine⟨fun h=>(by cases h),hro.mono fun e W' hr=>?_⟩
  obtain⟨b,rfl,hl⟩:=hR e W' hr
  exact hK _ _ (hl.go _ (ha.put d _ hd))⟩
theorem FC.loop{ι:Type}(Ei:ι->Env)(Ci:ι->World->Prop)(μ:ι->Nat){c:Code}(i:ι)(hi:Ci i W)(hE:af E (Ei i))
  (h:∀ i w,Ci i w->FC P n w (Exit.then (fun a' w'=>∃ j,Ci j w'/\μ j<μ i/\bF n (Ei j) a') Q) c (Ei i)):FC P n W Q (.loop c) E:=by
 refine⟨fun a ha=>?_⟩
 have ha':=ha.sub hE
 clear ha hE
 have key:∀ m i,μ i=m->∀ a w,Ci i w->bF n (Ei i) a->∀ (b:Frame) (k:List Item) (cs:List Frame),
   ∃ e a' w',Q e a' w'/\Arrives P (lone (b.at a (.code c::.inLoop c::k)) cs w) b k cs e a' w':=by
  intro m
  induction m using Nat.strongRecOn with
  | _ m ih=>
    intro i hm a w hw ha b k cs
    obtain⟨e,a₁,w₁,hq,harr⟩:=(h i w hw).go a ha b (.inLoop c::k) cs
    cases e with
    | normal=>
      obtain⟨j,hw₁,hlt,ha₁⟩:=hq
      obtain⟨e₂,a₂,w₂,hq₂,harr₂⟩:=ih (μ j) (hm▸hlt) j rfl a₁ w₁ hw₁ ha₁ b k cs
      exact Y236
    | exit id=>exact⟨_,a₁,w₁,hq,.pass (x:=.inLoop c) rfl (fun _ _=>.inl Y614) harr⟩
    | goto l=>exact⟨_,a₁,w₁,hq,.pass (x:=.inLoop c) rfl (fun _ _=>.inl Y614) harr⟩
    | ret=>exact⟨_,a₁,w₁,hq,.pass (x:=.inLoop c) rfl (fun _ _=>.inl Y614) harr⟩
    | panic ch=>exact⟨_,a₁,w₁,hq,.pass (x:=.inLoop c) rfl (fun _ _=>.inl Y614) harr⟩
    | outgrown=>exact⟨_,a₁,w₁,hq,.pass (x:=.inLoop c) rfl (fun _ _=>.inl Y614) harr⟩
 intro b k cs
 obtain⟨e,a',w',hq,harr⟩:=key _ i rfl a W hi ha' b k cs
 exact⟨e,a',w',hq,.of_steps (.one step_loop) harr⟩
theorem FE.again{ι:Type}{Ei:ι->Env}{Ci:ι->World->Prop}{μ:ι->Nat}{i:ι}(j:ι)(hj:Ci j W)(hμ:μ j<μ i)(hE:af E (Ei j)) :
  FE n W (Exit.then (fun a' w'=>∃ j,Ci j w'/\μ j<μ i/\bF n (Ei j) a') Q) .normal E:=⟨fun _ ha=>⟨j,hj,hμ,ha.sub hE⟩⟩
theorem FE.RZ{fn:Func}{R:Ending->World->Prop}(hr:fn.results=#[])(hR:R (.returned (.tuple #[])) W):FE n W (bodyPost P fn R) .ret E:=⟨fun a ha=>⟨ha.defers,.tuple #[],by simp[results,hr],hR⟩⟩
theorem FE.R1{fn:Func}{R:Ending->World->Prop}(hr:fn.results=#[])(hR:R (.returned (.tuple #[])) W):FE n W (bodyPost P fn R) .normal E:=⟨fun a ha=>⟨ha.defers,.tuple #[],by simp[results,hr],hR⟩⟩
theorem KI{f:FuncId}{fn:Func}{c:Code}{vs:List Value}{R:Ending->World->Prop}(hf:P.funcs[f]?=some fn)(hb:fn.body=some c)(hn:fn.ntmps=n)(hl:Nat.ble vs.length n=true)
  (h:FC P n W (bodyPost P fn R) c (enum 0 vs)):Calls P f vs.toArray W R:=by
 refine calls_of_wp hf hb (h.go _ ?_)
 rw[hn]
 exact bF.enter vs Y626
end
end Sl
end
section
namespace Sl
variable {Y:Type}
structure dU (Y:Type) where
 E0:Env
 N:Nat
 v:Nat->Y->Value
 M:Nat->Y->List aL
 need:Nat->List (Nat × Nat)
 pY:Nat->List Nat
 zy:Nat->List Nat
 src:Nat->Option Nat
 E1:Nat->Env
 R:Nat->Y->Y->Prop
def dU.Pp(g:dU Y)(l:List Oper)(i:Nat):Bool:=
 (g.E1 i).all fun p=>(List.range l.length).all fun k=>gE l k != some p.1||(k != i&&ff l k i)
def dU.rm(g:dU Y)(l:List Oper)(i:Nat)(o:Oper):Bool:=
 (((g.need i).all (fun p=>behind o p.1&&gE l p.1==some p.2)&&Fk o (g.src i))&&g.Pp l i) &&
 ((g.pY i).all (fun j=>decide (j<g.N)&&(decide (l.length<=j)||behind o j)) &&
 ((g.zy i).all (fun j=>(g.pY i).contains j) &&
 ((List.range l.length).all (fun k=>k==i||(g.zy k).all fun j=>!(g.pY i).contains j||ff l k i) &&
 (pZ (g.pY i)&&(o.after.toList.all (fun e=>!Region.binds .any e||decide (e.on<i))&&rj l g.E0 i o.dst)))))
def dU.iU(g:dU Y)(l:List Oper):Nat->List Oper->Bool
 | _,[]=>true
 | i,o::r=>g.rm l i o&&g.iU l (i+1) r
theorem dU.fG{g:dU Y}{l:List Oper}:∀ {r:List Oper} {i:Nat},g.iU l i r=true->∀ {j o},r[j]?=some o->g.rm l (i+j) o=true
 | [],_,_,j,o,h=>by simp at h
 | q::r,i,hk,j,o,h=>by
   simp only[dU.iU,Bool.and_eq_true] at hk
   cases j with
   | zero=>
     simp only[List.getElem?_cons_zero,Option.some.injEq] at h
     subst h
     exact hk.1
   | succ j=>
     have:=dU.fG hk.2 (j:=j) (o:=o) Y616
     rwa [show i+1+j=i+(j+1) by omega] at this
def dU.RA(g:dU Y)(P:Program)(n:Nat)(w0:World)(S:List Nat)(l:List Oper)(i:Nat)(o:Oper):Prop:=
 ∀ (x:Nat->Y) (EF:Env) (MF:List aL) (Q:Exit->Act->World->Prop),
   (∀ xi:Y,(∀ k,g.src i=some k->g.R i xi (x k))->JE n w0 S Q .normal (slot o.dst (g.v i xi)++((g.need i).map (fun p=>(p.2,g.v p.1 (x p.1)))++(g.E0++(g.E1 i++EF)))) (g.M i xi++(((g.pY i).filter fun j=>!(g.zy i).contains j).flatMap (fun j=>g.M j (x j))++MF)))->
   JL P n w0 S l.toArray Q [o] ((g.need i).map (fun p=>(p.2,g.v p.1 (x p.1)))++(g.E0++(g.E1 i++EF))) ((g.pY i).flatMap (fun j=>g.M j (x j))++MF)
def dU.uL(g:dU Y)(P:Program)(n:Nat)(w0:World)(S:List Nat)(l:List Oper):Nat->List Oper->Prop
 | _,[]=>True
 | i,o::r=>g.RA P n w0 S l i o/\g.uL P n w0 S l (i+1) r
theorem dU.p5{g:dU Y}{P:Program}{n:Nat}{w0:World}{S:List Nat}{l:List Oper}:∀ {r:List Oper} {i:Nat},g.uL P n w0 S l i r->∀ {j o},r[j]?=some o->g.RA P n w0 S l (i+j) o
 | [],_,_,j,o,h=>by simp at h
 | q::r,i,hk,j,o,h=>by
   cases j with
   | zero=>
     simp only[List.getElem?_cons_zero,Option.some.injEq] at h
     subst h
     exact hk.1
   | succ j=>
     have:=dU.p5 hk.2 (j:=j) (o:=o) Y616
     rwa [show i+1+j=i+(j+1) by omega] at this
def dU.live(g:dU Y)(m:Nat)(done:Array Bool)(j:Nat):Prop:=j<g.N/\(m<=j\/done.getD j false=true)/\∀ k,done.getD k false=true->j ∉ g.zy k
structure dU.Inv (g:dU Y) (n:Nat) (w0:World) (S:List Nat) (l:List Oper) (done:Array Bool) (x:Nat->Y) (a:Act) (w:World):Prop where
 size:a.tmps.size=n
 defers:a.defers=[]
 uM:done.size=l.length
 base:∀ p∈g.E0,a.tmps.getD p.1 undef=p.2
 first:∀ j,j<l.length->done.getD j false=false->∀ p∈g.E1 j,a.tmps.getD p.1 undef=p.2
 vals:∀ j d,done.getD j false=true->gE l j=some d->a.tmps.getD d undef=g.v j (x j)
 rel:∀ j k,done.getD j false=true->g.src j=some k->g.R j (x j) (x k)
 down:∀ j i,done.getD j false=true->ff l j i=true->done.getD i false=true
 mem:kN w0 S (g.live l.length done) (fun j=>g.M j (x j)) w
section
variable {P:Program} {n:Nat} {w0:World} {S:List Nat} {Q:Exit->Act->World->Prop} {E:Env} {M:List aL} {g:dU Y} {l:List Oper}
theorem dU.run(hok:g.iU l 0 l=true)(hj:g.uL P n w0 S l 0 l)
  (hend:∀ done x a w,g.Inv n w0 S l done x a w->(∀ j,j<l.length->done.getD j false=true)->Q .normal a w) :
  ∀ (f:Nat) (done:Array Bool) (x:Nat->Y) (a:Act) (w:World),f=(List.range l.length).countP (fun j=>!done.getD j false)->g.Inv n w0 S l done x a w->wpAny P .any l.toArray Q f done a w:=by
 have hrdy:∀ done:Array Bool,done.size=l.length->Region.ready .any l.toArray done=[]->∀ j,j<l.length->done.getD j false=true:=by
  intro done hds hr j
  induction j using Nat.strongRecOn with
  | _ j ih=>
    intro hjl
    cases hd:done.getD j false with
    | true=>rfl
    | false=>
      obtain⟨o,ho⟩:∃ o,l[j]?=some o:=⟨_,List.getElem?_eq_getElem hjl⟩
      have hk:=dU.fG hok ho
      simp only[dU.rm,Bool.and_eq_true,Nat.zero_add] at hk
      have hkk:=hk.2.2.2.2.2.1
      have:j∈Region.ready .any l.toArray done:=by
       rw[mem_ready]
       refine⟨?_,o,by simpa using ho,fun e he hb=>?_⟩
       · rw[Array.getD_eq_getD_getElem?,Array.getElem?_eq_getElem Y609] at hd⊢
         simpa using hd
       · have:=List.all_eq_true.1 hkk e Y629
         simp only[hb,Bool.not_true,Bool.false_or,decide_eq_true_eq] at this
         exact ih e.on this Y609
      rw[hr] at this
      cases this
 intro f
 induction f with
 | zero=>
   intro done x a w hf hI
   have hall:∀ j,j<l.length->done.getD j false=true:=fun j hjl=>by
    have:=List.countP_eq_zero.1 hf.symm j (List.mem_range.2 hjl)
    simpa using this
   refine⟨?_,hend done x a w hI hall⟩
   refine List.eq_nil_iff_forall_not_mem.2 fun i hi=>?_
   obtain⟨hu,o,ho,_⟩:=mem_ready.1 hi
   have hil:i<l.length:=by
    have:=(Array.getElem?_eq_some_iff.1 ho).1
    simpa using this
   have:=hall i hil
   rw[Array.getD_eq_getD_getElem?,Array.getElem?_eq_getElem (by have:=hI.uM;omega)] at hu this
   simp only[Option.getD_some] at hu this
   rw[hu] at this
   cases this
 | succ f ih=>
   intro done x a w hf hI
   have hds:=hI.uM
   refine⟨fun h0=>hend done x a w hI (hrdy done hds h0),fun i hi=>?_⟩
   obtain⟨hu,o,ho,hbe⟩:=mem_ready.1 hi
   have hil:i<l.length:=by
    have:=(Array.getElem?_eq_some_iff.1 ho).1
    simpa using this
   have ho':l[i]?=some o:=by simpa using ho
   have hu':done.getD i false=false:=by
    rw[Array.getD_eq_getD_getElem?,Array.getElem?_eq_getElem Y609] at hu⊢
    simpa using hu
   have hk:=dU.fG hok ho'
   simp only[dU.rm,Bool.and_eq_true,Nat.zero_add] at hk
   obtain⟨⟨⟨k1,k8⟩,k9⟩,k2,k3,k4,k5,_,k7⟩:=hk
   have hbeh:∀ j,behind o j=true->done.getD j false=true:=fun j hj=>by
    simp only[behind,List.any_eq_true,Bool.and_eq_true,beq_iff_eq] at hj
    obtain⟨e,he,rfl,hb⟩:=hj
    exact hbe e Y629 hb
   have hbi:∀ k,ff l k i=true->done.getD k false=false:=fun k hk=>by
    cases h:done.getD k false with
    | false=>rfl
    | true=>have:=hI.down k i h hk;rw[hu'] at this;cases this
   have hinp:∀ j∈g.pY i,g.live l.length done j:=by
    intro j hj
    have h2:=List.all_eq_true.1 k2 j hj
    simp only[Bool.and_eq_true,Bool.or_eq_true,decide_eq_true_eq] at h2
    refine⟨h2.1,h2.2.imp id (hbeh j),fun k hkd hjk=>?_⟩
    have hkl:k<l.length:=by
     by_cases h:k<l.length
     · exact h
     · rw[Array.getD_eq_getD_getElem?,Array.getElem?_eq_none Y609] at hkd
       cases hkd
    have h4:=List.all_eq_true.1 k4 k (List.mem_range.2 hkl)
    have hki:k≠i:=fun e=>by rw[e,hu'] at hkd;cases hkd
    simp only[Bool.or_eq_true,beq_iff_eq,hki,false_or] at h4
    have h5:=List.all_eq_true.1 h4 j hjk
    simp only[Bool.or_eq_true,Bool.not_eq_true',List.contains_eq_mem,decide_eq_false_iff_not,hj,not_true,false_or] at h5
    rw[hbi k h5] at hkd
    cases hkd
   have hdone_ne:∀ j,done.getD j false=true->j≠i:=fun j hj e=>by rw[e,hu'] at hj;cases hj
   have hlen:∀ k,done.getD k false=true->k<l.length:=fun k hkd=>by
    by_cases h:k<l.length
    · exact h
    · rw[Array.getD_eq_getD_getElem?,Array.getElem?_eq_none Y609] at hkd
      cases hkd
   have hdi:gE l i=o.dst:=by simp[gE,ho']
   have hne:∀ j d,done.getD j false=true->gE l j=some d->o.dst≠some d:=by
    intro j d hjd hd he
    rw[he] at k7
    simp only[rj,Bool.and_eq_true] at k7
    have:=List.all_eq_true.1 k7.1 j (List.mem_range.2 (hlen j hjd))
    simp[hdone_ne j hjd,hd] at this
   have hne0:∀ p∈g.E0,o.dst≠some p.1:=by
    intro p hp he
    rw[he] at k7
    simp only[rj,Bool.and_eq_true] at k7
    have:=List.all_eq_true.1 k7.2 p hp
    simp at this
   let rest:List Nat:=(List.range g.N).filter fun j=>@decide (g.live l.length done j) (Classical.propDecidable _)&&!(g.pY i).contains j
   have hrest:∀ j,j∈rest↔g.live l.length done j/\j ∉ g.pY i:=by
    intro j
    simp only[rest,List.mem_filter,List.mem_range,Bool.and_eq_true,Bool.not_eq_true',List.contains_eq_mem,decide_eq_false_iff_not]
    refine⟨fun ⟨_,h2,h3⟩=>⟨@of_decide_eq_true _ (Classical.propDecidable _) h2,h3⟩,fun ⟨h2,h3⟩=>⟨h2.1,@decide_eq_true _ (Classical.propDecidable _) h2,h3⟩⟩
   have hnd:(g.pY i++rest).Nodup:=by
    rw[List.nodup_append]
    refine⟨lZ k5,List.nodup_range.filter _,fun a ha b hb e=>?_⟩
    exact((hrest b).1 hb).2 (e▸ha)
   have H1:=hI.mem.to (g.pY i++rest) hnd (fun j hj=>by
    rcases List.mem_append.1 hj with h|h
    · exact hinp j h
    · exact((hrest j).1 h).1)
   rw[List.flatMap_append] at H1
   let EF0:Env:=(List.range l.length).filterMap fun j=>if done.getD j false=true then(gE l j).map (fun d=>(d,g.v j (x j))) else none
   let EF1:Env:=(List.range l.length).flatMap fun j=>if done.getD j false=true then [] else g.E1 j
   let EF:Env:=EF0++EF1
   have hEF:∀ p,p∈EF0↔∃ j d,done.getD j false=true/\gE l j=some d/\p=(d,g.v j (x j)):=by
    intro p
    simp only[EF0,List.mem_filterMap,List.mem_range]
    constructor
    · rintro⟨j,_,hp⟩
      split at hp
      · rename_i hjd
        obtain⟨d,hd,rfl⟩:=Option.map_eq_some_iff.1 hp
        exact⟨j,d,hjd,hd,rfl⟩
      · cases hp
    · rintro⟨j,d,hjd,hd,rfl⟩
      exact⟨j,hlen j hjd,by rw[if_pos hjd,hd];rfl⟩
   have hEF1:∀ j,j<l.length->done.getD j false=false->∀ p∈g.E1 j,p∈EF1:=by
    intro j hjl hjd p hp
    simp only[EF1,List.mem_flatMap,List.mem_range]
    exact⟨j,hjl,by rw[if_neg (by rw[hjd];decide)];exact hp⟩
   have hne1:∀ j,j<l.length->done.getD j false=false->∀ p∈g.E1 j,o.dst≠some p.1:=by
    intro j hjl hjd p hp he
    have hjo:l[j]?=some (l[j]'hjl):=List.getElem?_eq_getElem hjl
    have hkj:=dU.fG hok hjo
    simp only[dU.rm,Bool.and_eq_true,Nat.zero_add] at hkj
    have h9:=List.all_eq_true.1 hkj.1.2 p hp
    have h10:=List.all_eq_true.1 h9 i (List.mem_range.2 hil)
    simp only[hdi,he,bne_self_eq_false,Bool.false_or,Bool.and_eq_true] at h10
    have h11:behind o j=true:=by simpa [ff,ho'] using h10.2
    rw[hbeh j h11] at hjd
    cases hjd
   have hneed:∀ p∈g.need i,done.getD p.1 false=true/\gE l p.1=some p.2:=by
    intro p hp
    have h1:=List.all_eq_true.1 k1 p hp
    simp only[Bool.and_eq_true,beq_iff_eq] at h1
    exact⟨hbeh _ h1.1,h1.2⟩
   have hK:∀ p∈((g.need i).map (fun p=>(p.2,g.v p.1 (x p.1)))++(g.E0++(g.E1 i++EF))),a.tmps.getD p.1 undef=p.2/\o.dst≠some p.1:=by
    intro p hp
    rcases List.mem_append.1 hp with h|h
    · obtain⟨q,hq,rfl⟩:=List.mem_map.1 h
      obtain⟨h1,h2⟩:=hneed q hq
      exact Y239
    · rcases List.mem_append.1 h with h|h
      · exact⟨hI.base p h,hne0 p h⟩
      · rcases List.mem_append.1 h with h|h
        · exact⟨hI.first i hil hu' p h,hne1 i hil hu' p h⟩
        · rcases List.mem_append.1 h with h|h
          · obtain⟨j,d,h1,h2,rfl⟩:=(hEF p).1 h
            exact Y239
          · simp only[EF1,List.mem_flatMap,List.mem_range] at h
            obtain⟨j,hjl,h⟩:=h
            cases hjd:done.getD j false with
            | true=>rw[hjd] at h;simp at h
            | false=>
              rw[hjd] at h
              simp only[Bool.false_eq_true,if_false] at h
              exact⟨hI.first j hjl hjd p h,hne1 j hjl hjd p h⟩
   have job:=dU.p5 hj ho'
   rw[Nat.zero_add] at job
   refine lY ho ((job x EF (rest.flatMap fun j=>g.M j (x j)) _ fun xi hxi=>⟨fun a' w' hK' hH'=>?_⟩).go a w (bF.of hI.size hI.defers fun p hp=>(hK p hp).1) H1)
   have hd':∀ j,(done.setIfInBounds i true).getD j false=(decide (j=i)||done.getD j false):=fun j=>A8 Y609
   refine ih _ (fun j=>if j=i then xi else x j) a' w' ?_ ?_
   · have:=uK (l:=List.range l.length) (p:=fun j=>!done.getD j false) (q:=fun j=>!(done.setIfInBounds i true).getD j false) (i:=i) List.nodup_range (List.mem_range.2 hil) (by simp only[hu'];rfl) (by simp only[hd'];simp) (fun j hj=>by simp only[hd'];simp[hj])
     omega
   · have hmem:∀ p∈(slot o.dst (g.v i xi)++((g.need i).map (fun p=>(p.2,g.v p.1 (x p.1)))++(g.E0++(g.E1 i++EF)))),a'.tmps.getD p.1 undef=p.2:=by
      intro p hp
      refine hK'.mem (f:=fun t=>if o.dst=some t then g.v i xi else a.tmps.getD t undef) (fun q hq=>?_) hp
      rcases List.mem_append.1 hq with h|h
      · cases hod:o.dst with
        | none=>rw[hod] at h;cases h
        | some d=>
          rw[hod] at h
          simp only[slot,List.mem_singleton] at h
          subst h
          simp
      · have:=hK q h
        simp only[this.2,if_false]
        exact this.1
     refine⟨hK'.size,hK'.defers,by simp[hds],fun p hp=>hmem p (by simp[hp]),fun j hjl hjd p hp=>?_,?_,?_,?_,?_⟩
     · rw[hd'] at hjd
       simp only[Bool.or_eq_false_iff] at hjd
       exact Y240
     · intro j d hjd hd
       by_cases e:j=i
       · subst e
         rw[hdi] at hd
         have:=hmem (d,g.v j xi) (by simp[hd,slot])
         simpa using this
       · rw[hd'] at hjd
         simp only[e,decide_false,Bool.false_or] at hjd
         have:=hmem (d,g.v j (x j)) (List.mem_append_right _ (List.mem_append_right _ (List.mem_append_right _ (List.mem_append_right _ (List.mem_append_left _ ((hEF _).2 ⟨j,d,hjd,hd,rfl⟩))))))
         simpa [e] using this
     · intro j k hjd hs
       rw[hd'] at hjd
       by_cases e:j=i
       · subst e
         rw[hs] at k8
         simp only[if_true,hdone_ne k (hbeh k k8),if_false]
         exact hxi k hs
       · simp only[e,decide_false,Bool.false_or] at hjd
         have hjo:l[j]?=some (l[j]'(hlen j hjd)):=List.getElem?_eq_getElem (hlen j hjd)
         have hkj:=dU.fG hok hjo
         simp only[dU.rm,Bool.and_eq_true,Nat.zero_add] at hkj
         have h8:=hkj.1.1.2
         rw[hs] at h8
         have hkd:=hI.down j k hjd (by simpa [ff,hjo,Fk] using h8)
         simp only[e,hdone_ne k hkd,if_false]
         exact hI.rel j k hjd hs
     · intro j i' hjd hb
       rw[hd'] at hjd⊢
       by_cases e:j=i
       · subst e
         have:behind o i'=true:=by simpa [ff,ho'] using hb
         simp[hbeh i' this]
       · simp only[e,decide_false,Bool.false_or] at hjd
         simp[hI.down j i' hjd hb]
     · have hnl:¬ g.live l.length done i:=fun h=>by
        rcases h.2.1 with h|h
        · omega
        · rw[hu'] at h;cases h
       have hcg:∀ L:List Nat,(∀ j∈L,g.live l.length done j)->L.flatMap (fun j=>g.M j (if j=i then xi else x j))=L.flatMap fun j=>g.M j (x j):=by
        intro L
        induction L with
        | nil=>simp
        | cons j L ih=>
          intro h
          have hji:j≠i:=fun e=>hnl (e▸h j Y614)
          simp only[List.flatMap_cons,hji,if_false,ih fun k hk=>h k (by simp[hk])]
       refine kN.of (Js:=i::(((g.pY i).filter fun j=>!(g.zy i).contains j)++rest)) ?_ ?_
       · rw[List.flatMap_cons,List.flatMap_append,hcg _ (fun j hj=>hinp j (List.mem_filter.1 hj).1),hcg rest (fun j hj=>((hrest j).1 hj).1)]
         simpa using hH'
       · intro j hj
         by_cases e:j=i
         · simp[e]
         · have hl:g.live l.length done j:=by
            refine⟨hj.1,hj.2.1.imp id (fun h=>?_),fun k hk=>hj.2.2 k (by rw[hd'];simp[hk])⟩
            rw[hd'] at h
            simpa [e] using h
           have hne:j ∉ g.zy i:=hj.2.2 i (by rw[hd'];simp)
           by_cases hji:j∈g.pY i
           · simp[e,hji,hne]
           · have:=(hrest j).2 ⟨hl,hji⟩
             simp[e,this]
theorem yo[Inhabited Y](g:dU Y)(outs:List (Nat × Nat))(ends:List Nat)(hE:af E g.E0)(hE1:∀ i,i<l.length->af E (g.E1 i))(hM:aj (((List.range g.N).filter fun j=>decide (l.length<=j)).flatMap fun j=>g.M j default) M)
  (hok:g.iU l 0 l=true) (ho:(outs.all fun p=>decide (p.1<l.length)&&gE l p.1==some p.2)=true)
  (he:(pZ ends&&ends.all fun j=>decide (j<g.N)&&(List.range l.length).all fun k=>!(g.zy k).contains j)=true)
  (hj:g.uL P n w0 S l 0 l)
  (k:∀ x:Nat->Y,(∀ j k,j<l.length->g.src j=some k->g.R j (x j) (x k))->JE n w0 S Q .normal (outs.map (fun p=>(p.2,g.v p.1 (x p.1)))++g.E0) (ends.flatMap fun j=>g.M j (x j))) {a:Act} {w:World} (ha:bF n E a) (hw:aa w0 S M w):wpAny P .any l.toArray Q l.toArray.size (Array.replicate l.toArray.size false) a { w with drawn:=w.drawn+1 }:=by
  have hw':=(hw.drawn (w.drawn+1)).weak hM
  simp only[Bool.and_eq_true] at he
  refine dU.run hok hj (fun done x a w hI hall=>?_) _ _ (fun _=>default) a _ ?_ ?_
  · refine(k x fun j k hj hs=>hI.rel j k (hall j hj) hs).go a w (bF.of hI.size hI.defers fun p hp=>?_) (hI.mem.to ends (lZ he.1) fun j hj=>?_)
    · rcases List.mem_append.1 hp with h|h
      · obtain⟨q,hq,rfl⟩:=List.mem_map.1 h
        have:=List.all_eq_true.1 ho q hq
        simp only[Bool.and_eq_true,decide_eq_true_eq,beq_iff_eq] at this
        exact hI.vals _ _ (hall _ this.1) this.2
      · exact hI.base p h
    · have:=List.all_eq_true.1 he.2 j hj
      simp only[Bool.and_eq_true,decide_eq_true_eq] at this
      refine⟨this.1,?_,fun k hk hjk=>?_⟩
      · by_cases h:l.length<=j
        · exact .inl h
        · exact .inr (hall j Y609)
      · have hkl:k<l.length:=by
         by_cases h:k<l.length
         · exact h
         · have:=hI.uM
           rw[Array.getD_eq_getD_getElem?,Array.getElem?_eq_none Y609] at hk
           cases hk
        have:=List.all_eq_true.1 this.2 k (List.mem_range.2 hkl)
        simp[hjk] at this
  · have:∀ j,(Array.replicate l.toArray.size false).getD j false=false:=fun j=>by
     simp only[Array.getD_eq_getD_getElem?,Array.getElem?_replicate]
     split <;> rfl
    rw[List.countP_eq_length.2 (fun j _=>by simp only[this];rfl)]
    simp
  · have hf:∀ j,(Array.replicate l.toArray.size false).getD j false=false:=fun j=>by
     simp only[Array.getD_eq_getD_getElem?,Array.getElem?_replicate]
     split <;> rfl
    refine⟨ha.size,ha.defers,by simp,fun p hp=>ha.all _ _ (hE.all p hp),fun j hj _ p hp=>ha.all _ _ ((hE1 j hj).all p hp),fun j d h=>?_,fun j k h=>?_,fun j i h=>?_,?_⟩
    · rw[hf] at h;cases h
    · rw[hf] at h;cases h
    · rw[hf] at h;cases h
    · refine kN.of hw' fun j hj=>?_
      rw[List.mem_filter]
      refine⟨List.mem_range.2 hj.1,?_⟩
      rcases hj.2.1 with h|h
      · simpa using h
      · rw[hf] at h;cases h
theorem JC.nt[Inhabited Y](g:dU Y)(outs:List (Nat × Nat))(ends:List Nat){id:Nat}(hm:P.follows .mixedOrders=true)(hE:af E g.E0)(hE1:∀ i,i<l.length->af E (g.E1 i))(hM:aj (((List.range g.N).filter fun j=>decide (l.length<=j)).flatMap fun j=>g.M j default) M)
  (hok:g.iU l 0 l=true) (ho:(outs.all fun p=>decide (p.1<l.length)&&gE l p.1==some p.2)=true)
  (he:(pZ ends&&ends.all fun j=>decide (j<g.N)&&(List.range l.length).all fun k=>!(g.zy k).contains j)=true)
  (hj:g.uL P n w0 S l 0 l)
  (k:∀ x:Nat->Y,(∀ j k,j<l.length->g.src j=some k->g.R j (x j) (x k))->JE n w0 S Q .normal (outs.map (fun p=>(p.2,g.v p.1 (x p.1)))++g.E0) (ends.flatMap fun j=>g.M j (x j))):JC P n w0 S Q (.region id l.toArray true) E M:=
 ⟨fun a w ha hw=>wp_region_any hm (yo g outs ends hE hE1 hM hok ho he hj k ha hw)⟩
end
end Sl
end
end Go.Proofs.YtdabhneehconeaaGreatDoor
