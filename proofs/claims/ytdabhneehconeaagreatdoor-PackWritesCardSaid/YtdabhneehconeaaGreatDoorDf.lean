/-
  Of no statement by itself: the texts TokV, QuoS, RfE, FibB, FibC, FibD, LtR, LtS, LtA, LtB, LtC, LetL, LetK, LtD, ArmP, ArmE, ArmD, ArmI, ArmJ, ArmG in one.
  Conditions: each theorem's own.
-/
import Derived.Test.YtdabhneehconeaaGreatDoorDe
set_option linter.unusedSimpArgs false
set_option linter.unusedVariables false
set_option maxRecDepth 10000
set_option maxHeartbeats 32000000
open Go.Proofs.YtdabhneehconeaaGreatDoor.YY
namespace Go.Proofs.YtdabhneehconeaaGreatDoor
section
open Sl aq Tok
theorem Se:EI Tryz.prog 63 (.agg (pc ([],[])).toArray) 2 32:=by unfold EI;kernel_rfl
theorem yy(c:aq.By)(r:List aq.By)(q:Bool)(x:List aq.By)(h:¬ (q=true/\c=92)):dL (c::r) q x=if c=34 then dL r (!q) (x++[c]) else if c=59/\q=false then x::dL r q [] else dL r q (x++[c]):=by
 conv=>lhs;rw[dL.eq_def]
 dsimp only
 rw[if_neg h]
theorem F3(c2:aq.By)(r x:List aq.By):dL (92::c2::r) true x=dL r true (x++[92,c2]):=by
 conv=>lhs;rw[dL.eq_def]
 rfl
theorem B6(x:List aq.By):dL [92] true x=[x++[92]]:=by
 conv=>lhs;rw[dL.eq_def]
 rfl
theorem Ag(q:Bool)(x:List aq.By):dL [] q x=[x]:=by rw[dL.eq_def]
theorem KV:∀ (n:Nat) (r:List aq.By) (q:Bool) (x:List aq.By),r.length<=n->(dL r q x).length<=r.length+1:=by
 intro n
 induction n with
 | zero=>
   intro r q x h
   obtain rfl:r=[]:=List.eq_nil_of_length_eq_zero Y609
   rw[Ag];simp
 | succ n ih=>
   intro r q x h
   match r,h with
   | [],_=>rw[Ag];simp
   | c::r,h=>
     simp only[List.length_cons] at h⊢
     by_cases h9:q=true/\c=92
     · obtain⟨rfl,rfl⟩:=h9
       match r,h with
       | [],_=>rw[B6];simp
       | c2::r,h=>
         simp only[List.length_cons] at h⊢
         rw[F3]
         have:=ih r true (x++[92,c2]) Y609
         omega
     · rw[yy _ _ _ _ h9]
       have h1:=ih r (!q) (x++[c]) Y609
       have h2:=ih r q [] Y609
       have h3:=ih r q (x++[c]) Y609
       split
       · omega
       split
       · rw[List.length_cons];omega
       · omega
structure QS where
 i:Nat
 fr:Nat
 q:Bool
 o:List (List aq.By)
 b:Nat
 cap:Nat
structure QT where
 i:Nat
 o:List Pr
 b:Nat
 cap:Nat
end
section
namespace gv
open aq
def kj(c:By):Int:=if 48<=c.toNat/\c.toNat<=57 then(c.toNat:Int)-48 else if 65<=c.toNat/\c.toNat<=70 then(c.toNat:Int)-55 else if 97<=c.toNat/\c.toNat<=102 then(c.toNat:Int)-87 else -1
def iq(b:List By):Nat:=(b.takeWhile bl).length
def wW:List By->Nat
 | []=>0
 | c::r=>if c=10 then 1 else if c=13/\r.head?=some 10 then 2 else 0
theorem qB(c:By)(r:List By):wW (c::r)=if c=10 then 1 else if c=13/\r.head?=some 10 then 2 else 0:=rfl
def oD(b:List By):Bool:=decide (b=[])||decide (0<wW b)
def vX(b:List By):Option By:=if 3<=b.length/\0<=kj (b.getD 1 0)/\0<=kj (b.getD 2 0) then some (BitVec.ofInt 8 (16*kj (b.getD 1 0)+kj (b.getD 2 0))) else none
def B7(b:List By):Option Nat:=if oD (b.drop (1+iq (b.drop 1))) then some (1+iq (b.drop 1)+wW (b.drop (1+iq (b.drop 1)))) else none
def iQ(b:List By):Option (List By × Nat):=
 if b.getD 0 0=61 then
  match vX b with
  | some c=>some ([c],3)
  | none=>(B7 b).map fun k=>([],k)
 else if 0<iq b then some (if oD (b.drop (iq b)) then [] else b.take (iq b),iq b)
 else if 0<wW b then some ([13,10],wW b)
 else some ([b.getD 0 0],1)
def tq(o:List By):Option (List By)->Option (List By)
 | none=>none
 | some x=>some (o++x)
def vY:Nat->List By->Option (List By)
 | 0,_=>some []
 | n+1,b=>if b=[] then some [] else match iQ b with
   | none=>none
   | some p=>tq p.1 (vY n (b.drop p.2))
def jD(b:List By):Option (List By):=vY b.length b
theorem v7(x:Option (List By)):tq [] x=x:=by cases x <;> rfl
theorem qC(a b:List By)(x:Option (List By)):tq a (tq b x)=tq (a++b) x:=by cases x <;> simp[tq]
theorem v8(b:List By):iq b<=b.length:=(List.takeWhile_prefix _).length_le
theorem Ah:∀ b:List By,wW b<=b.length
 | []=>Nat.le_refl _
 | c::r=>by
   rw[qB]
   split
   · simp
   · split
     · next h=>cases r with
       | nil=>cases h.2
       | cons d r=>simp
     · exact Nat.zero_le _
theorem step_pos{b:List By}{p:List By × Nat}(hb:b≠[])(h:iQ b=some p):1<=p.2/\p.2<=b.length:=by
 have hl:1<=b.length:=List.length_pos_iff.2 hb
 unfold iQ at h
 split at h
 · split at h
   · next c hc=>
     cases h
     unfold vX at hc
     split at hc
     · next h3=>exact⟨show 1<=3 by decide,h3.1⟩
     · cases hc
   · obtain⟨k,hk,rfl⟩:=Option.map_eq_some_iff.1 h
     unfold B7 at hk
     split at hk
     · cases hk
       have h1:=Ah (b.drop (1+iq (b.drop 1)))
       have h2:=v8 (b.drop 1)
       rw[List.length_drop] at h1 h2
       dsimp only
       omega
     · cases hk
 · split at h
   · next hk=>cases h;exact⟨hk,v8 b⟩
   · split at h
     · next hk=>cases h;exact⟨hk,Ah b⟩
     · cases h;exact⟨Nat.le_refl _,hl⟩
theorem sX:∀ (n m:Nat) (b:List By),b.length<=n->b.length<=m->vY n b=vY m b
 | 0,0,_,_,_=>rfl
 | 0,m+1,b,h,_=>by
   obtain rfl:b=[]:=List.eq_nil_of_length_eq_zero Y609
   rw[vY,vY,if_pos rfl]
 | n+1,0,b,_,h=>by
   obtain rfl:b=[]:=List.eq_nil_of_length_eq_zero Y609
   rw[vY,vY,if_pos rfl]
 | n+1,m+1,b,h1,h2=>by
   rw[vY,vY]
   by_cases hb:b=[]
   · rw[if_pos hb,if_pos hb]
   · rw[if_neg hb,if_neg hb]
     cases hs:iQ b with
     | none=>rfl
     | some p=>
       have hp:=step_pos hb hs
       dsimp only
       rw[sX n m (b.drop p.2) Y632 Y632]
theorem jO{b:List By}(hb:b≠[]):jD b=match iQ b with
  | none=>none
  | some p=>tq p.1 (jD (b.drop p.2)):=by
 have hl:1<=b.length:=List.length_pos_iff.2 hb
 unfold jD
 obtain⟨n,hn⟩:∃ n,b.length=n+1:=⟨b.length-1,by omega⟩
 rw[hn,vY,if_neg hb]
 cases hs:iQ b with
 | none=>rfl
 | some p=>
   have hp:=step_pos hb hs
   dsimp only
   rw[sX n (b.drop p.2).length (b.drop p.2) Y632 (Nat.le_refl _)]
theorem we(c:By)(r:List By):iq (c::r)=if bl c then iq r+1 else 0:=by
 unfold iq
 rw[List.takeWhile_cons]
 cases bl c <;> simp
theorem Qj{c:By}{r:List By}(h:0<wW (c::r)):bl c=false/\c≠61:=by
 rw[qB] at h
 split at h
 · next e=>subst e;exact⟨by decide,by decide⟩
 · split at h
   · next e=>obtain⟨rfl,_⟩:=e;exact⟨by decide,by decide⟩
   · cases h
theorem NO{b:List By}(h:0<wW b):jD b=tq [13,10] (jD (b.drop (wW b))):=by
 cases b with
 | nil=>cases h
 | cons c r=>
   obtain⟨h1,h2⟩:=Qj h
   have hk:iq (c::r)=0:=by rw[we,h1];rfl
   rw[jO Y614]
   have hs:iQ (c::r)=some ([13,10],wW (c::r)):=by
    unfold iQ
    rw[if_neg (by simpa using h2),if_neg Y609,if_pos h]
   rw[hs]
theorem NP{b:List By}{x:By}(h1:b.getD 0 0=61)(h2:vX b=some x):jD b=tq [x] (jD (b.drop 3)):=by
 have hb:b≠[]:=by rintro rfl;cases h1
 have hs:iQ b=some ([x],3):=by
  unfold iQ
  rw[if_pos h1,h2]
 rw[jO hb,hs]
theorem KW{b:List By}{k:Nat}(h1:b.getD 0 0=61)(h2:vX b=none)(h3:B7 b=some k):jD b=jD (b.drop k):=by
 have hb:b≠[]:=by rintro rfl;cases h1
 have hs:iQ b=some ([],k):=by
  unfold iQ
  rw[if_pos h1,h2,h3]
  rfl
 rw[jO hb,hs]
 exact v7 _
theorem NQ{b:List By}(h1:b.getD 0 0=61)(h2:vX b=none)(h3:B7 b=none):jD b=none:=by
 have hb:b≠[]:=by rintro rfl;cases h1
 have hs:iQ b=none:=by
  unfold iQ
  rw[if_pos h1,h2,h3]
  rfl
 rw[jO hb,hs]
def KX:Option (List By)->Nat
 | none=>3
 | some _=>0
def Sf:Option (List By)->List By
 | none=>[]
 | some x=>x
def Qd(b:List By):Except Nat (List By):=match jD b with
 | none=>.error 3
 | some x=>.ok x
end gv
end
section
open Sl aq gZ Tok
theorem gx:kM Tryz.prog 59=true:=by kernel_rfl
theorem tr:zc Tryz.prog 59=some [Z [],bV.v,.int .i64 0,aB.v,.slice none 0 0]:=by kernel_rfl
structure PA (d:Nat) (r:Except Nat Part) where
 cs:List Value
 M:List aL
 len:cs.length=5
 one:cs.all Value.oneCell'=true
 wr:∀ e∈M,e.wr=true
 is:∀ p,r=.ok p->kI d p cs M
def pz:List Value:=[Z [],bV.v,.int .i64 0,aB.v,.slice none 0 0]
def PA.err{d:Nat}{e:Nat}:PA d (.error e):=⟨pz,[],rfl,rfl,nofun,nofun⟩
theorem OQ.wg{n:Nat}{E:Env}{C:World->Prop}{dst:Option Tmp}{ty:TypeId}{pos:String}{aft:Array Edge}{g:Option (Nat × Bool)}:OQ Tryz.prog n E C ⟨dst,.build 59 #[],ty,pos,aft,g⟩ (.agg pz.toArray):=by
 refine OQ.run fun k hk w _=>?_
 have h3:=run_build (P:=Tryz.prog) w 59 #[] pz.toArray Y636
 simp[execOp,Sem.run_bind,h3]
theorem OQ.KY{n:Nat}{E:Env}{C:World->Prop}{dst:Option Tmp}{ty:TypeId}{pos:String}{aft:Array Edge}{g:Option (Nat × Bool)}{a:List Bt}:OQ Tryz.prog n E C ⟨dst,.build 59 #[(0,.const (Z a))],ty,pos,aft,g⟩ (.agg ([Z a,bV.v,.int .i64 0,aB.v,.slice none 0 0]:List Value).toArray):=by
 refine OQ.run fun k hk w _=>?_
 have h3:=run_build (P:=Tryz.prog) w 59 #[(0,Z a)] ([Z a,bV.v,.int .i64 0,aB.v,.slice none 0 0]:List Value).toArray Y636
 simp[execOp,Act.eval,Sem.run_bind,h3]
theorem JC.known{P:Program}{n:Nat}{w0:World}{S:List Nat}{Q:Exit->Act->World->Prop}{E:Env}{M:List aL}{F:Prop}{c:Code}(h:∀ w,aa w0 S M w->F)(k:F->JC P n w0 S Q c E M):JC P n w0 S Q c E M:=⟨fun a w ha hw=>(k (h w hw)).go a w ha hw⟩
theorem JL.known{P:Program}{n:Nat}{w0:World}{S:List Nat}{ops:Array Oper}{Q:Exit->Act->World->Prop}{l:List Oper}{E:Env}{M:List aL}{F:Prop}(h:∀ w,aa w0 S M w->F)(k:F->JL P n w0 S ops Q l E M):JL P n w0 S ops Q l E M:=⟨fun a w ha hw=>(k (h w hw)).go a w ha hw⟩
theorem Gz.first{A:List (List Bt)}(y:Gz A)(h:A≠[])(hs:∀ a,y.z.ad=some a->a.spot=none):∃ b off cap X,y.z.v=.slice (some ⟨b,off,none⟩) A.length cap/\y.z.an=[⟨b,X,true⟩]/\∀ o,X o->cellAt o (off+0)=some (Z (A.getD 0 [])):=by
 obtain⟨⟨ad,cap,l⟩,h1,h2⟩:=y
 dsimp only at h1 h2
 subst h1
 cases ad with
 | none=>exact absurd (h2 rfl) h
 | some a=>
   obtain⟨b,j,sp⟩:=a
   cases sp with
   | none=>
     refine⟨b,j,cap,_,rfl,rfl,fun o hX=>?_⟩
     obtain⟨⟨c,e,fr,rfl,hc⟩,_⟩:=hX
     have hp:0<l.length:=List.length_pos_iff.2 h
     have:=hc 0 (by show 0<(l.map Z).length;rw[List.length_map];exact hp)
     show c[j+0]?=_
     rw[this]
     exact dF Z [] hp
   | some s=>cases hs _ rfl
end
section
open Sl aq
theorem NR{w0 w:World}{M:List aL}{S:List Nat}(h:aa w0 S M w):aa w0 S aB.an w:=h.weak (.nil _)
theorem NS{c:aq.By}(h:fB c=true):c.toNat<128:=by
 rw[Fz] at h
 simp only[Bool.or_eq_true,Bool.and_eq_true,decide_eq_true_eq] at h
 rcases h with⟨_,h⟩|h
 · omega
 · subst h;decide
theorem HK(n v:List aq.By)(w:World)(hn:n.length<9223372036854775808)(hv:v.length<9223372036854775808):Calls Tryz.prog 61 [.agg (pc (n,v)).toArray].toArray w fun e w'=>
  ∃ x:{ x:ay // iP x (sP n v) },e=.returned (.tuple #[x.1.v,N (codeF n v)])/\aa w [] x.1.an w':=by
 refine enter (n:=59) Tryz.func61 rfl rfl rfl (aa.start w []) ?_
 refine JC.seq (JC.region (JL.box (r:=pc (n,v)) rfl rfl rfl fun b1 _=>?_))
 have cN:=fun w'=>xZ n w' hn
 have cV:=fun w'=>vp v w'
 cases h1:c8 n <;> cases h2:fC v
 all_goals (repeat(first|refine JL.q (by first|exact Y392|exact Y393|(apply OQ.dB (vs:=[Z n]);exact oU;rfl;exact cN;exact h1)|(apply OQ.dB (vs:=[Z v]);exact BJ;rfl;exact cV;exact h2)|exact Y329|exact Y330|exact Y331|exact Y323|exact Y324|exact Y377) rfl ?_|refine JC.seq ?_|refine JC.region ?_|refine JL.nil ?_|refine JE.next ?_|refine JL.bG rfl rfl ?_|refine JL.aM rfl rfl rfl rfl ?_))
 all_goals refine JC.cond rfl (fun h=>?_) (fun h=>?_)
 all_goals first|(exfalso;revert h;decide)|skip
 all_goals clear h
 all_goals first
  | (have hg:mG n v=false:=by rw[mG,h1,h2];rfl
     have hx:iP aB (sP n v):=⟨by rw[sP,hg];rfl,fun _=>rfl⟩
     have hc:codeF n v=3:=by rw[codeF,hg];rfl
     (refine Y3 ?_)
     refine Y247 ?_
     (repeat(refine JE.ag ?_))
     refine JE.aV rfl (RV.tmp rfl) (RV.tmp rfl) fun w' hw=>⟨⟨aB,hx⟩,?_,NR hw⟩
     rw[hc]
     rfl)
  | skip
 have hg:mG n v=true:=by rw[mG,h1,h2];rfl
 have hc:codeF n v=0:=by rw[codeF,hg];rfl
 have hR:sP n v=ek n v:=by rw[sP,hg];rfl
 have l1:=rM h1
 have l2:=vt h2
 have hsok:v.all fB=true:=(hU h2).1
 rw[hc,hR]
 clear cN cV hg hc hR
 repeat(first|refine JL.q (by first|exact Y393|(apply OQ.fH (l:=n) (r:=[58]);rfl;rfl;exact Y705)|(apply OQ.fH (l:=n++[58]) (r:=[32]);rfl;rfl;exact Y611)) rfl ?_|refine Y145 ?_)
 refine JL.SN (r:=n++[58]++[32]) Tryz.underlying9 rfl Tryz.underlying22 Tryz.underlying5 rfl rfl fun b cap _=>?_
 repeat(first|refine JL.q (by first|(apply OQ.load;exact bS;rfl;exact(.there .here);exact(Row.cell (v:=Z v) rfl))|exact Y323|exact Y324|exact Y378|exact Y377) rfl ?_|refine JC.seq ?_|refine JC.region ?_|refine JC.block ?_|refine JL.nil ?_|refine JE.next ?_)
 have hB0:(n++[58]++[32]).length=n.length+2:=by simp
 have e0:(st n v 0).1=n++[58]++[32]:=by simp[st]
 have hsl:=vq n v
 refine JC.loop (fun q:Nat × Nat × Nat=>[(4,Z (n++[58]++[32])),(5,.slice (some ⟨q.2.1,0,none⟩) (st n v q.1).1.length q.2.2),(6,N (st n v q.1).2),(7,Z (v.drop q.1))])
  (fun q=>[⟨q.2.1,dM 5 (st n v q.1).1.length q.2.2 ((st n v q.1).1.map U8),true⟩]) (fun q=>v.length-q.1) (fun q=>q.1<=v.length/\(q.1=0\/q.1=v.length\/tn v q.1=true)) (0,b,cap) ⟨Nat.zero_le _,.inl rfl⟩ ?_ (.keep _ _ _ _ _ _ ?_ (.nil _)) ?_
 · show af _ [(4,Z (n++[58]++[32])),(5,.slice (some ⟨b,0,none⟩) (st n v 0).1.length cap),(6,N (n.length+2)),(7,Z v)]
   rw[e0,<- hB0]
   exact Y269
 · intro o h
   show dM _ (st n v 0).1.length _ ((st n v 0).1.map U8) o
   rw[e0]
   exact h
 clear hB0 e0
 rintro⟨i,b,cap⟩ ⟨hi,hat⟩
 simp only at hi hat
 dsimp only
 obtain⟨hl1,hl2⟩:=hsl i
 have hlow:=JS n v i
 by_cases hend:i=v.length
 · have hd:decide (v.drop i=[])=true:=decide_eq_true (by rw[hend];simp)
   repeat(first|refine JL.q Y706 rfl ?_|refine Y36 ?_)
   refine Y245 ?_
   subst hend
   clear hd hat hi
   refine Y59 ?_
   refine JL.iH (v:=Z [13,10]) (m:=2) (xs:=(st n v v.length).1.map U8) (news:=([13,10]:List Bt).map U8) (fun b' cap'=>[⟨b',dM 5 ((st n v v.length).1.length+2) cap' ((st n v v.length).1.map U8++([13,10]:List Bt).map U8),true⟩]) Tryz.underlying22 dV rfl rfl (fun _ _=>jC Tryz.underlying9) Y642 Y609 rfl fun b' cap'=>?_
   refine Y39 ?_
   refine Y247 ?_
   skip
   refine Y265 ?_
   intro w' hw
   refine⟨⟨⟨some ⟨b',0,none⟩,cap',ek n v⟩,⟨rfl,by simp⟩⟩,?_,hw.weak ?_⟩
   · show _=Ending.returned (.tuple #[Value.slice _ (ek n v).length _,N 0])
     rw[ek,List.length_append];rfl
   · have hl:(ek n v).length=(st n v v.length).1.length+2:=by rw[ek,List.length_append];rfl
     have:=x7 (e:=5) (b:=b') (cap:=cap') hl
     rw[ek,List.map_append] at this
     exact this
 have hi':i<v.length:=by omega
 have hat':i=0\/tn v i=true:=by
  rcases hat with h|h|h
  · exact .inl h
  · exact absurd h hend
  · exact .inr h
 clear hat hi
 have hd:decide (v.drop i=[])=false:=decide_eq_false (by
  intro h
  have:=congrArg List.length h
  rw[List.length_drop,List.length_nil] at this
  omega)
 have hps:=Dp hi'
 have hse:=yZ v (i+1) hi'
 have hsl2:=aq.pM v (i+1)
 have hpc:=JP n v hi'
 have htn:scan v (i+1)=v.length\/tn v (scan v (i+1))=true:=by
  by_cases h:scan v (i+1)=v.length
  · exact .inl h
  · exact .inr (EW v (i+1) hi' Y609)
 have cP:=fun w'=>DF (v.drop i) w' Y632 (fun c hc=>NS (List.all_eq_true.1 hsok c (List.mem_of_mem_drop hc)))
 have hdl:(v.drop i).length=v.length-i:=List.length_drop
 generalize hsz:m8 (v.drop i)=sz at hps cP
 have hszl:sz<=(v.drop i).length:=by omega
 rw[<- hps] at hse hsl2 hpc htn
 have hpart:(v.take (i+sz)).drop i=(v.drop i).take sz:=by
  rw[List.drop_take,Nat.add_sub_cancel_left]
 rw[hpart,Nat.add_sub_cancel_left] at hpc
 have hbA:Dq n v i=(decide ((76:Int)<(((st n v i).2+sz:Nat):Int))&&decide (((n++[58]++[32]).length:Int)<((st n v i).1.length:Int))):=by
  unfold Dq
  rw[show scan v (i+1)-i=sz by rw[<- hps];omega,Bool.and_comm]
  congr 1
  · exact Y255
  · rw[Bool.eq_iff_iff,decide_eq_true_eq]
    have hB0:(n++[58]++[32]).length=n.length+2:=by simp
    rw[hB0]
    constructor
    · intro h
      have:0<i:=by
       rw[tn,Bool.and_eq_true,decide_eq_true_eq] at h
       exact h.1
      omega
    · intro h
      rcases hat' with h0|h0
      · subst h0
        simp only[st,List.length_append,List.length_cons,List.length_nil] at h
        omega
      · exact h0
 clear hat'
 generalize Dq n v i=B at hpc hbA
 have hdrop:(v.drop i).drop sz=v.drop (i+sz):=by rw[List.drop_drop]
 generalize hO:(st n v i).1=O at hl1 hlow hpc hbA⊢
 generalize hL:(st n v i).2=L at hl2 hpc hbA⊢
 generalize hD:v.drop i=D at hd hdrop hpc cP hdl hszl⊢
 have hB0:(n++[58]++[32]).length=n.length+2:=by simp
 generalize n++[58]++[32]=begins at hbA hB0⊢
 repeat(first|refine JL.q Y706 rfl ?_|refine Y36 ?_)
 refine Y246 ?_
 cases g1:decide ((76:Int)<((L+sz:Nat):Int)) <;> cases g2:decide ((begins.length:Int)<(O.length:Int))
 all_goals rw[g1,g2] at hbA
 all_goals (repeat(first|refine JL.q (by first|(apply OQ.ai (vs:=[Z D]);exact BH;rfl;exact(fun w' _=>cP w'))|(apply OQ.cZ (b:=76);rfl;rfl;exact g1)|exact Y322|exact Y406|(apply OQ.cZ;rfl;rfl;exact g2)|exact Y330|exact Y331|exact Y323|exact Y324|exact Y337) rfl ?_|refine JC.seq ?_|refine JC.region ?_|refine JC.block ?_|refine JC.skip ?_|refine JL.nil ?_|refine JE.next ?_|refine JL.bG rfl rfl ?_|refine JL.aM rfl rfl rfl rfl ?_))
 all_goals (
  refine JC.join (ι:=Nat × Nat) (fun q=>[(4,Z begins),(5,.slice (some ⟨q.1,0,none⟩) (O++if B then [13,10] else []).length q.2),(6,N (if B then 0 else L)),(7,Z D),(8,N sz)]) (fun q=>[⟨q.1,dM 5 (O++if B then [13,10] else []).length q.2 ((O++if B then [13,10] else []).map U8),true⟩]) (fun _=>True) ?_ ?_
  · refine JC.cond rfl (fun h=>?_) (fun h=>?_)
    all_goals first|(exfalso;revert h;decide)|skip
    all_goals clear h
    all_goals first
     | (have hB:B=false:=hbA
        subst hB
        (repeat(refine JC.skip ?_))
        refine JE.mid (b,cap) trivial ?_ ?_
        · simp only[Bool.false_eq_true,if_false,List.append_nil]
          exact Y269
        · simp only[Bool.false_eq_true,if_false,List.append_nil]
          exact aj.refl _)
     | (have hB:B=true:=hbA
        subst hB
        (refine Y17 ?_)
        refine JL.iH (v:=Z [13,10]) (m:=2) (xs:=O.map U8) (news:=([13,10]:List Bt).map U8) (fun b' cap'=>[⟨b',dM 5 (O.length+2) cap' (O.map U8++([13,10]:List Bt).map U8),true⟩]) Tryz.underlying22 dV rfl rfl (fun _ _=>jC Tryz.underlying9) Y642 Y609 rfl fun b' cap'=>?_
        (refine Y122 ?_)
        refine JE.mid (b',cap') trivial ?_ ?_
        · simp only[if_true,List.length_append]
          exact Y269
        · simp only[if_true,List.length_append,List.map_append]
          exact aj.refl _)
  · rintro⟨b2,cap2⟩ _
    dsimp only
    have hX:(O++if B then [13,10] else []).length<=n.length+4+3*i:=by
     rw[List.length_append]
     have:(if B then([13,10]:List aq.By) else []).length<=2:=by cases B <;> simp
     omega
    have hW:(if B then 0 else L)<=L:=by cases B <;> simp
    generalize (O++if B then [13,10] else [])=X at hX hpc⊢
    generalize (if B then 0 else L)=W at hW hpc⊢
    (repeat(first|refine JL.q (by(apply OQ.gu;exact Tryz.underlying9;rfl;rfl;exact hszl)) rfl ?_|refine Y88 ?_))
    have hDl:(D.take sz).length=sz:=by rw[List.length_take];omega
    refine JL.iH (v:=Z (D.take sz)) (m:=(D.take sz).length) (xs:=X.map U8) (news:=(D.take sz).map U8) (fun b' cap'=>[⟨b',dM 5 (X.length+(D.take sz).length) cap' (X.map U8++(D.take sz).map U8),true⟩]) Tryz.underlying22 dV rfl rfl (fun _ _=>jC Tryz.underlying9) Y642 Y609 rfl fun b' cap'=>?_
    (repeat(first|refine JL.q (by first|(apply OQ.eV;exact Tryz.underlying9;rfl;rfl;exact hszl)|exact Y323|exact Y324|exact Y337) rfl ?_|refine JC.seq ?_|refine JC.region ?_|refine JL.nil ?_|refine JE.next ?_|refine JE.ah ?_))
    refine JE.again (i:=(i,b,cap)) (i+sz,b',cap') ⟨hsl2,?_⟩ (by show v.length-(i+sz)<v.length-i;omega) ?_ ?_
    · exact .inr htn
    · dsimp only
      rw[hpc]
      dsimp only
      rw[List.length_append,<- hdrop]
      exact Y269
    · dsimp only
      rw[hpc]
      dsimp only
      rw[List.length_append,List.map_append]
      exact aj.refl _)
theorem gP:aJ Tryz.prog 71:=⟨_,Tryz.func71,rfl,by kernel_rfl⟩
theorem wh:aJ Tryz.prog 70:=⟨_,Tryz.func70,rfl,by kernel_rfl⟩
theorem KZ:aJ Tryz.prog 115:=⟨_,Tryz.func115,rfl,by kernel_rfl⟩
def jl(s:ay):ay:=js 13 (s.fst (fi 10 s.l))
def nA(s:ay):ay:=s.snd (fi 10 s.l+1)
theorem B8{s:ay}{w:World}(h:s.ok w):(jl s).ok w:=Hz (h.fst _)
theorem nB{s:ay}{w:World}(h:s.ok w)(hl:fi 10 s.l<s.l.length):(nA s).ok w:=h.snd _ hl
theorem K0(l:List aq.By):l.take (fi 10 l)=bf l:=by
 obtain⟨t,ht⟩:=List.takeWhile_prefix (· != (10:aq.By)) (l:=l)
 show l.take (bf l).length=bf l
 have ht:bf l++t=l:=ht
 conv=>lhs;rw[<- ht]
 rw[K1 ht]
 exact List.take_left' rfl
where
 K1 {l t:List aq.By} (h:bf l++t=l):(bf (bf l++t)).length=(bf l).length:=by rw[h]
theorem F4(s:ay):(jl s).l=oF (bf s.l):=by
 have e:(s.fst (fi 10 s.l)).l=bf s.l:=K0 s.l
 unfold jl js oF
 rw[e]
 by_cases h:(bf s.l).getLast?=some 13
 · rw[if_pos h,if_pos h]
   show(s.fst (fi 10 s.l)).l.take _=_
   rw[e,List.dropLast_eq_take]
 · rw[if_neg h,if_neg h,e]
theorem oh{s:ay}(h:fi 10 s.l<s.l.length):cut s.l=some ((jl s).l,(nA s).l):=by
 have h':(bf s.l).length<s.l.length:=h
 rw[F4]
 exact if_pos h'
theorem om{s:ay}(h:¬ fi 10 s.l<s.l.length):cut s.l=none:=if_neg h
theorem oo(s:ay):(nA s).l.length=s.l.length-(fi 10 s.l+1):=List.length_drop
theorem yz(s:ay):(jl s).l.length<=fi 10 s.l:=by
 rw[F4]
 unfold oF
 split
 · rw[List.length_dropLast]
   show(bf s.l).length-1<=(bf s.l).length
   omega
 · exact Nat.le_refl _
def yA(s:ay):Value:=if fi 10 s.l<s.l.length then .tuple #[(jl s).v,(nA s).v,.bool true] else .tuple #[aB.v,aB.v,.bool false]
theorem qD(s:ay)(w:World)(hs:s.ok w)(hl:s.l.length<=100000):Calls Tryz.prog 71 [s.v].toArray w fun e w'=>e=.returned (yA s)/\Ext w w':=by
 refine enter (n:=18) Tryz.func71 rfl rfl rfl (aa.start w []) ?_
 refine Y24 ?_
 refine JL.q9 (v:=U8 10) Tryz.underlying22 dV rfl rfl rfl rfl fun bl _=>?_
 have hq:=fun w' (hw':aa w [] [⟨bl,Row 5 [U8 10],true⟩] w')=>KA s bl 1 10 w' Y609 (hs.holds hw' rfl) (zA (l:=[10]) hw' .here rfl (Nat.le_refl _))
 have hfi:=uS 10 s.l
 unfold Nx at hq
 unfold yA
 by_cases h:fi 10 s.l<s.l.length
 · simp only[h,if_true] at hq⊢
   repeat(first|refine JL.q (by exact Y457) rfl ?_|refine Y109 ?_)
   refine Y245 ?_
   refine Y94 ?_
   refine JL.q9 (v:=U8 13) Tryz.underlying22 dV rfl rfl rfl rfl fun Ra _=>?_
   repeat(first|refine JL.q (by first|(apply OQ.ai (vs:=[(s.fst (fi 10 s.l)).v,.slice (some ⟨Ra,0,none⟩) 1 1]);exact sS;rfl;exact(fun w' hw'=>vE (s.fst (fi 10 s.l)) Ra 1 13 w' (by show(s.l.take _).length<=_;rw[List.length_take];omega) ((hs.holds hw' rfl).fst _) (zA (l:=[13]) hw' .here rfl (Nat.le_refl _))))|exact Y323|exact Y324) rfl ?_|refine JL.nil ?_|refine JE.next ?_)
   refine Y247 ?_
   skip
   exact Y251
 · simp only[h,if_false] at hq⊢
   repeat(first|refine JL.q (by exact Y457) rfl ?_|refine Y109 ?_)
   refine Y246 ?_
   refine Y3 ?_
   refine Y247 ?_
   refine Y250 ?_
   exact Y251
theorem HL(s:ay)(w:World)(hs:s.ok w)(hl:s.l.length<=100000):Calls Tryz.prog 70 [s.v].toArray w fun e w'=>e=.returned (.bool (Be s.l))/\Ext w w':=by
 refine enter (n:=23) Tryz.func70 rfl rfl rfl (aa.start w []) ?_
 have hcap:=hs.len
 unfold Be
 cases g:decide ((s.l.length:Int)<=65536)
 case true=>
  have:decide (65536<s.l.length)=false:=decide_eq_false (by have:=of_decide_eq_true g;omega)
  rw[this,Bool.false_and]
  repeat(first|refine JL.q Y707 rfl ?_|refine Y103 ?_)
  refine Y246 ?_
  refine Y3 ?_
  refine Y247 ?_
  refine Y250 ?_
  exact Y248
 have hlt:65536<=s.l.length:=by have:=of_decide_eq_false g;omega
 have:decide (65536<s.l.length)=true:=decide_eq_true (by have:=of_decide_eq_false g;omega)
 rw[this,Bool.true_and]
 repeat(first|refine JL.q Y707 rfl ?_|refine Y103 ?_)
 refine Y245 ?_
 repeat(first|refine JL.q (by(apply OQ.fst (s:=s) (m:=65536);exact Tryz.underlying22;exact dD;rfl;rfl;exact hlt;exact hcap)) rfl ?_|refine Y93 ?_)
 refine JC.loop (fun x:ay=>[(0,x.v)]) (fun _=>[]) (fun x=>x.l.length) (fun x=>x.ok w/\x.l.length<=100000/\(hend (s.l.take 65536)).isNone=(hend x.l).isNone) (s.fst 65536) ⟨hs.fst _,by show(s.l.take _).length<=_;rw[List.length_take];omega,rfl⟩ Y640 (aj.refl _) ?_
 rintro x ⟨hx,hxl,he⟩
 rw[he]
 have hq:=fun w' (hw':aa w [] [] w')=>qD x w' (hx.holds hw' rfl) hxl
 unfold yA at hq
 by_cases h:fi 10 x.l<x.l.length
 · simp only[h,if_true] at hq
   have hc:=oh h
   have hro:=nB hx h
   have hrl:=oo x
   repeat(first|refine JL.q Y708 rfl ?_|refine Y146 ?_)
   refine Y245 ?_
   cases hz:decide (((jl x).l.length:Int)=0)
   · have hne:(jl x).l≠[]:=fun k=>by
      have:=of_decide_eq_false hz
      rw[k] at this
      exact this rfl
     repeat(first|refine JL.q (by(apply OQ.ep (b:=0);rfl;rfl;exact hz)) rfl ?_|refine Y147 ?_)
     refine Y245 ?_
     repeat refine Y45 ?_
     refine JE.again (i:=x) (nA x) ⟨hro,by omega,?_⟩ Y609 Y640 (aj.refl _)
     rw[nQ hc hne]
     cases hend (nA x).l <;> rfl
   · have hne:(jl x).l=[]:=List.eq_nil_of_length_eq_zero (by have:=of_decide_eq_true hz;omega)
     rw[hne] at hc
     rw[mU hc]
     repeat(first|refine JL.q (by(apply OQ.ep (b:=0);rfl;rfl;exact hz)) rfl ?_|refine Y147 ?_)
     refine Y246 ?_
     refine Y3 ?_
     refine Y247 ?_
     refine Y2 ?_
     exact Y248
 · simp only[h,if_false] at hq
   rw[kX (om h)]
   repeat(first|refine JL.q Y708 rfl ?_|refine Y146 ?_)
   refine Y246 ?_
   refine Y3 ?_
   refine Y247 ?_
   refine Y2 ?_
   exact Y248
def SS(o:Option (List aq.By × List aq.By))(y:ay):Value:=match o with
 | some p=>.tuple #[Z p.1,y.v,.bool true]
 | none=>.tuple #[Z [],aB.v,.bool false]
structure GS where
 x:ay
 a:List aq.By
 q:Acc
theorem NT(s:ay)(w:World)(hs:s.ok w)(hl:s.l.length<=100000):Calls Tryz.prog 115 [s.v].toArray w fun e w'=>∃ y:{ y:ay // (∀ w1,s.ok w1->y.ok w1)/\∀ p,gR s.l=some p->y.l=p.2 },e=.returned (SS (gR s.l) y.1)/\Ext w w':=by
 refine enter (n:=33) Tryz.func115 rfl rfl rfl (aa.start w []) ?_
 refine Y7 ?_
 refine JC.loop (fun g:GS=>[(0,g.x.v),(5,aD g.q g.a.length)]) (fun g=>bw 5 g.q (g.a.map U8)++[]) (fun g=>g.x.l.length) (fun g=>(∀ w1,s.ok w1->g.x.ok w1)/\g.a.length+g.x.l.length<=100000/\(g.q=none->g.a=[])/\gR s.l=(gR g.x.l).map fun p=>(g.a++p.1,p.2)) ⟨s,[],none⟩ ⟨fun _ h=>h,by simpa using hl,fun _=>rfl,by cases gR s.l <;> rfl⟩ Y640 (aj.refl _) ?_
 rintro⟨x,A,q⟩ ⟨hxa,hxl,hq0,hcs⟩
 dsimp only at hxa hxl hq0 hcs⊢
 have hx:=hxa w hs
 rw[hcs]
 have hcap:=hx.len
 cases g1:decide ((0:Int)<(x.l.length:Int))
 case false=>
  have hx0:x.l=[]:=List.eq_nil_of_length_eq_zero (by have:=of_decide_eq_false g1;omega)
  rw[mT (.inl hx0)] at hcs⊢
  repeat(first|refine JL.q (by exact Y459) rfl ?_|refine JL.aM rfl rfl rfl rfl ?_|refine Y120 ?_)
  refine Y245 ?_
  repeat(first|refine JL.q (by exact Y460) rfl ?_|refine Y19 ?_)
  refine Y247 ?_
  skip
  refine JE.eJ rfl (RV.tmp rfl) (RV.tmp rfl) (RV.tmp rfl) fun w' hw=>⟨⟨x,hxa,fun p hp=>?_⟩,?_,hw.aH⟩
  · have hp:some (A++[],x.l)=some p:=hp
    cases hp
    rfl
  · show _=Ending.returned (.tuple #[Z (A++[]),x.v,.bool true])
    rw[List.append_nil]
 have hpos:0<x.l.length:=by have:=of_decide_eq_true g1;omega
 obtain⟨bx,jx,eX,cX⟩:=hx.reads.at (by simpa using hpos)
 have cx:=cX 0 _ (dF U8 0 hpos)
 have vx:x.v=.slice (some ⟨bx,jx,none⟩) x.l.length x.cap:=by rw[<- eX];rfl
 have hi0:=fun {n:Nat} {E:Env} {C:World->Prop} {dst:Option Tmp} {ty:TypeId} {pos:String} {aft:Array Edge} {g:Option (Nat × Bool)} {a b:Operand} (ha:ev E a=some x.v) (hb:ev E b=some (N 0))=>OQ.dz (P:=Tryz.prog) (n:=n) (E:=E) (C:=C) (dst:=dst) (ty:=ty) (pos:=pos) (aft:=aft) (g:=g) (x:=a) (y:=b) (i:=0) Tryz.underlying22 dD (vx▸ha) hb hpos
 have cB:=fun w'=>DE (x.l.getD 0 0) w'
 cases g2:bl (x.l.getD 0 0)
 case false=>
  rw[mT (.inr g2)] at hcs⊢
  repeat(first|refine JL.q Y709 rfl ?_|refine JL.bG rfl rfl ?_|refine Y148 ?_)
  refine Y245 ?_
  repeat(first|refine JL.q (by exact Y460) rfl ?_|refine Y19 ?_)
  refine Y247 ?_
  skip
  refine JE.eJ rfl (RV.tmp rfl) (RV.tmp rfl) (RV.tmp rfl) fun w' hw=>⟨⟨x,hxa,fun p hp=>?_⟩,?_,hw.aH⟩
  · have hp:some (A++[],x.l)=some p:=hp
    cases hp
    rfl
  · show _=Ending.returned (.tuple #[Z (A++[]),x.v,.bool true])
    rw[List.append_nil]
 have hb2:bl (x.l.getD 0 0)=true/\x.l≠[]:=⟨g2,fun k=>by rw[k] at hpos;exact absurd hpos Y610⟩
 repeat(first|refine JL.q Y709 rfl ?_|refine JL.bG rfl rfl ?_|refine Y148 ?_)
 refine Y246 ?_
 have hq:=fun w' (hw':aa w [] (bw 5 q (A.map U8)++[]) w')=>qD x w' (hx.holds hw' rfl) Y609
 unfold yA at hq
 by_cases h:fi 10 x.l<x.l.length
 · simp only[h,if_true] at hq
   have hc:=oh h
   have hro:=nB hx h
   have hrl:=oo x
   have hll:=yz x
   have hlo:=B8 hx
   rw[lS hb2 hc] at hcs
   repeat(first|refine JL.q Y708 rfl ?_|refine Y149 ?_)
   refine Y245 ?_
   refine Y94 ?_
   refine JL.je (cs:=(jl x).l.map U8) (m:=(jl x).l.length) (ad:=(jl x).ad) (sc:=(jl x).cap) q Tryz.underlying22 dV (fun h=>by rw[hq0 h];rfl) Y648 rfl Y684 (fun w' hw'=>(hlo.holds hw' rfl).reads) (sG _) rfl Y649 Y649 rfl fun q3 hq3=>?_
   rw[<- List.map_append]
   refine Y150 ?_
   refine JE.again (i:=GS.mk x A q) (GS.mk (nA x) (A++(jl x).l) q3) ⟨fun w1 h1=>nB (hxa w1 h1) h,?_,?_,?_⟩ Y661 ?_ (aj.refl _)
   · dsimp only
     rw[List.length_append]
     omega
   · intro h
     have:=hq3 h
     rw[<- List.map_append] at this
     simpa using this
   · dsimp only
     rw[lS hb2 hc]
     cases gR (nA x).l with
     | none=>rfl
     | some p=>simp
   · dsimp only
     rw[List.length_map]
     exact Y269
 · simp only[h,if_false] at hq
   rw[ur hb2 (om h)] at hcs⊢
   repeat(first|refine JL.q Y708 rfl ?_|refine Y149 ?_)
   refine Y246 ?_
   refine Y3 ?_
   refine Y247 ?_
   refine Y2 ?_
   refine JE.eJ rfl (RV.tmp rfl) (RV.tmp rfl) (RV.tmp rfl) fun w' hw=>⟨⟨aB,fun w1 _=>dN w1,fun p hp=>?_⟩,rfl,hw.aH⟩
   cases hp
theorem K2:aJ Tryz.prog 73:=⟨_,Tryz.func73,rfl,by kernel_rfl⟩
theorem D6:zc Tryz.prog 65=some [Z [],Z []]:=by kernel_rfl
section
variable {n:Nat} {E:Env} {C:World->Prop} {dst:Option Tmp} {ty:TypeId} {pos:String} {aft:Array Edge} {g:Option (Nat × Bool)} {x y:Operand}
theorem OQ.mo:OQ Tryz.prog n E C ⟨dst,.build 65 #[],ty,pos,aft,g⟩ (.agg (pc ([],[])).toArray):=OQ.pure rfl rfl Y636
end
def SU(o:Except Nat (Pr × List aq.By))(y:ay):Value:=match o with
 | .ok p=>.tuple #[.agg (pc p.1).toArray,y.v,N 0]
 | .error e=>.tuple #[.agg (pc ([],[])).toArray,aB.v,N e]
theorem NU(s:ay)(k:Nat)(w:World)(hs:s.ok w)(hl:s.l.length<=100000):Calls Tryz.prog 73 [s.v,N k].toArray w fun e w'=>∃ y:{ y:ay // (∀ w1,s.ok w1->y.ok w1)/\∀ p,rf k s.l=.ok p->y.l=p.2 },e=.returned (SU (rf k s.l) y.1)/\Ext w w':=by
 refine enter (n:=65) Tryz.func73 rfl rfl rfl (aa.start w []) ?_
 refine Y83 ?_
 refine JL.alloc D6 rfl fun b4 _=>?_
 refine Y24 ?_
 have hq:=fun w' (hw':aa w [] [⟨b4,Row 65 [Z [],Z []],true⟩] w')=>qD s w' (hs.holds hw' rfl) hl
 unfold yA at hq
 by_cases h:fi 10 s.l<s.l.length
 case neg=>
  simp only[h,if_false] at hq
  have hR:rf k s.l=.error 3:=by unfold rf;rw[om h]
  rw[hR]
  repeat(first|refine JL.q Y710 rfl ?_|refine Y109 ?_)
  refine Y246 ?_
  refine Y151 ?_
  refine Y283 ?_
  refine Y39 ?_
  refine Y247 ?_
  refine Y250 ?_
  exact Y284
 simp only[h,if_true] at hq
 have hc:=oh h
 have hro:=fun w1 h1=>nB (s:=s) (w:=w1) h1 h
 have hlo:=fun w1 h1=>B8 (s:=s) (w:=w1) h1
 have hrl:=oo s
 have hll:=yz s
 have hR:rf k s.l=Rb k (jl s).l (nA s).l:=by unfold rf;rw[hc]
 rw[hR]
 unfold Rb
 clear hR
 generalize jl s=L at hq hc hlo hll⊢
 generalize nA s=T at hq hc hro hrl⊢
 repeat(first|refine JL.q Y710 rfl ?_|refine Y109 ?_)
 refine Y245 ?_
 clear hq
 have cK:=fun w'=>qc L.l 58 w' Y609
 unfold zG at cK
 by_cases h58:fi 58 L.l<L.l.length
 case neg=>
  simp only[h58,if_false] at cK
  have h1:fi 58 L.l=L.l.length:=by
   have:=uS 58 L.l
   omega
  rw[if_pos (Or.inl h1)]
  repeat(first|refine JL.q (by first|exact Y463|exact Y464|exact Y426|exact Y329|exact Y330|exact Y323|exact Y324) rfl ?_|refine JC.seq ?_|refine JC.region ?_|refine JC.skip ?_|refine JL.nil ?_|refine JE.next ?_|refine JL.aM rfl rfl rfl rfl ?_)
  refine Y246 ?_
  refine Y151 ?_
  refine Y283 ?_
  refine Y39 ?_
  refine Y247 ?_
  refine Y250 ?_
  exact Y284
 simp only[h58,if_true] at cK
 have hne:¬ fi 58 L.l=L.l.length:=fun e=>by omega
 have hnl:(L.l.take (fi 58 L.l)).length<9223372036854775808:=by rw[List.length_take];omega
 have hfl:(L.l.drop (fi 58 L.l+1)).length<=L.l.length:=by rw[List.length_drop];omega
 generalize L.l.drop (fi 58 L.l+1)=F at cK hfl⊢
 generalize L.l.take (fi 58 L.l)=nm at cK hnl⊢
 have cN:=fun w'=>xZ nm w' hnl
 cases h2:c8 nm
 case false=>
  rw[if_pos (Or.inr Y610)]
  repeat(first|refine JL.q Y711 rfl ?_|refine JL.bG rfl rfl ?_|refine Y152 ?_)
  refine Y246 ?_
  refine Y151 ?_
  refine Y283 ?_
  refine Y39 ?_
  refine Y247 ?_
  refine Y250 ?_
  exact Y284
 rw[if_neg (by rintro(h|h);exact hne h;exact h rfl)]
 repeat(first|refine JL.q Y711 rfl ?_|refine JL.bG rfl rfl ?_|refine Y152 ?_)
 refine Y245 ?_
 clear cK cN
 cases h3:decide ((k:Int)=200)
 case true=>
  rw[if_pos Y712]
  repeat(first|refine JL.q Y713 rfl ?_|refine Y68 ?_)
  refine Y246 ?_
  refine Y151 ?_
  refine Y283 ?_
  refine Y39 ?_
  refine Y247 ?_
  refine Y250 ?_
  exact Y284
 rw[if_neg (by have:=of_decide_eq_false h3;omega)]
 repeat(first|refine JL.q Y713 rfl ?_|refine Y68 ?_)
 refine Y245 ?_
 refine Y94 ?_
 refine JL.call (ι:={ y:ay // (∀ w1,T.ok w1->y.ok w1)/\∀ p,gR T.l=some p->y.l=p.2 }) (vs:=[T.v]) (fun y=>SS (gR T.l) y.1) (fun _=>[⟨b4,Row 65 [Z [],Z []],true⟩]) KZ rfl rfl (fun w' hw'=>(NT T w' ((hro w hs).holds hw' rfl) Y609).mono fun e w2 ⟨y,k1,k2⟩=>⟨y,k1,hw'.ext k2⟩) ?_
 rintro⟨y,hy1,hy2⟩
 dsimp only
 have hcl:=rS T.l.length T.l (Nat.le_refl _)
 cases hv:gR T.l with
 | none=>
   dsimp only[SS]
   refine Y153 ?_
   refine Y246 ?_
   refine Y151 ?_
   refine Y283 ?_
   refine Y39 ?_
   refine Y247 ?_
   refine Y250 ?_
   exact Y284
 | some vr=>
   obtain⟨vs,r'⟩:=vr
   have hyl:=hy2 _ hv
   have hcl2:=(hcl _ hv).2
   dsimp only[SS] at hyl hcl2⊢
   have hvl:F.length+vs.length<9223372036854775808:=by omega
   have cT:=fun w'=>lE (F++vs) w' (by rw[List.length_append];exact hvl)
   have cV:=fun w'=>vp (trim (F++vs)) w'
   have hvt:=GM (F++vs)
   generalize trim (F++vs)=V at cT cV hvt⊢
   refine Y153 ?_
   refine Y245 ?_
   repeat(first|refine JL.q (by first|(apply OQ.fH;rfl;rfl;exact hvl)|(apply OQ.ai (vs:=[Z (F++vs),Z [32,9]]);exact ig;rfl;exact(fun w' _=>cT w'))) rfl ?_|refine Y57 ?_)
   cases h4:decide ((8192:Int)<(V.length:Int))
   case true=>
    rw[if_pos (by have:=of_decide_eq_true h4;omega)]
    repeat(first|refine JL.q Y714 rfl ?_|refine Y154 ?_)
    refine Y246 ?_
    refine Y151 ?_
    refine Y283 ?_
    refine Y39 ?_
    refine Y247 ?_
    refine Y250 ?_
    exact Y284
   rw[if_neg (by have:=of_decide_eq_false h4;omega)]
   repeat(first|refine JL.q Y714 rfl ?_|refine Y154 ?_)
   refine Y245 ?_
   rw[hvt (by have:=of_decide_eq_false h4;omega)] at cV
   cases h5:V.all fB
   case false=>
    rw[if_pos Y610]
    repeat(first|refine JL.q (by exact Y466) rfl ?_|refine Y155 ?_)
    refine Y246 ?_
    refine Y151 ?_
    refine Y283 ?_
    refine Y39 ?_
    refine Y247 ?_
    refine Y250 ?_
    exact Y284
   rw[if_neg Y610]
   repeat(first|refine JL.q (by exact Y466) rfl ?_|refine Y155 ?_)
   refine Y245 ?_
   repeat(first|refine JL.q (by first|(apply OQ.gU;rfl;rfl)|exact Y323) rfl ?_|refine JC.seq ?_|refine JC.region ?_|refine JC.skip ?_|refine JE.next ?_)
   refine JL.ax (cs:=pc (nm,V)) bX rfl rfl rfl rfl .here rfl ?_
   refine Y39 ?_
   refine Y247 ?_
   skip
   exact JE.eJ rfl (RV.aT gG bX rfl .here rfl Row.all) (RV.tmp rfl) (RV.tmp rfl) fun w' hw=>⟨⟨y,fun w1 h1=>hy1 w1 (hro w1 h1),fun p hp=>by cases hp;exact hyl⟩,rfl,hw.aH⟩
theorem OQ.Tv{P:Program}{n:Nat}{E:Env}{C:World->Prop}{dst:Option Tmp}{t ty e:TypeId}{pos:String}{aft:Array Edge}{g:Option (Nat × Bool)}{x:Operand}{q:Acc}{k:Nat}(hu:P.underlying t=some (.slice e))(hq:q=none->k=0)(hx:ev E x=some (aD q k)):OQ P n E C ⟨dst,.call ⟨.builtin .len,#[x],#[t]⟩,ty,pos,aft,g⟩ (N k):=by
 cases q with
 | none=>
   rw[hq rfl]
   rw[hq rfl] at hx
   exact OQ.len hu hx
 | some p=>exact OQ.len hu hx
theorem HM{A B:List aL}(h:aj A B):aj A (B++[]):=by rw[List.append_nil];exact h
structure RS where
 x:ay
 fs:List Pr
 q:Acc
theorem D7(s:ay)(w:World)(hs:s.ok w)(hl:s.l.length<=70000):Calls Tryz.prog 39 [s.v].toArray w fun e w'=>
  ∃ q:L9 (jQ s.l),e=.returned (.tuple #[q.f.v,q.s.v,N (nu (jQ s.l))])/\aa w [] (q.s.an++q.f.an) w':=by
 refine enter (n:=43) Tryz.func39 rfl rfl rfl (aa.start w []) ?_
 have cL:=fun w' (hw':aa w [] [] w')=>HL s w' (hs.holds hw' rfl) Y609
 have hlong:=MT s.l
 cases hB:Be s.l
 case true=>
  have hR:jQ s.l=.error 4:=by unfold jQ;rw[if_pos (hlong.2 hB)]
  rw[hR]
  rw[hB] at cL
  repeat(first|refine JL.q Y715 rfl ?_|refine Y0 ?_)
  refine Y246 ?_
  refine Y3 ?_
  refine Y247 ?_
  refine Y250 ?_
  exact JE.eJ rfl (RV.tmp rfl) (RV.tmp rfl) (RV.tmp rfl) fun w' hw=>⟨⟨bV,aB,rfl,rfl,fun _=>rfl,fun _=>rfl⟩,rfl,Sl.aa.weak hw (.nil _)⟩
 have hR:jQ s.l=rd 0 s.l:=by unfold jQ;rw[if_neg (fun h=>by rw[hlong.1 h] at hB;cases hB)]
 rw[hR]
 rw[hB] at cL
 repeat(first|refine JL.q Y715 rfl ?_|refine Y0 ?_)
 refine Y245 ?_
 clear cL hlong hB hR
 repeat(first|refine JC.block ?_|refine JC.skip ?_|refine JE.next ?_)
 refine JC.loop (fun g:RS=>[(0,g.x.v),(2,aD g.q g.fs.length)]) (fun g=>dr 65 g.q g.fs++[]) (fun g=>g.x.l.length) (fun g=>g.x.ok w/\g.x.l.length<=70000/\g.fs.length<=200/\(g.q=none->g.fs=[])/\rd 0 s.l=(rd g.fs.length g.x.l).map fun p=>(g.fs++p.1,p.2)) ⟨s,[],none⟩ ⟨hs,hl,Nat.zero_le _,fun _=>rfl,by show rd 0 s.l=(rd 0 s.l).map _;cases rd 0 s.l <;> rfl⟩ Y640 (aj.refl _) ?_
 rintro⟨x,fs,q⟩ ⟨hx,hxl,hfl,hq0,hrd⟩
 dsimp only at hx hxl hfl hq0 hrd⊢
 have hq00:q=none->fs.length=0:=fun h=>by rw[hq0 h];rfl
 refine JC.block ?_
 refine JC.Ti (ι:=Unit) (fun _=>[(0,x.v),(2,aD q fs.length)]) (fun _=>dr 65 q fs++[]) (fun _=>∀ r,cut x.l≠some ([],r)) ?_ ?_
 · have hq:=fun w' (hw':aa w [] (dr 65 q fs++[]) w')=>qD x w' (hx.holds hw' rfl) Y609
   unfold yA at hq
   by_cases h:fi 10 x.l<x.l.length
   · simp only[h,if_true] at hq
     have hc:=oh h
     have hro:=nB hx h
     have hrl:=oo x
     generalize jl x=L at hq hc
     generalize nA x=T at hq hc hro hrl
     cases h0:decide ((L.l.length:Int)=0)
     · repeat(first|refine JL.q (by first|exact Y458|exact Y429) rfl ?_|refine JL.bG rfl rfl ?_|refine Y156 ?_)
       refine Y245 ?_
       repeat(refine JC.skip ?_)
       refine JE.mid () (fun r hr=>?_) Y640 (aj.refl _)
       rw[hc] at hr
       have h1:L.l=[]:=(Prod.mk.inj (Option.some.inj hr)).1
       exact of_decide_eq_false h0 (by rw[h1];rfl)
     · have hL0:L.l=[]:=List.eq_nil_of_length_eq_zero Y683
       rw[hL0] at hc
       have hfin:rd fs.length x.l=.ok ([],T.l):=Jb hc
       rw[hfin] at hrd
       repeat(first|refine JL.q (by first|exact Y458|exact Y429) rfl ?_|refine JL.bG rfl rfl ?_|refine Y156 ?_)
       refine Y246 ?_
       refine Y61 ?_
       refine JL.bD (ι:={ q:Acc // q=none->T.l=[] }) (fun q=>aD q.1 T.l.length) (fun q=>bw 5 q.1 (T.l.map U8)) j5 rfl rfl (fun q=>kz _ _ _) (fun w' hw'=>(n9 T w' (hro.holds hw' rfl) Y609).mono fun e w2 ⟨q,h1,h2,h3⟩=>⟨⟨q,h2⟩,h1,h3⟩) ?_
       rintro⟨q2,hq2⟩
       dsimp only
       refine Y39 ?_
       refine Y247 ?_
       refine Y2 ?_
       refine JE.eJ rfl (RV.tmp rfl) (RV.tmp rfl) (RV.tmp rfl) fun w' hw=>⟨⟨ew q fs,eO q2 T.l,?_,?_,DW,HF⟩,?_,?_⟩
       · rw[hrd]
         show(ew q fs).l=fs++[]
         rw[Fu hq0,List.append_nil]
       · rw[hrd]
         exact mb hq2
       · show Ending.returned (.tuple #[aD q fs.length,aD q2 T.l.length,N 0])=Ending.returned (.tuple #[(ew q fs).v,(eO q2 T.l).v,N (nu (rd 0 s.l))])
         rw[hrd,kD,iV]
         rfl
       · exact Sl.aa.weak hw (gk HE (HM j8))
   · simp only[h,if_false] at hq
     have hc:=om h
     repeat(first|refine JL.q Y708 rfl ?_|refine JL.aM rfl rfl rfl rfl ?_|refine Y96 ?_)
     refine Y245 ?_
     repeat(refine JC.skip ?_)
     refine JE.mid () (fun r hr=>?_) Y640 (aj.refl _)
     rw[hc] at hr
     cases hr
 · rintro⟨⟩ hns
   rw[NB hns] at hrd
   repeat(first|refine JL.q (by(apply OQ.Tv;exact Tryz.underlying27;exact hq00;rfl)) rfl ?_|refine Y88 ?_)
   refine JL.call (ι:={ y:ay // (∀ w1,x.ok w1->y.ok w1)/\∀ p,rf fs.length x.l=.ok p->y.l=p.2 }) (vs:=[x.v,N fs.length]) (fun y=>SU (rf fs.length x.l) y.1) (fun _=>dr 65 q fs++[]) K2 rfl rfl (fun w' hw'=>(NU x fs.length w' (hx.holds hw' rfl) Y609).mono fun e w2 ⟨y,k1,k2⟩=>⟨y,k1,hw'.ext k2⟩) ?_
   rintro⟨y,hy1,hy2⟩
   dsimp only
   cases hf:rf fs.length x.l with
   | error e=>
     rw[hf] at hrd
     have he:=PV hf
     have hne:decide ((e:Int)=0)=false:=decide_eq_false Y609
     dsimp only[SU]
     refine Y285 ?_
     refine JL.alloc D6 rfl fun b8 _=>?_
     refine Y283 ?_
     repeat(first|refine JL.q (by exact Y467) rfl ?_|refine Y0 ?_)
     refine Y246 ?_
     refine Y24 ?_
     refine Y247 ?_
     refine Y2 ?_
     refine JE.eJ rfl (RV.tmp rfl) (RV.tmp rfl) (RV.tmp rfl) fun w' hw=>⟨⟨bV,aB,by rw[hrd];rfl,by rw[hrd];rfl,fun _=>rfl,fun _=>rfl⟩,?_,Sl.aa.weak hw (.nil _)⟩
     show Ending.returned (.tuple #[bV.v,aB.v,N e])=Ending.returned (.tuple #[bV.v,aB.v,N (nu (rd 0 s.l))])
     rw[hrd]
     rfl
   | ok pr=>
     obtain⟨p,r'⟩:=pr
     rw[hf] at hrd
     obtain⟨hlt,hk⟩:=R5 hf
     have hyl:=hy2 _ hf
     dsimp only[SU] at hyl hlt hrd⊢
     refine Y285 ?_
     refine JL.alloc D6 rfl fun b8 _=>?_
     refine JL.ax (cs:=pc p) bX rfl rfl rfl rfl .here rfl ?_
     repeat(first|refine JL.q (by(apply OQ.fh (a:=0) (b:=0);rfl;rfl;rfl)) rfl ?_|refine Y0 ?_)
     refine Y245 ?_
     repeat(first|refine JL.q (by(apply OQ.aF (cs:=pc p);exact gG;exact bX;rfl;exact .here;rfl;exact Row.all)) rfl ?_|refine Y128 ?_)
     refine JL.w4 (cs:=pc p) Tryz.underlying27 fN rfl Y610 Y610 rfl rfl rfl fun bl _=>?_
     refine JL.zR (p:=p) (L:=fs) (M0:=[]) q Tryz.underlying27 fN hq0 rfl rfl rfl Y609 Y609 rfl fun b' cap'=>?_
     refine Y150 ?_
     have eN:(fs++[p]).length=fs.length+1:=List.length_append
     have hyn:y.l.length=r'.length:=by rw[hyl]
     refine JE.again (i:=RS.mk x fs q) (RS.mk y (fs++[p]) (some (b',cap'))) ⟨hy1 w hx,?_,?_,(fun h=>by cases h),?_⟩ ?_ Y640 (aj.refl _)
     · dsimp only
       omega
     · dsimp only
       omega
     · dsimp only
       rw[hrd,eN,hyl]
       cases rd (fs.length+1) r' with
       | error e=>rfl
       | ok z=>
         show Except.ok (fs++p::z.1,z.2)=Except.ok (fs++[p]++z.1,z.2)
         rw[List.append_assoc]
         rfl
     · dsimp only
       omega
end
section
open Sl aq
theorem B9:aJ Tryz.prog 39:=⟨_,Tryz.func39,rfl,by kernel_rfl⟩
theorem Sg:kM Tryz.prog 29=true:=by kernel_rfl
theorem OX:gX Tryz.prog 29=some 2:=by kernel_rfl
theorem Sh:zc Tryz.prog 29=some [.slice none 0 0,.slice none 0 0]:=by kernel_rfl
theorem OQ.K3{n:Nat}{E:Env}{C:World->Prop}{dst:Option Tmp}{ty:TypeId}{pos:String}{aft:Array Edge}{g:Option (Nat × Bool)}{x y:Operand}{f:gm}{s:ay}(hx:ev E x=some f.v)(hy:ev E y=some s.v):OQ Tryz.prog n E C ⟨dst,.build 29 #[(0,x),(1,y)],ty,pos,aft,g⟩ (.agg ([f.v,s.v]:List Value).toArray):=by
 refine OQ.run fun k hk w _=>?_
 have h1:=hk.eval hx
 have h2:=hk.eval hy
 have h3:=run_build (P:=Tryz.prog) w 29 #[(0,f.v),(1,s.v)] #[f.v,s.v] (by unfold gm.v ay.v;kernel_rfl)
 simp[execOp,h1,h2,Sem.run_bind,h3]
def qE(m:List aq.By):Except Nat (List Pr × List aq.By):=if 2097152<m.length then .error 4 else jQ m
theorem yB(s:ay)(w:World)(hs:s.ok w)(hl:s.l.length<=70000):Calls Tryz.prog 22 [s.v].toArray w fun e w'=>
  ∃ q:L9 (qE s.l),e=.returned (.tuple #[.agg #[q.f.v,q.s.v],N (nu (qE s.l))])/\aa w [] (q.s.an++q.f.an) w':=by
 refine enter (n:=21) Tryz.func22 rfl rfl rfl (aa.start w []) ?_
 refine Y83 ?_
 refine JL.alloc Sh rfl fun b2 _=>?_
 refine Y157 ?_
 have h1:decide ((2097152:Int)<(s.l.length:Int))=false:=decide_eq_false Y609
 have hR:qE s.l=jQ s.l:=if_neg Y609
 rw[hR]
 repeat(first|refine JL.q (by(apply OQ.cZ (b:=2097152);rfl;rfl;exact h1)) rfl ?_|refine JL.nil ?_|refine JE.next ?_)
 refine Y252 ?_
 refine Y94 ?_
 refine JL.bD (ι:=L9 (jQ s.l)) (vs:=[s.v]) (fun q=>.tuple #[q.f.v,q.s.v,N (nu (jQ s.l))]) (fun q=>q.s.an++q.f.an) B9 rfl rfl (fun q=>q.wr) (fun w' hw'=>D7 s w' (hs.holds hw' rfl) hl) ?_
 intro q
 refine Y125 ?_
 repeat(refine JL.q (by first|(apply OQ.K3;rfl;rfl)|exact Y323) rfl ?_)
 refine JL.perm (M':=[⟨b2,Row 29 [.slice none 0 0,.slice none 0 0],true⟩]++(q.s.an++q.f.an)) ?_ List.perm_append_comm
 refine JL.ax (cs:=[q.f.v,q.s.v]) OX rfl rfl rfl rfl .here rfl ?_
 refine Y39 ?_
 refine Y247 ?_
 exact JE.aV rfl (RV.aT Sg OX rfl .here rfl Row.all) (RV.tmp rfl) fun w' hw=>⟨⟨q.f,q.s,q.hf,q.hs,q.nf,q.ns⟩,rfl,hw.weak (.drop _ _ _ (aj.refl _))⟩
end
section
open Sl
namespace aq
def mN(p:Pr->Bool)(l:List Pr):Nat:=(l.takeWhile fun c=>!p c).length
def NV(p:Pr->Bool)(l:List Pr):Int:=if mN p l<l.length then(mN p l:Int) else -1
theorem Ca(p:Pr->Bool)(c:Pr)(l:List Pr):mN p (c::l)=if p c then 0 else mN p l+1:=by
 unfold mN
 rw[List.takeWhile_cons]
 cases p c <;> simp
theorem Ai{p:Pr->Bool}{c:Pr}(h:p c=false)(l:List Pr):mN p (c::l)=mN p l+1:=by rw[Ca,h];rfl
theorem tW{p:Pr->Bool}{c:Pr}(h:p c=true)(l:List Pr):mN p (c::l)=0:=by rw[Ca,h];rfl
theorem F5(p:Pr->Bool):mN p []=0:=rfl
theorem tX{p:Pr->Bool}{l:List Pr}(h:mN p l<l.length):NV p l=(mN p l:Int):=if_pos h
theorem Aj{p:Pr->Bool}{l:List Pr}(h:¬ mN p l<l.length):NV p l=-1:=if_neg h
theorem m4(n:List By)(l:List Pr):(dP n l).headD []=if mN (fun c=>bY c.1 n) l<l.length then(l.getD (mN (fun c=>bY c.1 n) l) ([],[])).2 else []:=by
 induction l with
 | nil=>rfl
 | cons c l ih=>
   rw[all_cons]
   cases h:bY c.1 n
   · rw[if_neg Y610,Ai (p:=fun c:Pr=>bY c.1 n) h,ih]
     simp
   · rw[if_pos rfl,tW (p:=fun c:Pr=>bY c.1 n) h]
     simp
theorem K4(n:List By)(l:List Pr):(!(dP n l).isEmpty)=decide (mN (fun c=>bY c.1 n) l<l.length):=by
 induction l with
 | nil=>rfl
 | cons c l ih=>
   rw[all_cons]
   cases h:bY c.1 n
   · rw[if_neg Y610,Ai (p:=fun c:Pr=>bY c.1 n) h,ih]
     simp
   · rw[if_pos rfl,tW (p:=fun c:Pr=>bY c.1 n) h]
     simp
end aq
end
section
open Sl aq
theorem D8:aJ Tryz.prog 146:=⟨_,Tryz.func146,rfl,by kernel_rfl⟩
theorem Cb:aJ Tryz.prog 198:=⟨_,Tryz.func198,rfl,by kernel_rfl⟩
theorem D9:aJ Tryz.prog 145:=⟨_,Tryz.func145,rfl,by kernel_rfl⟩
def o3(bn:Nat)(nm:List Bt)(w:World):Prop:=∃ o,w.heap[bn]?=some o/\Row 9 [Z nm] o
abbrev o7(bn:Nat):Value:=.func (.func 198) #[] [Pt bn 0].toArray
def SV(c:Pr):Prop:=c.1.length<9223372036854775808
theorem Ea(c:Pr)(bn:Nat)(nm:List Bt)(w:World)(hc:SV c)(hw:o3 bn nm w):Calls Tryz.prog 198 [.agg (pc c).toArray,Pt bn 0].toArray w fun e w'=>e=.returned (.bool (bY c.1 nm))/\Ext w w':=by
 obtain⟨o,ho,hA⟩:=hw
 refine enter (n:=8) Tryz.func198 rfl rfl rfl (aa.seen (S:=[]) ho hA) ?_
 have cs:=fun w'=>x6 c.1 nm w' hc
 cases h1:bY c.1 nm
 all_goals
  refine JC.seq (JC.region (JL.box (r:=pc c) rfl rfl rfl fun b1 _=>?_))
  repeat(first|refine JL.q (by first|exact Y468|(apply OQ.load;exact bS;rfl;exact(.there .here);exact(Row.cell (v:=Z nm) rfl))|(apply OQ.dB (vs:=[Z c.1,Z nm]);exact oV;rfl;exact cs;exact h1)) rfl ?_|refine Y84 ?_)
  refine Y247 ?_
  skip
  exact Y248
theorem HN(bn:Nat)(nm:List Bt):KK Tryz.prog (o3 bn nm) SV (o7 bn) (fun c=>bY c.1 nm):=
 ⟨198,[Pt bn 0],rfl,Cb,fun c w hc hw=>Ea c bn nm w hc hw⟩
theorem HO(nm:List Bt)(w:World):Calls Tryz.prog 146 [Z nm].toArray w fun e w'=>∃ bn:Nat,e=.returned (o7 bn)/\aa w [] [⟨bn,Row 9 [Z nm],true⟩] w':=by
 refine enter (n:=4) Tryz.func146 rfl rfl rfl (aa.start w []) ?_
 refine JC.seq (JC.region (JL.box (r:=[Z nm]) rfl rfl rfl fun b1 _=>?_))
 repeat(first|refine JL.q (by(apply OQ.SM (caps:=[Pt b1 0]);rfl)) rfl ?_|refine Y20 ?_)
 refine Y247 ?_
 skip
 exact JE.aK rfl (RV.tmp rfl) fun w' hw=>⟨b1,rfl,hw⟩
theorem nameAt{w0 w:World}{S:List Nat}{M:List aL}{bn:Nat}{nm:List Bt}{wr:Bool}(hw:aa w0 S M w)(hM:Has M bn (Row 9 [Z nm]) wr):o3 bn nm w:=hw.get hM
theorem o3.ext{bn:Nat}{nm:List Bt}{w w':World}(h:o3 bn nm w)(hx:Ext w w'):o3 bn nm w':=by
 obtain⟨o,ho,hA⟩:=h
 exact⟨o,(hx.block bn (Array.getElem?_eq_some_iff.1 ho).1 Y614).trans ho,hA⟩
theorem HP{C:World->Prop}{D:Pr->Prop}(s:gm)(fv:Value)(p:Pr->Bool)(w:World)(hs:s.ok w)(hF:KK Tryz.prog C D fv p)(hC:∀ w',Ext w w'->C w')(hD:∀ c∈s.l,D c)(hl:s.l.length<9223372036854775807) :
  Calls Tryz.prog 145 [s.v,fv].toArray w fun e w'=>e=.returned (.int .i64 (NV p s.l))/\Ext w w':=by
 refine enter (n:=19) Tryz.func145 rfl rfl rfl (aa.start w []) ?_
 refine Y158 ?_
 refine JC.loop (fun i:Nat=>[(0,s.v),(1,fv),(7,N s.l.length),(8,N i)]) (fun _=>[]) (fun i=>s.l.length-i) (fun i=>i<=s.l.length/\mN p s.l=i+mN p (s.l.drop i)) 0 ⟨Nat.zero_le _,by simp⟩ Y640 (aj.refl _) ?_
 rintro i ⟨hi,hp⟩
 refine Y22 ?_
 refine JC.cond rfl (fun h=>?_) (fun h=>?_)
 · have hi':i<s.l.length:=of_decide_eq_true h
   clear h hi
   obtain⟨ba,ja,eA,la,ca1,ca2⟩:=hs.at hi'
   have vA:s.v=.slice (some ⟨ba,ja,none⟩) s.l.length s.cap:=by rw[<- eA];rfl
   have cA:=pair_cells ca1 ca2
   have hDi:D (s.l.getD i ([],[])):=hD _ (lF hi')
   rw[og hi'] at hp
   generalize s.l.getD i ([],[])=c at hp cA hDi
   rw[vA]
   cases h1:p c
   · rw[Ai h1] at hp
     repeat(first|refine JL.q Y716 rfl ?_|refine Y93 ?_)
     refine Y245 ?_
     refine Y25 ?_
     rw[<- vA]
     exact Y257
   · rw[tW h1,Nat.add_zero] at hp
     have hv:NV p s.l=(i:Int):=by rw[tX Y609,hp]
     rw[hv]
     repeat(first|refine JL.q Y716 rfl ?_|refine Y93 ?_)
     refine Y246 ?_
     refine Y24 ?_
     refine Y247 ?_
     refine Y2 ?_
     exact Y248
 · have hi':¬ i<s.l.length:=of_decide_eq_false h
   clear h
   rw[List.drop_eq_nil_of_le Y609,F5] at hp
   rw[Aj Y609]
   refine Y11 ?_
   refine Y247 ?_
   skip
   exact Y248
theorem NW:zc Tryz.prog 65=some [Z [],Z []]:=by kernel_rfl
structure Ur where
 j:Nat
 o:List Pr
 X:List Pr
theorem T8:gD Tryz.prog 22=true:=by kernel_rfl
def low(p:Pr):Bool:=decide (p.2.length<=9000)
structure Lt (A:List Pr) (B:List Bt) where
 f:gm
 s:ay
 hf:f.l=A
 hs:s.l=B
 nf:f.ad=none->f.l=[]
 ns:s.ad=none->s.l=[]
def Lt.v{A:List Pr}{B:List Bt}(z:Lt A B):Value:=.agg #[z.f.v,z.s.v]
def Lt.an{A:List Pr}{B:List Bt}(z:Lt A B):List aL:=z.f.an++z.s.an
theorem Lt.wr{A:List Pr}{B:List Bt}(z:Lt A B):∀ e∈z.an,e.wr=true:=fun e he=>by
 rcases List.mem_append.1 he with h|h
 · exact z.f.bH e h
 · exact z.s.bH e h
structure Si:Prop where
 get:∀ (f:gm) (s:ay) (nm:List Bt) (w:World),f.ok w->s.ok w->fX f->f.l.length<=301->s.l.length<=3000->nm.length<=200->Calls Tryz.prog 98 [.agg #[f.v,s.v],Z nm].toArray w fun e w'=>e=.returned (.tuple #[Z ((dP nm f.l).headD []),.bool (!(dP nm f.l).isEmpty)])/\Ext w w'
 write:∀ (f:gm) (s:ay) (w:World),f.ok w->s.ok w->fX f->f.l.length<=300->s.l.length<=3000->(∀ p∈f.l,p.2.length<=9000)->Calls Tryz.prog 15 [.agg #[f.v,s.v]].toArray w fun e w'=>∃ y:{ y:ay // y.l=bt f.l s.l },e=.returned (.tuple #[y.1.v,N (bJ f.l s.l)])/\Ext w w'/\y.1.ok w'
section
variable {n:Nat} {E:Env} {C:World->Prop} {dst:Option Tmp} {ty:TypeId} {pos:String} {aft:Array Edge} {g:Option (Nat × Bool)} {x y:Operand}
end
end
section
open Sl aq
theorem K5{A B:List aL}(e:aL):aj (A++B) (A++e::B):=fU (.append (.refl _) (.cons _ (.refl _)))
theorem Qk{f:gm}(hz:fX f):∀ c∈f.l,SV c:=fun c hc=>(hz c hc).1
theorem nC(f:gm)(s:ay)(nm:List Bt)(w:World)(hf:f.ok w)(hz:fX f)(hl:f.l.length<=1000000):Calls Tryz.prog 98 [.agg #[f.v,s.v],Z nm].toArray w fun e w'=>e=.returned (.tuple #[Z ((dP nm f.l).headD []),.bool (!(dP nm f.l).isEmpty)])/\Ext w w':=by
 rw[m4,K4]
 refine enter (n:=20) Tryz.func98 rfl rfl rfl (aa.start w []) ?_
 refine JC.seq (JC.region (JL.box (r:=[f.v,s.v]) rfl rfl rfl fun b2 _=>?_))
 refine Y159 ?_
 have ci:∀ (M:List aL) (bn:Nat) (w':World),aa w [] (⟨bn,Row 9 [Z nm],true⟩::M) w'->Calls Tryz.prog 145 [f.v,o7 bn].toArray w' fun e w''=>e=.returned (.int .i64 (NV (fun c=>bY c.1 nm) f.l))/\Ext w' w'':=fun M bn w' hw'=>
  HP (C:=o3 bn nm) (D:=SV) f (o7 bn) _ w' (hf.holds hw' rfl) (HN bn nm) (fun w'' hx=>(nameAt hw' .here).ext hx) (Qk hz) Y609
 let vs:Nat->Nat->Value:=fun j x=>match j with
  | 0=>Pt b2 0
  | 1=>f.v
  | 2=>Z nm
  | 3=>o7 x
  | _=>.int .i64 (NV (fun c=>bY c.1 nm) f.l)
 let Ms:Nat->Nat->List aL:=fun j x=>match j with
  | 3=>[⟨x,Row 9 [Z nm],true⟩]
  | 6=>[⟨b2,Row 29 [f.v,s.v],true⟩]
  | _=>[]
 refine JC.nt (g:=⟨[(1,Z nm),(2,Pt b2 0)],7,vs,Ms,(fun j=>match j with|1=>[(0,7)]|3=>[(2,9)]|4=>[(1,8),(3,10)]|5=>[(4,11)]|_=>[]),(fun j=>match j with|1=>[6]|4=>[3]|_=>[]),(fun _=>[]),(fun _=>none),fun _=>[],fun _ _ _=>True⟩) [(5,6)] [6] oL Y640 (fun _ _=>.nil) (aj.refl _) Y636 Y636 Y636 ?_ ?_
 · refine⟨?_,?_,?_,?_,?_,?_,trivial⟩
   · (intro x EF MF Q kk;exact JL.q (OQ.ov (o:=0) rfl rfl rfl Y610 rfl rfl) rfl (JL.nil (kk default nofun)))
   · (intro x EF MF Q kk;exact JL.q (OQ.load KT rfl .here (Row.cell (v:=f.v) rfl)) rfl (JL.nil (kk default nofun)))
   · (intro x EF MF Q kk;exact JL.q (OQ.move rfl) rfl (JL.nil (kk default nofun)))
   · (intro x EF MF Q kk;exact JL.bD (ι:=Nat) (vs:=[Z nm]) (fun bn=>o7 bn) (fun bn=>[⟨bn,Row 9 [Z nm],true⟩]) D8 rfl rfl (fun bn e he=>by rw[List.mem_singleton.1 he]) (fun w' _=>HO nm w') fun bn=>JL.nil (kk bn nofun))
   · (intro x EF MF Q kk;exact JL.q (OQ.ai (vs:=[f.v,o7 (x 3)]) D9 rfl (ci _ (x 3))) rfl (JL.nil (kk default nofun)))
   · (intro x EF MF Q kk;exact JL.q (OQ.assign rfl) rfl (JL.nil (kk default nofun)))
 intro x hx
 show JE _ _ _ _ _ [(6,.int .i64 (NV (fun c=>bY c.1 nm) f.l)),(1,Z nm),(2,Pt b2 0)] [⟨b2,Row 29 [f.v,s.v],true⟩]
 clear ci hx x vs Ms
 by_cases hx:mN (fun c=>bY c.1 nm) f.l<f.l.length
 · rw[if_pos hx,decide_eq_true hx,tX hx]
   have h0:decide (((mN (fun c=>bY c.1 nm) f.l:Nat):Int)<0)=false:=decide_eq_false Y609
   obtain⟨ba,ja,eA,la,ca1,ca2⟩:=hf.at hx
   have vA:f.v=.slice (some ⟨ba,ja,none⟩) f.l.length f.cap:=by rw[<- eA];rfl
   generalize mN (fun c=>bY c.1 nm) f.l=i at *
   rw[vA]
   repeat(first|refine JL.q (by(apply OQ.fV (b:=0);rfl;rfl;exact h0)) rfl ?_|refine Y36 ?_)
   refine Y245 ?_
   repeat(first|refine JL.q (by first|(apply OQ.load;exact KT;rfl;exact .here;exact(Row.cell (v:=.slice (some ⟨ba,ja,none⟩) f.l.length f.cap) rfl))|(apply OQ.iD;exact Tryz.underlying27;exact bX;rfl;rfl;exact hx)|exact Y376) rfl ?_|refine Y145 ?_)
   refine Y247 ?_
   skip
   exact Y259
 · rw[if_neg hx,decide_eq_false hx,Aj hx]
   have h0:decide ((-1:Int)<0)=true:=rfl
   repeat(first|refine JL.q (by(apply OQ.fV (b:=0);rfl;rfl;exact h0)) rfl ?_|refine Y36 ?_)
   refine Y246 ?_
   refine Y3 ?_
   refine Y247 ?_
   refine Y250 ?_
   exact Y259
structure Us where
 i:Nat
 o:List (List Bt)
 q:Acc
end
section
namespace bQ
def fl(k:Nat)(F:List By->List By)(l:List By):List By:=(List.range ((l.length+k-1) / k)).flatMap fun j=>F ((l.drop (k*j)).take k)
theorem nD{k:Nat}(hk:0<k)(F:List By->List By):fl k F []=[]:=by
 unfold fl
 rw[List.length_nil,Nat.div_eq_of_lt Y609];rfl
theorem mq{k:Nat}(hk:0<k)(F:List By->List By){l:List By}(h:l≠[]):fl k F l=F (l.take k)++fl k F (l.drop k):=by
 have hp:=List.length_pos_iff.2 h
 have e:(l.length+k-1) / k=((l.drop k).length+k-1) / k+1:=by
  rw[List.length_drop]
  by_cases hle:l.length<=k
  · rw[Nat.sub_eq_zero_of_le hle,Nat.zero_add,Nat.div_eq_of_lt (show k-1<k by omega)]
    exact Nat.div_eq_of_lt_le Y609 Y609
  · rw[show l.length+k-1=(l.length-k+k-1)+k by omega,Nat.add_div_right _ hk]
 unfold fl
 rw[e,List.range_succ_eq_map,List.flatMap_cons,List.flatMap_map,Nat.mul_zero,List.drop_zero]
 congr 2
 funext j
 rw[List.drop_drop,show k*j.succ=k+k*j by rw[Nat.mul_succ];omega]
def Ql(g:List By):List By:=[g.getD 0 0,g.getD 1 0,g.getD 2 0]
def HQ(g:List By):Nat:=(g.getD 0 0).toNat*65536+(g.getD 1 0).toNat*256+(g.getD 2 0).toNat
def IY(g:List By)(i:Nat):By:=if g.length<i then 61 else sg (HQ g / 2 ^ (6*(3-i))%64)
def kT(g:List By):List By:=[IY g 0,IY g 1,IY g 2,IY g 3]
theorem Ak{g:List By}(h0:g≠[])(h3:g.length<=3):kT g=bC g:=by
 match g,h0,h3 with
 | [a],_,_=>
   have ha:=a.isLt
   simp only[kT,IY,HQ,List.length_cons,List.length_nil,List.getD_cons_zero,List.getD_cons_succ,List.getD_nil,bC]
   simp only[show ¬ (0+1<0) by omega,show ¬ (0+1<1) by omega,show(0+1<2) by omega,show(0+1<3) by omega,if_true,if_false]
   rw[show(a.toNat*65536+(0:By).toNat*256+(0:By).toNat) / 2 ^ (6*(3-0))%64=a.toNat / 4 by simp;omega,
    show(a.toNat*65536+(0:By).toNat*256+(0:By).toNat) / 2 ^ (6*(3-1))%64=a.toNat%4*16 by simp;omega]
 | [a,b],_,_=>
   have ha:=a.isLt
   have hb:=b.isLt
   simp only[kT,IY,HQ,List.length_cons,List.length_nil,List.getD_cons_zero,List.getD_cons_succ,List.getD_nil,bC]
   simp only[show ¬ (0+1+1<0) by omega,show ¬ (0+1+1<1) by omega,show ¬ (0+1+1<2) by omega,show(0+1+1<3) by omega,if_true,if_false]
   rw[show(a.toNat*65536+b.toNat*256+(0:By).toNat) / 2 ^ (6*(3-0))%64=a.toNat / 4 by simp;omega,
    show(a.toNat*65536+b.toNat*256+(0:By).toNat) / 2 ^ (6*(3-1))%64=a.toNat%4*16+b.toNat / 16 by simp;omega,
    show(a.toNat*65536+b.toNat*256+(0:By).toNat) / 2 ^ (6*(3-2))%64=b.toNat%16*4 by simp;omega]
 | [a,b,c],_,_=>
   have ha:=a.isLt
   have hb:=b.isLt
   have hc:=c.isLt
   rw[pP]
   simp only[kT,IY,HQ,List.length_cons,List.length_nil,List.getD_cons_zero,List.getD_cons_succ,List.getD_nil,bC]
   simp only[show ¬ (0+1+1+1<0) by omega,show ¬ (0+1+1+1<1) by omega,show ¬ (0+1+1+1<2) by omega,show ¬ (0+1+1+1<3) by omega,if_false]
   rw[show(a.toNat*65536+b.toNat*256+c.toNat) / 2 ^ (6*(3-0))%64=a.toNat / 4 by simp;omega,
    show(a.toNat*65536+b.toNat*256+c.toNat) / 2 ^ (6*(3-1))%64=a.toNat%4*16+b.toNat / 16 by simp;omega,
    show(a.toNat*65536+b.toNat*256+c.toNat) / 2 ^ (6*(3-2))%64=b.toNat%16*4+c.toNat / 64 by simp;omega,
    show(a.toNat*65536+b.toNat*256+c.toNat) / 2 ^ (6*(3-3))%64=c.toNat%64 by simp;omega]
theorem Qm(l:List By):fl 3 kT l=bC l:=by
 refine ME (p:=fun l=>fl 3 kT l=bC l) (by rw[nD Y610];rfl) (fun a=>?_) (fun a b=>?_) (fun a b c r h=>?_) l
 · rw[mq Y610 _ Y614,show [a].drop 3=[] from rfl,nD Y610,show [a].take 3=[a] from rfl,Ak Y614 Y614,List.append_nil]
 · rw[mq Y610 _ Y614,show [a,b].drop 3=[] from rfl,nD Y610,show [a,b].take 3=[a,b] from rfl,Ak Y614 Y614,List.append_nil]
 · rw[mq Y610 _ Y614,show(a::b::c::r).drop 3=r from rfl,h,show(a::b::c::r).take 3=[a,b,c] from rfl,Ak Y614 Y614,pP,pP]
   rfl
theorem K6(g:List By)(i:Nat):(((((g.getD 0 0).setWidth 32 <<< 16) ||| ((g.getD 1 0).setWidth 32 <<< 8)) ||| (g.getD 2 0).setWidth 32) >>> i &&& 63#32).toNat=HQ g / 2 ^ i%64:=by
 unfold HQ
 generalize g.getD 0 0=a,g.getD 1 0=b,g.getD 2 0=c
 have ha:=a.isLt
 have hb:=b.isLt
 have hc:=c.isLt
 rw[BitVec.toNat_and,BitVec.toNat_ushiftRight,BitVec.toNat_or,BitVec.toNat_or,BitVec.toNat_shiftLeft,BitVec.toNat_shiftLeft,BitVec.toNat_setWidth,BitVec.toNat_setWidth,BitVec.toNat_setWidth]
 rw[Nat.mod_eq_of_lt (show a.toNat<2 ^ 32 by omega),Nat.mod_eq_of_lt (show b.toNat<2 ^ 32 by omega),Nat.mod_eq_of_lt (show c.toNat<2 ^ 32 by omega)]
 rw[Nat.mod_eq_of_lt (show a.toNat <<< 16<2 ^ 32 by rw[Nat.shiftLeft_eq];omega),Nat.mod_eq_of_lt (show b.toNat <<< 8<2 ^ 32 by rw[Nat.shiftLeft_eq];omega)]
 have e1:a.toNat <<< 16 ||| b.toNat <<< 8=(a.toNat*256+b.toNat) <<< 8:=by
  rw[<- Nat.shiftLeft_add_eq_or_of_lt (by rw[Nat.shiftLeft_eq];omega)]
  simp only[Nat.shiftLeft_eq];omega
 rw[e1,<- Nat.shiftLeft_add_eq_or_of_lt Y609]
 rw[show(63#32).toNat=2 ^ 6-1 from rfl,Nat.and_two_pow_sub_one_eq_mod,Nat.shiftRight_eq_div_pow,Nat.shiftLeft_eq]
 rw[show(a.toNat*256+b.toNat)*2 ^ 8+c.toNat=a.toNat*65536+b.toNat*256+c.toNat by omega]
def pl(c:By):Nat:=((List.range 64).find? fun i=>AP.getD i 0==c).getD 0
theorem qF:∀ m:Fin 64,pl (sg m.val)=m.val:=by decide +kernel
theorem Qn:∀ m:Fin 64,¬ sg m.val=61#8:=by decide +kernel
theorem qG{m:Nat}(h:m<64):¬ sg m=61#8:=Qn ⟨m,h⟩
theorem Cc(c:By):pl c<64:=by
 unfold pl
 cases h:(List.range 64).find? fun i=>AP.getD i 0==c with
 | none=>decide
 | some i=>simpa using List.mem_of_find?_eq_some h
def acc(g:List By):Nat->Nat
 | 0=>0
 | i+1=>acc g i+pl (g.getD i 0)*2 ^ (6*(3-i))
def lead(g:List By):Nat:=(g.takeWhile (· != 61)).length
def gp(g:List By):List By:=(List.range (lead g-1)).map fun i=>BitVec.ofNat 8 (acc g (lead g) / 2 ^ (8*(2-i)))
theorem m9(g:List By){i:Nat}(hi:i<=4):acc g i<2 ^ 24/\acc g i%2 ^ (6*(4-i))=0:=by
 have p0:=Cc (g.getD 0 0)
 have p1:=Cc (g.getD 1 0)
 have p2:=Cc (g.getD 2 0)
 have p3:=Cc (g.getD 3 0)
 match i,hi with
 | 0,_=>simp[acc]
 | 1,_=>simp only[acc];omega
 | 2,_=>simp only[acc];omega
 | 3,_=>simp only[acc];omega
 | 4,_=>simp only[acc];omega
theorem K7(g:List By){i:Nat}(hi:i<4):BitVec.ofNat 32 (acc g i) ||| (BitVec.ofNat 32 (pl (g.getD i 0)) <<< (6*(3-i)))=BitVec.ofNat 32 (acc g (i+1)):=by
 obtain⟨h1,h2⟩:=m9 g (i:=i) Y609
 have h3:=(m9 g (i:=i+1) Y609).1
 have hp:=Cc (g.getD i 0)
 have he:2 ^ (6*(4-i))=64*2 ^ (6*(3-i)):=by rw[show 6*(4-i)=6+6*(3-i) by omega,Nat.pow_add]
 have hlt:pl (g.getD i 0)*2 ^ (6*(3-i))<2 ^ (6*(4-i)):=by rw[he];exact Nat.mul_lt_mul_of_pos_right hp (Nat.two_pow_pos _)
 have hle:2 ^ (6*(4-i))<=2 ^ 24:=Nat.pow_le_pow_right Y610 Y609
 apply BitVec.eq_of_toNat_eq
 rw[BitVec.toNat_or,BitVec.toNat_shiftLeft,BitVec.toNat_ofNat,BitVec.toNat_ofNat,BitVec.toNat_ofNat,Nat.mod_eq_of_lt (show acc g i<2 ^ 32 by omega),Nat.mod_eq_of_lt (show pl (g.getD i 0)<2 ^ 32 by omega),Nat.mod_eq_of_lt (show acc g (i+1)<2 ^ 32 by omega)]
 rw[Nat.shiftLeft_eq,Nat.mod_eq_of_lt (show pl (g.getD i 0)*2 ^ (6*(3-i))<2 ^ 32 by omega)]
 have hb:acc g i=(acc g i / 2 ^ (6*(4-i))) <<< (6*(4-i)):=by
  rw[Nat.shiftLeft_eq]
  have:=Nat.div_add_mod (acc g i) (2 ^ (6*(4-i)))
  rw[h2,Nat.mul_comm] at this
  omega
 rw[hb,<- Nat.shiftLeft_add_eq_or_of_lt hlt,<- hb]
 rfl
theorem HR{n k:Nat}(h:n<2 ^ 32):(BitVec.ofNat 32 n >>> k).setWidth 8=BitVec.ofNat 8 (n / 2 ^ k):=by
 apply BitVec.eq_of_toNat_eq
 rw[BitVec.toNat_setWidth,BitVec.toNat_ushiftRight,BitVec.toNat_ofNat,BitVec.toNat_ofNat,Nat.mod_eq_of_lt h,Nat.shiftRight_eq_div_pow]
theorem JG:List.range 3=[0,1,2]:=rfl
theorem Qo{p q r s:Nat}(hp:p<64)(hq:q<64)(hr:r<64)(hs:s<64):gp [sg p,sg q,sg r,sg s]=[BitVec.ofNat 8 (p*4+q / 16),BitVec.ofNat 8 (q%16*16+r / 4),BitVec.ofNat 8 (r%4*64+s)]:=by
 have e:lead [sg p,sg q,sg r,sg s]=4:=by
  simp[lead,List.takeWhile_cons,qG hp,qG hq,qG hr,qG hs]
 unfold gp
 rw[e]
 simp only[acc,List.getD_cons_zero,List.getD_cons_succ,qF ⟨p,hp⟩,qF ⟨q,hq⟩,qF ⟨r,hr⟩,qF ⟨s,hs⟩,JG,List.map_cons,List.map_nil,Nat.add_one_sub_one]
 congr 1
 · apply BitVec.eq_of_toNat_eq;simp only[BitVec.toNat_ofNat];omega
 congr 1
 · apply BitVec.eq_of_toNat_eq;simp only[BitVec.toNat_ofNat];omega
 congr 1
 · apply BitVec.eq_of_toNat_eq;simp only[BitVec.toNat_ofNat];omega
theorem Qp{p q r:Nat}(hp:p<64)(hq:q<64)(hr:r<64):gp [sg p,sg q,sg r,61]=[BitVec.ofNat 8 (p*4+q / 16),BitVec.ofNat 8 (q%16*16+r / 4)]:=by
 have e:lead [sg p,sg q,sg r,61]=3:=by
  simp[lead,List.takeWhile_cons,qG hp,qG hq,qG hr]
 unfold gp
 rw[e]
 simp only[acc,List.getD_cons_zero,List.getD_cons_succ,qF ⟨p,hp⟩,qF ⟨q,hq⟩,qF ⟨r,hr⟩,show List.range (3-1)=[0,1] from rfl,List.map_cons,List.map_nil]
 congr 1
 · apply BitVec.eq_of_toNat_eq;simp only[BitVec.toNat_ofNat];omega
 congr 1
 · apply BitVec.eq_of_toNat_eq;simp only[BitVec.toNat_ofNat];omega
theorem Qq{p q:Nat}(hp:p<64)(hq:q<64):gp [sg p,sg q,61,61]=[BitVec.ofNat 8 (p*4+q / 16)]:=by
 have e:lead [sg p,sg q,61,61]=2:=by
  simp[lead,List.takeWhile_cons,qG hp,qG hq]
 unfold gp
 rw[e]
 simp only[acc,List.getD_cons_zero,List.getD_cons_succ,qF ⟨p,hp⟩,qF ⟨q,hq⟩,show List.range (2-1)=[0] from rfl,List.map_cons,List.map_nil]
 congr 1
 · apply BitVec.eq_of_toNat_eq;simp only[BitVec.toNat_ofNat];omega
theorem Qr(l:List By):fl 4 gp (bC l)=l:=by
 refine ME (p:=fun l=>fl 4 gp (bC l)=l) (by rw[bC,nD Y610]) (fun a=>?_) (fun a b=>?_) (fun a b c r h=>?_) l
 · have ha:=a.isLt
   rw[bC,mq Y610 _ Y614]
   simp only[List.take_succ_cons,List.take_nil,List.drop_succ_cons,List.drop_nil,List.take_zero,List.drop_zero]
   rw[Qq Y609 Y609,nD Y610,IU (show _=a.toNat by omega)];rfl
 · have ha:=a.isLt
   have hb:=b.isLt
   rw[bC,mq Y610 _ Y614]
   simp only[List.take_succ_cons,List.take_nil,List.drop_succ_cons,List.drop_nil,List.take_zero,List.drop_zero]
   rw[Qp Y609 Y609 Y609,nD Y610,IU (show _=a.toNat by omega),IU (show _=b.toNat by omega)];rfl
 · have ha:=a.isLt
   have hb:=b.isLt
   have hc:=c.isLt
   rw[pP,mq Y610 _ Y614]
   simp only[List.take_succ_cons,List.take_nil,List.drop_succ_cons,List.drop_nil,List.take_zero,List.drop_zero]
   rw[Qo Y609 Y609 Y609 Y609,h,IU (show _=a.toNat by omega),IU (show _=b.toNat by omega),IU (show _=c.toNat by omega)];rfl
theorem NX{s:List By}(h:bC (fl 4 gp s)=s):fE s=some (fl 4 gp s):=Ji.2 h
theorem Qs{s:List By}(h:¬ bC (fl 4 gp s)=s):fE s=none:=GB fun l hl=>h (by rw[<- hl,Qr])
def rW(g:List By):List By:=g++[13,10]
theorem Eb(s:List By):∀ r,r<=75->r<s.length->ou s r=s.take r
 | 0,_,_=>rfl
 | r+1,h1,h2=>by
   rw[ou,Eb s r Y609 Y609,if_neg Y609,List.take_add_one,List.getD_eq_getElem?_getD,List.getElem?_eq_getElem Y609];rfl
theorem NY(s:List By)(h0:s≠[])(h:s.length<=76):ou s s.length=s++[13,10]:=by
 obtain⟨r,hr⟩:∃ r,s.length=r+1:=⟨s.length-1,by have:=List.length_pos_iff.2 h0;omega⟩
 rw[hr,ou,Eb s r Y609 Y609,if_pos (.inr hr.symm)]
 have e:s=s.take r++[s.getD r 0]:=by
  have e2:s.take (r+1)=s:=List.take_of_length_le Y609
  conv=>lhs;rw[<- e2]
  rw[List.take_add_one,List.getD_eq_getElem?_getD,List.getElem?_eq_getElem Y609];rfl
 conv=>rhs;rw[e]
 simp
theorem Sj(s:List By)(h:76<=s.length):ou s 76=s.take 76++[13,10]:=by
 have e:s.take 76=s.take 75++[s.getD 75 0]:=by
  rw[show(76:Nat)=75+1 from rfl,List.take_add_one,List.getD_eq_getElem?_getD,List.getElem?_eq_getElem Y609];rfl
 rw[e,show(76:Nat)=75+1 from rfl,ou,Eb s 75 Y609 Y609,if_pos (.inl rfl)]
 simp
theorem K8(s:List By)(h:76<=s.length):∀ i,76+i<=s.length->ou s (76+i)=ou s 76++ou (s.drop 76) i
 | 0,_=>by simp[ou]
 | i+1,hi=>by
   rw[show 76+(i+1)=(76+i)+1 from rfl,ou,K8 s h i Y609,ou,List.append_assoc]
   congr 3
   · simp[List.getD_eq_getElem?_getD,List.getElem?_drop]
   · rw[List.length_drop,show(76+i)%76=i%76 by omega]
     by_cases hc:i%76=75\/76+i+1=s.length
     · rw[if_pos hc,if_pos Y609]
     · rw[if_neg hc,if_neg Y609]
theorem Sk(s:List By):fl 76 rW s=ou s s.length:=by
 generalize hn:s.length=n
 induction n using Nat.strongRecOn generalizing s with
 | _ n ih=>
   by_cases h0:s=[]
   · subst h0
     rw[nD Y610]
     subst hn;rfl
   · have hp:=List.length_pos_iff.2 h0
     rw[mq Y610 _ h0]
     by_cases h:s.length<=76
     · rw[List.drop_eq_nil_of_le h,nD Y610,List.take_of_length_le h,<- hn,NY s h0 h,List.append_nil];rfl
     · rw[ih (n-76) Y609 (s.drop 76) Y632,<- hn,show s.length=76+(s.length-76) by omega,K8 s Y609 _ Y609,Sj s Y609,show 76+(s.length-76)-76=s.length-76 by omega];rfl
theorem K9(l:List By):fl 76 rW (bC l)=e6 l:=Sk _
end bQ
end
section
open Sl bQ
theorem HS:aJ Tryz.prog 29:=⟨_,Tryz.func29,rfl,by kernel_rfl⟩
theorem Tw:gX Tryz.prog 3=some 1:=by kernel_rfl
theorem Tx:gD Tryz.prog 3=true:=by kernel_rfl
theorem Qt:EI Tryz.prog 3 (.int .i64 0) 1 8:=by unfold EI;kernel_rfl
theorem Ty(x:bQ.By){j:Nat}(h:j<8):((x >>> (7-j)) &&& 1#8).toNat=(b8 x.toNat).getD j 0:=by
 have h8:∀ j:Fin 8,∀ x:bQ.By,((x >>> (7-j.val)) &&& 1#8).toNat=(b8 x.toNat).getD j.val 0:=by decide +kernel
 exact h8 ⟨j,h⟩ x
theorem take_one{α:Type}(l:List α)(d:α){j:Nat}(h:j<l.length):l.take (j+1)=l.take j++[l.getD j d]:=by
 rw[List.take_add_one,List.getD_eq_getElem?_getD,List.getElem?_eq_getElem h];rfl
theorem La(l:List bQ.By){i:Nat}(h:i<l.length):qS (l.take (i+1))=qS (l.take i)++b8 (l.getD i 0).toNat:=by
 rw[take_one l 0 h]
 unfold qS
 rw[List.flatMap_append]
 simp
theorem Lb:∀ (l:List bQ.By),∀ x∈qS l,x<=1
 | [],x,h=>by cases h
 | a::l,x,h=>by
   rw[pQ,List.mem_append] at h
   rcases h with h|h
   · simp only[b8,List.mem_cons,List.not_mem_nil,or_false] at h
     omega
   · exact Lb l x h
theorem Qu(l:List bQ.By):∀ x∈kY (qS l),x<=1:=fun x h=>by
 unfold kY at h
 rcases List.mem_append.1 h with h|h
 · exact Lb l x h
 · rw[List.eq_of_mem_replicate h];decide
theorem Lc:∀ (l:List Nat),(∀ x∈l,x<=1)->∀ s,l.foldl (fun n b=>2*n+b) s+1<=(s+1)*2 ^ l.length
 | [],_,s=>by simp
 | a::l,h,s=>by
   have ih:=Lc l (fun x hx=>h x (List.mem_cons_of_mem _ hx)) (2*s+a)
   have ha:=h a (List.mem_cons_self ..)
   rw[List.foldl_cons,List.length_cons,Nat.pow_succ]
   refine Nat.le_trans ih ?_
   rw[Nat.mul_comm (2 ^ l.length) 2,<- Nat.mul_assoc]
   exact Nat.mul_le_mul_right _ Y609
theorem Ld(l:List Nat)(i:Nat){j:Nat}(h:i+j<l.length):val ((l.drop i).take (j+1))=2*val ((l.drop i).take j)+l.getD (i+j) 0:=by
 rw[take_one (l.drop i) 0 Y632]
 unfold val
 rw[List.foldl_append]
 simp[List.getD_eq_getElem?_getD,List.getElem?_drop]
theorem Qv{l:List Nat}(h:∀ x∈l,x<=1)(i j:Nat):val ((l.drop i).take j)<2 ^ j:=by
 have:=Lc ((l.drop i).take j) (fun x hx=>h x (List.mem_of_mem_drop (List.mem_of_mem_take hx))) 0
 have l1:((l.drop i).take j).length<=j:=by rw[List.length_take];omega
 have p:=Nat.pow_le_pow_right (n:=2) Y610 l1
 unfold val
 omega
theorem Sm(l:List Nat){g:Nat}(h:6*g+6<=l.length):∃ a b c d e f,(l.drop (6*g)).take 6=[a,b,c,d,e,f]:=by
 have hl:((l.drop (6*g)).take 6).length=6:=by rw[List.length_take,List.length_drop];omega
 match hq:(l.drop (6*g)).take 6,hl with
 | [a,b,c,d,e,f],_=>exact⟨a,b,c,d,e,f,rfl⟩
theorem NZ(l:List Nat){g:Nat}(h:6*g+6<=l.length):sx (l.take (6*(g+1)))=sx (l.take (6*g))++[sg (val ((l.drop (6*g)).take 6))]:=by
 obtain⟨a,b,c,d,e,f,hq⟩:=Sm l h
 have e1:l.take (6*(g+1))=l.take (6*g)++(l.drop (6*g)).take 6:=by
  rw[show 6*(g+1)=6*g+6 by omega,List.take_add]
 rw[e1,q5 g _ _ Y625,hq,GA,Ri]
theorem Sn{l:List Nat}{i:Nat}(h:i<l.length):(l.map N)[i]?=some (N (l.getD i 0)):=by simp[h]
theorem Cd(s:ay)(w:World)(hs:s.ok w)(hl:s.l.length<=4000000):Calls Tryz.prog 29 [s.v].toArray w fun e w'=>e=.returned (Z (bC s.l))/\Ext w w':=by
 rw[<- MG]
 have hb8:∀ x:Nat,(b8 x).length=8:=fun _=>rfl
 refine enter (n:=73) Tryz.func29 rfl rfl rfl (aa.start w []) ?_
 refine Y3 ?_
 refine JL.MO Tryz.underlying98 Qt rfl fun b0 _=>?_
 refine Y7 ?_
 refine JC.loop (fun q:Nat × Nat × Nat=>[(0,s.v),(3,.slice (some ⟨q.2.1,0,none⟩) (8*q.1) q.2.2),(4,N q.1)])
  (fun q=>[⟨q.2.1,Sl.Own 3 1 (8*q.1) q.2.2 ((qS (s.l.take q.1)).map N),true⟩])
  (fun q=>s.l.length-q.1) (fun q=>q.1<=s.l.length) (0,b0,0) (by show 0<=s.l.length;omega) Y640 (.keep _ _ _ _ _ _ (p7 rfl) (.nil _)) ?_
 rintro⟨i,b,cap⟩ hi
 simp only at hi
 refine Y77 ?_
 refine JC.cond rfl (fun h=>?_) (fun h=>?_)
 · have hi':i<s.l.length:=of_decide_eq_true h
   clear h hi
   have hbl:(qS (s.l.take i)).length=8*i:=by rw[zj,List.length_take];omega
   obtain⟨ba,ja,hae,hca⟩:=hs.reads.at Y624
   have hc:=hca i _ (dF U8 0 hi')
   have hav:s.v=.slice (some ⟨ba,ja,none⟩) s.l.length s.cap:=by rw[<- hae];rfl
   have eT:=La s.l hi'
   have hbit:=fun j (h:j<8)=>Ty (s.l.getD i 0) h
   generalize qS (s.l.take i)=T at hbl eT⊢
   generalize s.l.getD i 0=x at hc eT hbit
   refine Y76 ?_
   refine JC.loop (fun q:Nat × Nat × Nat=>[(0,s.v),(3,.slice (some ⟨q.2.1,0,none⟩) (8*i+q.1) q.2.2),(4,N i),(5,I (7-q.1))])
    (fun q=>[⟨q.2.1,Sl.Own 3 1 (8*i+q.1) q.2.2 ((T++(b8 x.toNat).take q.1).map N),true⟩])
    (fun q=>8-q.1) (fun q=>q.1<=8) (0,b,cap) (by show 0<=8;omega) Y640 (.keep _ _ _ _ _ _ (fun o h=>by simpa using h) (.nil _)) ?_
   rintro⟨j,b,cap⟩ hj
   simp only at hj
   dsimp only
   repeat(first|refine JL.q (by(apply OQ.S9 (b:=0);rfl;rfl)) rfl ?_|refine Y36 ?_)
   refine JC.cond rfl (fun h=>?_) (fun h=>?_)
   · have hj0:(0:Int)<=7-j:=of_decide_eq_true h
     have hj':j<8:=by omega
     clear h hj hj0
     have eI:(7-(j:Int))=((7-j:Nat):Int):=by omega
     rw[eI]
     have hb:=hbit j hj'
     rw[hav]
     repeat(first|refine JL.q (by first|exact Y379|exact Y407|(apply OQ.Tf;rfl;rfl)|(apply OQ.Te (b:=1#8);rfl;rfl)|(apply OQ.tI;rfl;rfl;rfl)|exact Y323) rfl ?_|refine JC.seq ?_|refine JC.region ?_|refine JC.block ?_|refine JC.skip ?_|refine JE.next ?_)
     refine JL.gi (xs:=(T++(b8 x.toNat).take j).map N) (fun b' cap'=>[⟨b',Sl.Own 3 1 (8*i+j+1) cap' ((T++(b8 x.toNat).take j).map N++[N ((x >>> (7-j)) &&& 1#8).toNat]),true⟩]) Tryz.underlying98 Qt rfl rfl rfl rfl (fun _=>rfl) Y642 Y609 Y609 rfl rfl fun bl b' cap'=>?_
     rw[<- hav]
     repeat(first|refine JL.q (by exact Y369) rfl ?_|refine Y160 ?_)
     refine JE.again (i:=(j,b,cap)) (j+1,b',cap') (by show j+1<=8;omega) (by show 8-(j+1)<8-j;omega) ?_ (.keep _ _ _ _ _ _ (fun o h=>?_) (.nil _))
     · dsimp only
       rw[show(7-((j+1:Nat):Int))=((7-j:Nat):Int)-1 by omega]
       exact Y269
     · dsimp only
       rw[take_one _ 0 (by rw[hb8];exact hj'),<- hb,<- List.append_assoc,List.map_append]
       exact h
   · have hj0:¬ (0:Int)<=7-j:=of_decide_eq_false h
     obtain rfl:j=8:=by omega
     clear h hj hj0
     repeat(first|refine JL.q Y672 rfl ?_|refine JC.region ?_|refine JC.exit ?_|refine JL.nil ?_|refine JE.next ?_|refine JE.ah ?_|refine JE.ak ?_|refine JE.aC ?_)
     refine JE.again (i:=(i,b,cap)) (i+1,b,cap) Y717 Y718 Y640 (.keep _ _ _ _ _ _ (fun o h=>?_) (.nil _))
     dsimp only
     rw[eT]
     exact h
 · have hi':¬ i<s.l.length:=of_decide_eq_false h
   obtain rfl:i=s.l.length:=by omega
   clear h hi hi'
   rw[List.take_length]
   have hbl:=zj s.l
   have hle:=Qu s.l
   have epad:kY (qS s.l)=qS s.l++List.replicate (q7 (8*s.l.length)) 0:=by rw[kY,zj]
   have hpad:q7 (8*s.l.length)<6/\(8*s.l.length+q7 (8*s.l.length))%6=0/\∀ j,j<q7 (8*s.l.length)->¬ (8*s.l.length+j)%6=0:=by
    unfold q7
    refine⟨by omega,by omega,fun j hj=>by omega⟩
   generalize hT:qS s.l=T at hbl epad⊢
   generalize q7 (8*s.l.length)=p at epad hpad
   obtain⟨hp1,hp2,hp3⟩:=hpad
   refine Y161 ?_
   refine JC.loop (fun q:Nat × Nat × Nat=>[(3,.slice (some ⟨q.2.1,0,none⟩) (8*s.l.length+q.1) q.2.2)])
    (fun q=>[⟨q.2.1,Sl.Own 3 1 (8*s.l.length+q.1) q.2.2 ((T++List.replicate q.1 0).map N),true⟩])
    (fun q=>p-q.1) (fun q=>q.1<=p) (0,b,cap) (by show 0<=p;omega) Y640 (.keep _ _ _ _ _ _ (fun o h=>by simpa using h) (.nil _)) ?_
   rintro⟨j,b,cap⟩ hj
   simp only at hj
   dsimp only
   refine Y162 ?_
   refine JC.cond rfl (fun h=>?_) (fun h=>?_)
   · have h6:¬ (8*s.l.length+j)%6=0:=by simpa using h
     have hj':j<p:=by
      refine Nat.lt_of_le_of_ne hj fun e=>h6 ?_
      rw[e];exact hp2
     clear h h6
     refine Y163 ?_
     refine JL.gi (xs:=(T++List.replicate j 0).map N) (fun b' cap'=>[⟨b',Sl.Own 3 1 (8*s.l.length+j+1) cap' ((T++List.replicate j 0).map N++[N 0]),true⟩]) Tryz.underlying98 Qt rfl rfl rfl rfl (fun _=>rfl) Y642 Y609 Y609 rfl rfl fun bl b' cap'=>?_
     refine Y130 ?_
     refine JE.again (i:=(j,b,cap)) (j+1,b',cap') (by show j+1<=p;omega) (by show p-(j+1)<p-j;omega) Y640 (.keep _ _ _ _ _ _ (fun o h=>?_) (.nil _))
     dsimp only
     rw[List.replicate_succ',<- List.append_assoc,List.map_append]
     exact h
   · have h6:(8*s.l.length+j)%6=0:=by simpa using h
     have hj':j=p:=by
      rcases Nat.lt_or_eq_of_le hj with e|e
      · exact absurd h6 (hp3 j e)
      · exact e
     subst hj'
     clear h h6 hj hp3
     rw[<- epad]
     have hPl:(kY T).length=8*s.l.length+j:=by rw[epad,List.length_append,hbl,List.length_replicate]
     have eR:zk s.l=sx (kY T)++List.replicate ((4-(sx (kY T)).length%4)%4) 61:=by rw[zk,hT]
     rw[eR]
     clear eR
     rw[hT] at hle
     generalize kY T=Pd at hle hPl⊢
     clear epad hbl hT
     generalize hLp:8*s.l.length+j=Lp at hp2 hPl⊢
     have hLp2:Lp<=32000018:=by omega
     clear hLp
     repeat refine Y105 ?_
     refine JL.MO Tryz.underlying22 dV rfl fun b6 _=>?_
     refine Y7 ?_
     refine JC.loop (fun q:Nat × Nat × Nat=>[(3,.slice (some ⟨b,0,none⟩) Lp cap),(6,.slice (some ⟨q.2.1,0,none⟩) q.1 q.2.2),(7,N (6*q.1))])
      (fun q=>[⟨q.2.1,Sl.Own 5 1 q.1 q.2.2 ((sx (Pd.take (6*q.1))).map U8),true⟩,⟨b,Sl.Own 3 1 Lp cap (Pd.map N),true⟩])
      (fun q=>Lp-6*q.1) (fun q=>6*q.1<=Lp) (0,b6,0) (by show 6*0<=Lp;omega) Y640 (.keep _ _ _ _ _ _ (by rw[Nat.mul_zero,List.take_zero,Ri];exact p7 rfl) (.keep _ _ _ _ _ _ (fun _ h=>h) (.nil _))) ?_
     rintro⟨g,b6,cap6⟩ hg
     simp only at hg
     refine Y77 ?_
     refine JC.cond rfl (fun h=>?_) (fun h=>?_)
     · have hg0:6*g<Lp:=of_decide_eq_true h
       have hg':6*g+6<=Lp:=by omega
       clear h hg hg0
       have eX:=NZ Pd (g:=g) Y609
       have hv:=fun k=>Qv hle (6*g) k
       have hx:∀ k,k<6->(Pd.map N)[6*g+k]?=some (N (Pd.getD (6*g+k) 0)):=fun k hk=>Sn Y609
       have hone:∀ k,k<6->Pd.getD (6*g+k) 0<=1:=fun k hk=>by
        have e:Pd[6*g+k]?=some (Pd.getD (6*g+k) 0):=by rw[List.getD_eq_getElem?_getD,List.getElem?_eq_getElem Y609];rfl
        exact hle _ (List.mem_of_getElem? e)
       have hvt:∀ k,k<6->val ((Pd.drop (6*g)).take (k+1))=2*val ((Pd.drop (6*g)).take k)+Pd.getD (6*g+k) 0:=fun k hk=>Ld Pd (6*g) Y609
       generalize sx (Pd.take (6*g))=X at eX⊢
       refine Y76 ?_
       refine JC.loop (fun k:Nat=>[(3,.slice (some ⟨b,0,none⟩) Lp cap),(6,.slice (some ⟨b6,0,none⟩) g cap6),(7,N (6*g)),(8,N (val ((Pd.drop (6*g)).take k))),(9,N k)])
        (fun _=>[⟨b6,Sl.Own 5 1 g cap6 (X.map U8),true⟩,⟨b,Sl.Own 3 1 Lp cap (Pd.map N),true⟩])
        (fun k=>6-k) (fun k=>k<=6) 0 Y609 Y640 (aj.refl _) ?_
       intro k hk
       refine Y114 ?_
       refine JC.cond rfl (fun h=>?_) (fun h=>?_)
       · have hk':k<6:=of_decide_eq_true h
         clear h hk
         have c1:=hx k hk'
         have c2:=hone k hk'
         have c3:=hv k
         have c4:=hvt k hk'
         have p6:2 ^ k<=2 ^ 6:=Nat.pow_le_pow_right Y610 Y609
         generalize Pd.getD (6*g+k) 0=y at c1 c2 c4
         generalize hV:val ((Pd.drop (6*g)).take k)=V at c3 c4⊢
         have hVb:V<64:=by omega
         repeat(first|refine JL.q (by first|(apply OQ.pX;exact Tryz.underlying98;exact Tw;rfl;rfl;exact(show 6*g+k<Lp by omega))|(apply OQ.load;exact Tx;rfl;exact(.there .here);exact(Sl.Own.cell c1))|exact Y323|exact Y324|exact Y337|exact Y471) rfl ?_|refine JC.seq ?_|refine JC.region ?_|refine JC.block ?_|refine JC.skip ?_|refine JL.nil ?_|refine JE.next ?_|refine JE.ah ?_)
         refine JE.again (i:=k) (k+1) Y609 Y609 ?_ (aj.refl _)
         rw[c4]
         exact Y269
       · have hk':¬ k<6:=of_decide_eq_false h
         obtain rfl:k=6:=by omega
         clear h hk hk' hx hone hvt
         have hV:=hv 6
         clear hv
         generalize val ((Pd.drop (6*g)).take 6)=V at hV eX⊢
         repeat(first|refine JL.q (by(apply OQ.ru (l:=AP);exact Tryz.underlying9;rfl;rfl;exact(show V<64 from hV))) rfl ?_|refine Y164 ?_)
         refine JL.gi (xs:=X.map U8) (fun b' cap'=>[⟨b',Sl.Own 5 1 (g+1) cap' (X.map U8++[U8 (sg V)]),true⟩,⟨b,Sl.Own 3 1 Lp cap (Pd.map N),true⟩]) Tryz.underlying22 dV rfl rfl rfl rfl (fun _=>rfl) Y642 Y609 Y609 rfl rfl fun bl b' cap'=>?_
         refine Y18 ?_
         refine JE.again (i:=(g,b6,cap6)) (g+1,b',cap') (by show 6*(g+1)<=Lp;omega) (by show Lp-6*(g+1)<Lp-6*g;omega) Y640 (.keep _ _ _ _ _ _ (fun o h=>?_) (.keep _ _ _ _ _ _ (fun _ h=>h) (.nil _)))
         dsimp only
         rw[eX,List.map_append]
         exact h
     · have hg0:¬ 6*g<Lp:=of_decide_eq_false h
       have hg':6*g=Lp:=by omega
       clear h hg hg0
       rw[hg',List.take_of_length_le Y609]
       have hXl:(sx Pd).length=g:=by rw[Jg];omega
       have hgb:g<=5333340:=by omega
       generalize sx Pd=X at hXl⊢
       have hp4:(4-X.length%4)%4<4/\(g+(4-X.length%4)%4)%4=0/\∀ j,j<(4-X.length%4)%4->¬ (g+j)%4=0:=by
        rw[hXl]
        refine⟨by omega,by omega,fun j hj=>by omega⟩
       generalize (4-X.length%4)%4=q4 at hp4⊢
       obtain⟨hq1,hq2,hq3⟩:=hp4
       clear hle hPl hp2 hg' hLp2
       refine Y161 ?_
       refine JC.loop (fun q:Nat × Nat × Nat=>[(6,.slice (some ⟨q.2.1,0,none⟩) (g+q.1) q.2.2)])
        (fun q=>[⟨q.2.1,Sl.Own 5 1 (g+q.1) q.2.2 ((X++List.replicate q.1 61).map U8),true⟩])
        (fun q=>q4-q.1) (fun q=>q.1<=q4) (0,b6,cap6) (by show 0<=q4;omega) Y640 (.keep _ _ _ _ _ _ (fun o h=>by simpa using h) (.nil _)) ?_
       rintro⟨j,b6,cap6⟩ hj
       simp only at hj
       dsimp only
       refine Y162 ?_
       refine JC.cond rfl (fun h=>?_) (fun h=>?_)
       · have h6:¬ (g+j)%4=0:=by simpa using h
         have hj':j<q4:=by
          refine Nat.lt_of_le_of_ne hj fun e=>h6 ?_
          rw[e];exact hq2
         clear h h6
         refine Y163 ?_
         refine JL.gi (v:=U8 61) (xs:=(X++List.replicate j 61).map U8) (fun b' cap'=>[⟨b',Sl.Own 5 1 (g+j+1) cap' ((X++List.replicate j 61).map U8++[U8 61]),true⟩]) Tryz.underlying22 dV rfl rfl rfl rfl (fun _=>rfl) Y642 Y609 Y609 rfl rfl fun bl b' cap'=>?_
         refine Y130 ?_
         refine JE.again (i:=(j,b6,cap6)) (j+1,b',cap') (by show j+1<=q4;omega) (by show q4-(j+1)<q4-j;omega) Y640 (.keep _ _ _ _ _ _ (fun o h=>?_) (.nil _))
         dsimp only
         rw[List.replicate_succ',<- List.append_assoc,List.map_append]
         exact h
       · have h6:(g+j)%4=0:=by simpa using h
         have hj':j=q4:=by
          rcases Nat.lt_or_eq_of_le hj with e|e
          · exact absurd h6 (hq3 j e)
          · exact e
         subst hj'
         clear h h6 hj hq3
         have hlen:g+j=(X++List.replicate j 61).length:=by rw[List.length_append,List.length_replicate,hXl]
         rw[hlen]
         generalize X++List.replicate j 61=Y
         repeat(first|refine JL.q (by(apply OQ.wU (s:=⟨some ⟨b6,0,none⟩,cap6,Y⟩);exact Tryz.underlying22;exact Tryz.underlying5;exact Tryz.underlying9;rfl;exact(fun w' hw'=>ku hw' .here))) rfl ?_|refine Y19 ?_)
         refine JC.ret (JE.aK rfl (RV.tmp rfl) ?_)
         exact Y266
section
variable {P:Program} {n:Nat} {E:Env} {C:World->Prop} {dst:Option Tmp} {ty t t':TypeId} {pos:String} {aft:Array Edge} {g:Option (Nat × Bool)} {x y:Operand}
end
def mI(o:Option (List bQ.By)):Nat:=match o with|some _=>0|none=>3
theorem wj{e:TypeId}{b cap:Nat}{Y:List Bt}:aj (ay.an ⟨some ⟨b,0,none⟩,cap,Y⟩) [⟨b,Sl.Own e 1 Y.length cap (Y.map U8),true⟩]:=
 .keep _ _ _ _ _ _ (fun o h=>⟨Sl.Own.cells o h,by obtain⟨_,_,_,_,h4⟩:=h;exact h4,rfl⟩) (.nil _)
theorem Ce(s:ay)(w:World)(hs:s.ok w)(hl:s.l.length<=1000000):Calls Tryz.prog 54 [s.v].toArray w
  fun e w'=>∃ x:ay,e=.returned x.v/\iP x (e6 s.l)/\aa w [] x.an w':=by
 have cE:=fun w' (h:s.ok w')=>Cd s w' h Y609
 have eL:e6 s.l=ou (bC s.l) (bC s.l).length:=rfl
 have hel:=jX s.l
 rw[eL]
 generalize bC s.l=S at cE hel⊢
 have hSl:S.length<=1333336:=by omega
 clear eL hel
 refine enter (n:=35) Tryz.func54 rfl rfl rfl (aa.start w []) ?_
 repeat(first|refine JL.q (by(apply OQ.ai (vs:=[s.v]);exact HS;rfl;exact(fun w' hw'=>cE w' (hs.holds hw' rfl)))) rfl ?_|refine Y0 ?_)
 refine JL.MO Tryz.underlying22 dV rfl fun b0 _=>?_
 refine Y7 ?_
 refine JC.loop (fun q:Nat × Nat × Nat=>[(3,Z S),(4,.slice (some ⟨q.2.1,0,none⟩) (ou S q.1).length q.2.2),(5,N q.1)])
  (fun q=>[⟨q.2.1,Sl.Own 5 1 (ou S q.1).length q.2.2 ((ou S q.1).map U8),true⟩])
  (fun q=>S.length-q.1) (fun q=>q.1<=S.length) (0,b0,0) (by show 0<=S.length;omega) Y640 (.keep _ _ _ _ _ _ (p7 rfl) (.nil _)) ?_
 rintro⟨i,b,cap⟩ hi
 simp only at hi
 refine Y8 ?_
 refine JC.cond rfl (fun h=>?_) (fun h=>?_)
 · have hi':i<S.length:=of_decide_eq_true h
   clear h hi
   have hLl:=tE S i
   have eN:ou S (i+1)=ou S i++S.getD i 0::(if i%76=75\/i+1=S.length then [13,10] else []):=rfl
   generalize ou S i=T at hLl eN⊢
   generalize hc:S.getD i 0=c at eN
   repeat(first|refine JL.q (by first|(apply OQ.ru (l:=S);exact Tryz.underlying9;rfl;rfl;exact hi')|exact Y323) rfl ?_|refine JC.seq ?_|refine JC.region ?_|refine JC.block ?_|refine JC.skip ?_|refine JE.next ?_)
   rw[hc]
   refine JL.gi (xs:=T.map U8) (fun b' cap'=>[⟨b',Sl.Own 5 1 (T.length+1) cap' (T.map U8++[U8 c]),true⟩]) Tryz.underlying22 dV rfl rfl rfl rfl (fun _=>rfl) Y642 Y609 Y609 rfl rfl fun bl b1 cap1=>?_
   by_cases q1:i%76=75
   · rw[if_pos (Or.inl q1)] at eN
     have eNl:(ou S (i+1)).length=T.length+1+2:=by rw[eN,List.length_append];rfl
     repeat(first|refine JL.q (by first|(apply OQ.xL;rfl;rfl;exact(show((i%76:Nat):Int)=75 by omega))|exact Y330|exact Y323|exact Y324|exact Y430) rfl ?_|refine JC.seq ?_|refine JC.region ?_|refine JL.nil ?_|refine JE.next ?_|refine JL.aM rfl rfl rfl rfl ?_)
     refine Y271 ?_
     refine Y17 ?_
     refine JL.JM (v1:=U8 13) (v2:=U8 10) (xs:=T.map U8++[U8 c]) (fun b' cap'=>[⟨b',Sl.Own 5 1 (T.length+1+2) cap' (T.map U8++[U8 c]++[U8 13,U8 10]),true⟩]) Tryz.underlying22 dV rfl rfl rfl rfl rfl rfl rfl (fun _=>rfl) Y642 Y609 Y609 rfl rfl fun bl b2 cap2=>?_
     refine Y18 ?_
     refine JE.again (i:=(i,b,cap)) (i+1,b2,cap2) Y717 Y719 ?_ (.keep _ _ _ _ _ _ (fun o h=>?_) (.nil _))
     · dsimp only
       rw[eNl]
       exact Y269
     · dsimp only
       rw[eNl,eN,List.map_append]
       simpa using h
   · by_cases q2:i+1=S.length
     · rw[if_pos (Or.inr q2)] at eN
       have eNl:(ou S (i+1)).length=T.length+1+2:=by rw[eN,List.length_append];rfl
       repeat(first|refine JL.q (by first|exact Y472|(apply OQ.xL;rfl;rfl;exact(show((i:Nat):Int)=((S.length-1:Nat):Int) by omega))) rfl ?_|refine JL.bG rfl rfl ?_|refine Y165 ?_)
       refine Y271 ?_
       refine Y17 ?_
       refine JL.JM (v1:=U8 13) (v2:=U8 10) (xs:=T.map U8++[U8 c]) (fun b' cap'=>[⟨b',Sl.Own 5 1 (T.length+1+2) cap' (T.map U8++[U8 c]++[U8 13,U8 10]),true⟩]) Tryz.underlying22 dV rfl rfl rfl rfl rfl rfl rfl (fun _=>rfl) Y642 Y609 Y609 rfl rfl fun bl b2 cap2=>?_
       refine Y18 ?_
       refine JE.again (i:=(i,b,cap)) (i+1,b2,cap2) Y717 Y719 ?_ (.keep _ _ _ _ _ _ (fun o h=>?_) (.nil _))
       · dsimp only
         rw[eNl]
         exact Y269
       · dsimp only
         rw[eNl,eN,List.map_append]
         simpa using h
     · rw[if_neg Y609] at eN
       have eNl:(ou S (i+1)).length=T.length+1:=by rw[eN,List.length_append];rfl
       repeat(first|refine JL.q (by first|exact Y472|(apply OQ.oB;rfl;rfl;exact(show ¬ ((i:Nat):Int)=((S.length-1:Nat):Int) by omega))) rfl ?_|refine JL.bG rfl rfl ?_|refine Y165 ?_)
       refine Y252 ?_
       refine Y10 ?_
       refine JE.again (i:=(i,b,cap)) (i+1,b1,cap1) Y717 Y719 ?_ (.keep _ _ _ _ _ _ (fun o h=>?_) (.nil _))
       · dsimp only
         rw[eNl]
         exact Y269
       · dsimp only
         rw[eNl,eN,List.map_append]
         exact h
 · have hi':¬ i<S.length:=of_decide_eq_false h
   obtain rfl:i=S.length:=by omega
   clear h hi hi'
   generalize ou S S.length=Y
   refine Y107 ?_
   refine JC.ret (JE.aK rfl (RV.tmp rfl) ?_)
   exact fun w' hw=>⟨⟨some ⟨b,0,none⟩,cap,Y⟩,rfl,⟨rfl,fun h=>by cases h⟩,hw.weak wj⟩
theorem HT(l:List bQ.By){i:Nat}(h:i<l.length):bare (l.take (i+1))=bare (l.take i)++(if bQ.blank (l.getD i 0) then [] else [l.getD i 0]):=by
 rw[take_one l 0 h,su]
 congr 1
 generalize l.getD i 0=c
 cases h:bQ.blank c <;> simp[bare,h]
theorem AK(l:List bQ.By):(bare l).length<=l.length:=List.length_filter_le ..
end
section
open Sl bQ
theorem xh:aJ Tryz.prog 143:=⟨_,Tryz.func143,rfl,by kernel_rfl⟩
theorem qH:aJ Tryz.prog 88:=⟨_,Tryz.func88,rfl,by kernel_rfl⟩
theorem HU:aJ Tryz.prog 48:=⟨_,Tryz.func48,rfl,by kernel_rfl⟩
theorem N0{g:List bQ.By}(h:g.length<=3):([0,0,0]:List bQ.By).take 0++g.take (min g.length 3)++([0,0,0]:List bQ.By).drop (0+min g.length 3)=Ql g:=by
 match g,h with
 | [],_=>rfl
 | [a],_=>rfl
 | [a,b],_=>rfl
 | [a,b,c],_=>rfl
theorem HV(g:List bQ.By){i:Nat}(h:i<4):(kT g).take (i+1)=(kT g).take i++[IY g i]:=by
 match i,h with
 | 0,_=>rfl
 | 1,_=>rfl
 | 2,_=>rfl
 | 3,_=>rfl
theorem Ec{s:ay}{w:World}(hs:s.ok w){k j:Nat}(h:(s.part k j).l≠[]){a:Addr}(ha:(s.part k j).ad=some a):a.block<w.heap.size:=(tU hs k j).lt h a ha
theorem OY(l:List Bt):∀ v∈l.map U8,v.oneCell'=true:=by
 intro v hv
 obtain⟨x,_,rfl⟩:=List.mem_map.1 hv
 rfl
theorem So{v:BitVec 32}{m:Nat}(h:v.toNat=m)(hm:m<64):v.toNat<AP.length/\AP.getD v.toNat 0=sg m:=by
 subst h
 exact⟨hm,rfl⟩
theorem Al(b k cap:Nat)(xs:List Bt)(g:ay)(w:World)(hg:g.ok w)(h3:g.l.length<=3)(hne:g.l≠[]->∀ a,g.ad=some a->a.block≠b){o:Obj}(ho:w.heap[b]?=some o)(hA:Sl.Own 5 1 k cap (xs.map U8) o)(hk:k<=1000000000) :
  Calls Tryz.prog 143 [.slice (some ⟨b,0,none⟩) k cap,g.v].toArray w fun e w'=>∃ q:Nat × Nat,e=.returned (.slice (some ⟨q.1,0,none⟩) (k+4) q.2)/\aa w [b] [⟨q.1,Sl.Own 5 1 (k+4) q.2 ((xs++kT g.l).map U8),true⟩] w':=by
 refine enter (n:=46) Tryz.func143 rfl rfl rfl (aa.one ho hA) ?_
 have hrd:∀ {M:List aL} w',aa w [b] M w'->Reads w' g.ad (g.l.map U8):=fun w' hw'=>hw'.reads hg.reads (fun h a ha=>by simpa using hne Y616 a ha)
 refine Y3 ?_
 refine JL.alloc (r:=([0,0,0]:List bQ.By).map U8) Y636 rfl fun c _=>?_
 repeat(first|refine JL.q (by(apply OQ.Uf;exact Tryz.underlying209;exact dD;rfl)) rfl ?_|refine Y36 ?_)
 refine JL.copy (r':=(Ql g.l).map U8) (cs:=g.l.map U8) (M':=[⟨c,Row 209 ((Ql g.l).map U8),true⟩,⟨b,Sl.Own 5 1 k cap (xs.map U8),true⟩]) Tryz.underlying22 dD rfl rfl .here Y614 (fun w' hw'=>hrd w' hw') (OY _) Y624 (by rw[<- List.map_take,<- List.map_drop,<- List.map_take,<- List.map_append,<- List.map_append,N0 h3]) rfl ?_
 repeat(first|refine JL.q (by first|(apply OQ.load;exact mM;rfl;exact .here;exact(Row.cell (v:=U8 (g.l.getD 0 0)) rfl))|(apply OQ.load;exact mM;rfl;exact .here;exact(Row.cell (v:=U8 (g.l.getD 1 0)) rfl))|(apply OQ.load;exact mM;rfl;exact .here;exact(Row.cell (v:=U8 (g.l.getD 2 0)) rfl))|exact Y323|exact Y324|(apply OQ.Ry;rfl;rfl)|(apply OQ.OC;rfl;rfl)|(apply OQ.Jz;rfl;rfl;rfl)|(apply OQ.xK;rfl;rfl;rfl;rfl;exact Y720)) rfl ?_|refine JC.seq ?_|refine JC.region ?_|refine JC.block ?_|refine JL.nil ?_|refine JE.next ?_)
 have hn:=K6 g.l
 generalize (((g.l.getD 0 0).setWidth 32 <<< 16) ||| ((g.l.getD 1 0).setWidth 32 <<< 8)) ||| (g.l.getD 2 0).setWidth 32=nn at hn⊢
 have hsg:∀ i,i<4->¬ g.l.length<i->(nn >>> (6*(3-i)) &&& 63#32).toNat<AP.length/\AP.getD (nn >>> (6*(3-i)) &&& 63#32).toNat 0=IY g.l i:=fun i _ hlen=>by
  have:=So (hn (6*(3-i))) (Nat.mod_lt _ Y610)
  refine⟨this.1,this.2.trans ?_⟩
  rw[IY,if_neg hlen]
 have hfl:∀ i,g.l.length<i->IY g.l i=61:=fun i h=>by rw[IY,if_pos h]
 clear hn
 skip
 refine JC.loop (fun q:Nat × Nat × Nat=>[(0,.slice (some ⟨q.2.1,0,none⟩) (k+q.1) q.2.2),(1,g.v),(6,zw nn),(24,N q.1)])
  (fun q=>[⟨q.2.1,Sl.Own 5 1 (k+q.1) q.2.2 ((xs++(kT g.l).take q.1).map U8),true⟩])
  (fun q=>4-q.1) (fun q=>q.1<=4) (0,b,cap) (by show 0<=4;omega) Y640 (.drop _ _ _ (.keep _ _ _ _ _ _ (fun o h=>by simpa using h) (.nil _))) ?_
 rintro⟨i,b',cap'⟩ hi
 simp only at hi
 dsimp only
 refine Y22 ?_
 refine JC.cond rfl (fun h=>?_) (fun h=>?_)
 · have hi':i<4:=of_decide_eq_true h
   clear h hi
   have eS:=HV g.l hi'
   have hs:=hsg i hi'
   generalize (kT g.l).take i=T at eS⊢
   repeat(first|refine JL.q (by first|exact Y323|exact Y324|exact Y378|(apply OQ.uH;rfl;rfl)) rfl ?_|refine JC.seq ?_|refine JC.region ?_|refine JC.block ?_|refine JC.skip ?_|refine JL.nil ?_|refine JE.next ?_)
   refine JC.cond rfl (fun h=>?_) (fun h=>?_)
   · have hlt:g.l.length<i:=of_decide_eq_true h
     clear h
     rw[hfl i hlt] at eS
     refine Y61 ?_
     refine JL.gi (xs:=(xs++T).map U8) (v:=U8 61) (fun b'' cap''=>[⟨b'',Sl.Own 5 1 (k+i+1) cap'' ((xs++T).map U8++[U8 61]),true⟩]) Tryz.underlying22 dV rfl rfl rfl rfl (fun _=>rfl) Y642 Y609 Y609 rfl rfl fun bl b'' cap''=>?_
     refine Y70 ?_
     refine JE.again (i:=(i,b',cap')) (i+1,b'',cap'') (by show i+1<=4;omega) Y721 Y640 (.keep _ _ _ _ _ _ (fun o h=>?_) (.nil _))
     dsimp only
     rw[eS,<- List.append_assoc,List.map_append]
     exact h
   · have hlt:¬ g.l.length<i:=of_decide_eq_false h
     clear h
     obtain⟨hs1,hs2⟩:=hs hlt
     rw[<- hs2] at eS
     repeat(first|refine JL.q (by first|(apply OQ.Rx (b:=63#32);rfl;rfl)|(apply OQ.ru (l:=AP);exact Tryz.underlying9;rfl;rfl;exact hs1)|exact Y323|(apply OQ.OD;rfl;rfl)|exact Y338|exact Y471) rfl ?_|refine JC.region ?_|refine JC.skip ?_|refine JE.next ?_)
     refine JL.gi (xs:=(xs++T).map U8) (fun b'' cap''=>[⟨b'',Sl.Own 5 1 (k+i+1) cap'' ((xs++T).map U8++[U8 (AP.getD (nn >>> (6*(3-i)) &&& 63#32).toNat 0)]),true⟩]) Tryz.underlying22 dV rfl rfl rfl rfl (fun _=>rfl) Y642 Y609 Y609 rfl rfl fun bl b'' cap''=>?_
     refine Y18 ?_
     refine JE.again (i:=(i,b',cap')) (i+1,b'',cap'') (by show i+1<=4;omega) Y721 Y640 (.keep _ _ _ _ _ _ (fun o h=>?_) (.nil _))
     dsimp only
     rw[eS,<- List.append_assoc,List.map_append]
     exact h
 · have hi':¬ i<4:=of_decide_eq_false h
   obtain rfl:i=4:=by omega
   clear h hi hi'
   refine Y107 ?_
   refine JC.ret (JE.aK rfl (RV.tmp rfl) ?_)
   exact fun w' hw=>⟨(b',cap'),rfl,hw⟩
theorem Ed:gX Tryz.prog 22=some 1:=by kernel_rfl
theorem Cf:gD Tryz.prog 22=true:=by kernel_rfl
theorem gQ{e:TypeId}{l:List Value}:∀ o,Row e l o->o.isCells=true:=by rintro o rfl;rfl
theorem rX{e:TypeId}{k cap:Nat}{l:List Value}:∀ o,Sl.Own e 1 k cap l o->o.isCells=true:=by rintro o ⟨_,rfl,_⟩;rfl
theorem Sq(s:ay)(k:Nat)(pre:List Nat)(j:Nat):(pre++[j]).flatMap (fun j=>kT (s.part k j).l)=pre.flatMap (fun j=>kT (s.part k j).l)++kT (s.part k j).l:=by simp
theorem sY(s:ay)(w:World)(hs:s.ok w)(hl:s.l.length<=100000):Calls Tryz.prog 88 [s.v].toArray w
  fun e w'=>∃ x:ay,e=.returned x.v/\iP x (bC s.l)/\aa w [] x.an w':=by
 have hp3:parts s 3<=100000:=by unfold parts;omega
 refine Ab (n:=18) Tryz.func88 rfl rfl rfl (aa.start w []) ?_
 refine Y166 ?_
 refine JL.uO (c:=(s.l.length / 3+1)*4) Tryz.underlying22 dV rfl rfl Y609 rfl fun b _=>?_
 refine JL.alloc (r:=[.slice none 0 0]) (by kernel_rfl) rfl fun tb _=>?_
 refine JL.aP (r':=[.slice (some ⟨b,0,none⟩) 0 ((s.l.length / 3+1)*4)]) (M':=[⟨tb,Row 22 [.slice (some ⟨b,0,none⟩) 0 ((s.l.length / 3+1)*4)],true⟩,⟨b,Sl.Own 5 1 0 ((s.l.length / 3+1)*4) [],true⟩]) Ed rfl rfl rfl rfl .here Y610 rfl ?_
 refine Y60 ?_
 refine JL.bD (ι:=Nat × Nat) (fun q=>.func (.func 197) #[] #[Pt q.1 0,Pt q.2 0]) (fun q=>[⟨q.2,Row 3 [N 3],true⟩,⟨q.1,Row 22 [s.v],true⟩]) nv rfl rfl Y722 (fun w' _=>oZ s 3 w') ?_
 rintro⟨b1,b2⟩
 dsimp only
 refine Y134 ?_
 refine JC.range (ι:=Nat × Nat × List Nat) (fun j=>(s.part 3 j).v) [b1,b2] (fun xs=>xs=List.range (parts s 3)) (fun _=>True) (parts s 3)
  (fun q=>[⟨b2,Row 3 [N 3],false⟩,⟨b1,Row 22 [s.v],false⟩,⟨tb,Row 22 [.slice (some ⟨q.1,0,none⟩) (4*q.2.2.length) q.2.1],true⟩,⟨q.1,Sl.Own 5 1 (4*q.2.2.length) q.2.1 ((q.2.2.flatMap fun j=>kT (s.part 3 j).l).map U8),true⟩])
  (fun pre q=>q.2.2=pre) rfl (enters_of Tryz.func197 Y636 rfl) ?hseq ?hcell ?hL (b,(s.l.length / 3+1)*4,[]) rfl ?hM rfl rfl ?hbody ?hdone
 case hseq=>
  intro W hW
  obtain⟨o1,h1,h1'⟩:=hW.get (b:=b1) (A:=Row 22 [s.v]) (wr:=true) Y697
  obtain⟨o2,h2,h2'⟩:=hW.get (b:=b2) (A:=Row 3 [N 3]) (wr:=true) Y697
  exact mm s 3 b1 b2 Y610 hs.len Y609 W h1 (Row.cell rfl _ h1') h2 (Row.cell rfl _ h2')
 case hcell=>
  rintro q e he o hA
  simp only[List.mem_cons,List.not_mem_nil,or_false] at he
  rcases he with rfl|rfl|rfl|rfl
  · exact gQ o hA
  · exact gQ o hA
  · exact gQ o hA
  · exact rX o hA
 case hL=>
  intro q k hk
  simp only[List.mem_cons,List.not_mem_nil,or_false] at hk
  rcases hk with rfl|rfl
  · exact Y287
  · exact Y287
 case hM=>
  intro w' hw'
  exact hw'.FN (.keep _ _ _ _ _ _ _ (fun _ h=>h) Y614 (.keep _ _ _ _ _ _ _ (fun _ h=>h) Y614 (.keep _ _ _ _ _ _ _ (fun _ h=>h) Y614 (.keep _ _ _ _ _ _ _ (fun _ h=>h) Y614 (.nil _)))))
 case hbody=>
  rintro l pre j ⟨b',cap',pre'⟩ w1 rfl hlt hx hge
  dsimp only at hlt hge⊢
  repeat(first|refine JL.q (by exact Y473) rfl ?_|refine JR.region rfl Y698 ?_|refine Y167 ?_)
  refine JL.call (ι:=Nat × Nat) (fun q=>.slice (some ⟨q.1,0,none⟩) (4*pre'.length+4) q.2) (fun q=>[⟨b2,Row 3 [N 3],false⟩,⟨b1,Row 22 [s.v],false⟩,⟨tb,Row 22 [.slice (some ⟨b',0,none⟩) (4*pre'.length) cap'],true⟩,⟨q.1,Sl.Own 5 1 (4*pre'.length+4) q.2 ((pre'.flatMap (fun j=>kT (s.part 3 j).l)++kT (s.part 3 j).l).map U8),true⟩]) xh rfl rfl ?_ ?_
  · intro w' hw'
    obtain⟨o,ho,hA⟩:=hw'.get (b:=b') (wr:=true) (A:=Sl.Own 5 1 (4*pre'.length) cap' ((pre'.flatMap fun j=>kT (s.part 3 j).l).map U8)) Y697
    have hok:=hs.ext (hw'.FO hx hge)
    refine(Al b' _ cap' _ (s.part 3 j) w' (tU hok 3 j) (by show(List.take _ _).length<=3;rw[List.length_take];omega) ?_ ho hA Y609).mono ?_
    · intro hne a ha
      have:=hge b' (by simp[AF])
      have:=Ec hs hne ha
      omega
    · rintro e w2 ⟨q,rfl,h2⟩
      exact Y288
  rintro⟨b'',cap''⟩
  dsimp only
  refine JL.aP (r':=[.slice (some ⟨b'',0,none⟩) (4*pre'.length+4) cap'']) (M':=[⟨b2,Row 3 [N 3],false⟩,⟨b1,Row 22 [s.v],false⟩,⟨tb,Row 22 [.slice (some ⟨b'',0,none⟩) (4*pre'.length+4) cap''],true⟩,⟨b'',Sl.Own 5 1 (4*pre'.length+4) cap'' ((pre'.flatMap (fun j=>kT (s.part 3 j).l)++kT (s.part 3 j).l).map U8),true⟩]) Ed rfl rfl rfl rfl Y703 Y614 rfl ?_
  refine Y140 ?_
  refine JE.round (b'',cap'',pre'++[j]) rfl ?_
  dsimp only
  rw[Sq,List.length_append,List.length_singleton,Nat.mul_add]
  exact aj.refl _
 case hdone=>
  rintro D xs ⟨b',cap',pre⟩ rfl rfl
  dsimp only
  have e:(List.range (parts s 3)).flatMap (fun j=>kT (s.part 3 j).l)=bC s.l:=Qm s.l
  rw[e,List.length_range]
  have e2:4*parts s 3=(bC s.l).length:=by rw[jX];unfold parts;omega
  rw[e2]
  repeat(first|refine KL.q Y723 rfl ?_|refine Y168 ?_)
  refine KC.ret ?_
  refine KE.aK rfl rfl fun w' hw=>?_
  exact⟨⟨some ⟨b',0,none⟩,cap',bC s.l⟩,rfl,⟨rfl,by simp⟩,hw.weak (.drop _ _ _ (.drop _ _ _ (.drop _ _ _ wj)))⟩
theorem Cg(s:ay)(w:World)(hs:s.ok w)(hl:s.l.length<=60000):Calls Tryz.prog 48 [s.v].toArray w fun e w'=>e=.returned (Z (bC s.l))/\Ext w w':=by
 refine enter (n:=6) Tryz.func48 rfl rfl rfl (aa.start w []) ?_
 refine Y24 ?_
 refine Y289 ?_
 rintro⟨x,hx⟩
 dsimp only
 repeat(first|refine JL.q (by(apply OQ.wU;exact Tryz.underlying22;exact Tryz.underlying5;exact Tryz.underlying9;rfl;exact(fun w' hw'=>hx.ok hw'))) rfl ?_|refine Y27 ?_)
 refine JC.ret (JE.aK rfl (RV.tmp rfl) ?_)
 exact fun w' hw=>⟨by rw[hx.val],hw.aH⟩
def ix(c:Bt):Int:=firstIdx (bP AP) (c.toNat:Int).toNat.toUInt8
theorem Sr(c:Bt):max 0 (ix c)=(pl c:Int):=by
 have h:∀ c:Fin 256,max 0 (ix (BitVec.ofNat 8 c.val))=(pl (BitVec.ofNat 8 c.val):Int):=by decide +kernel
 have:=h ⟨c.toNat,c.isLt⟩
 simpa using this
structure OZ (P:Program) (f:FuncId):Prop where
 go:∃ fn,P.funcs[f]?=some fn/\(fn.name=="runtime.NumGoroutine")=false/\fn.body.isNone=true/\Extern.findNext fn=none/\Extern.find fn=some Extern.BytealgIndexByte.indexByte
theorem OQ.Tz{P:Program}{n:Nat}{E:Env}{C:World->Prop}{dst:Option Tmp}{ty:TypeId}{pos:String}{aft:Array Edge}{g:Option (Nat × Bool)}{f:FuncId}{ats:Array TypeId}{x y:Operand}{c:Bt}(hf:OZ P f)(hx:ev E x=some (Z AP))(hy:ev E y=some (U8 c)) :
  OQ P n E C ⟨dst,.call ⟨.value (.func f),#[x,y],ats⟩,ty,pos,aft,g⟩ (.int .i64 (ix c)):=by
 refine⟨fun ac hk w hw=>?_⟩
 obtain⟨fn,h1,h2,h3,h4,h5⟩:=hf.go
 have r:=run_callFunc_extern h1 h2 h3 h4 h5 #[Z AP,U8 c] w
 rw[run_indexByte_string] at r
 unfold Oper.quietAt
 have r':(execOp ac.eval ⟨dst,.call ⟨.value (.func f),#[x,y],ats⟩,ty,pos,aft,g⟩).run P w=.ok (.value (.int .i64 (ix c))) w:=by
  simp only[Result.andThen] at r
  have k1:=hk.eval hx
  have k2:=hk.eval hy
  have e:(.ok (.value (.int .i64 (ix c))) w:Result Next)=(callFunc f #[Z AP,U8 c]).run P w:=r.symm
  rw[e]
  simp[execOp,resolve,Sem.run_bind,Act.eval,Deferred.ofValue,invoke,k1,k2]
  simp[Act.eval] at k1 k2
  simp[k1,k2]
 rw[r']
 exact⟨rfl,rfl⟩
theorem Qw:OZ Tryz.prog 184:=⟨_,Tryz.func184,rfl,rfl,by kernel_rfl,by kernel_rfl⟩
theorem HW:aJ Tryz.prog 127:=⟨_,Tryz.func127,rfl,by kernel_rfl⟩
theorem HX:aJ Tryz.prog 82:=⟨_,Tryz.func82,rfl,by kernel_rfl⟩
theorem Le(c:Bt)(w:World):Calls Tryz.prog 127 [Z AP,U8 c].toArray w fun e w'=>e=.returned (.int .i64 (ix c))/\Ext w w':=by
 refine enter (n:=8) Tryz.func127 rfl rfl rfl (aa.start w []) ?_
 repeat(first|refine JL.q (by(apply OQ.Tz;exact Qw;rfl;rfl)) rfl ?_|refine Y0 ?_)
 exact Y244
theorem Lf(c:Bt)(w:World):Calls Tryz.prog 82 [Z AP,U8 c].toArray w fun e w'=>e=.returned (.int .i64 (ix c))/\Ext w w':=by
 refine enter (n:=8) Tryz.func82 rfl rfl rfl (aa.start w []) ?_
 repeat(first|refine JL.q (by(apply OQ.ai;exact HW;rfl;exact(fun w' _=>Le c w'))) rfl ?_|refine Y0 ?_)
 exact Y244
theorem OQ.TA{P:Program}{n:Nat}{E:Env}{C:World->Prop}{dst:Option Tmp}{ty t t':TypeId}{pos:String}{aft:Array Edge}{g:Option (Nat × Bool)}{x y:Operand}{c:Int}{m:Nat}(hx:ev E x=some (.int .i64 0))(hy:ev E y=some (.int .i64 c))(h:max 0 c=(m:Int)):OQ P n E C ⟨dst,.call ⟨.builtin .max,#[x,y],#[t,t']⟩,ty,pos,aft,g⟩ (N m):=
 OQ.to (OQ.Th hx hy) (by rw[h])
theorem Lg:lead []=0:=rfl
theorem rY(c:bQ.By)(g:List bQ.By):lead (c::g)=if c=61 then 0 else lead g+1:=by
 unfold lead
 rw[List.takeWhile_cons]
 by_cases hc:c=61
 · rw[if_pos hc,hc];rfl
 · rw[if_neg hc,if_pos (bne_iff_ne.2 hc)];rfl
theorem tY:∀ g:List bQ.By,lead g<=g.length
 | []=>Nat.zero_le _
 | c::g=>by
   rw[rY,List.length_cons]
   have:=tY g
   split <;> omega
theorem F6:∀ (g:List bQ.By) {i:Nat},i<lead g->g.getD i 0≠61
 | [],i,h=>by rw[Lg] at h;omega
 | c::g,i,h=>by
   rw[rY] at h
   by_cases hc:c=61
   · rw[if_pos hc] at h;omega
   · rw[if_neg hc] at h
     cases i with
     | zero=>simpa using hc
     | succ i=>
       rw[List.getD_cons_succ]
       exact F6 g Y609
theorem F7:∀ (g:List bQ.By),lead g<g.length->g.getD (lead g) 0=61
 | [],h=>by simp at h
 | c::g,h=>by
   rw[rY] at h⊢
   by_cases hc:c=61
   · rw[if_pos hc];simpa using hc
   · rw[if_neg hc] at h⊢
     rw[List.getD_cons_succ]
     exact F7 g (by rw[List.length_cons] at h;omega)
theorem xj:aJ Tryz.prog 202:=⟨_,Tryz.func202,rfl,by kernel_rfl⟩
theorem wm(g:List bQ.By):(gp g).length=lead g-1:=by simp[gp]
theorem HY(g:List bQ.By)(h4:g.length<=4){i:Nat}(h:i<lead g-1):(gp g).take (i+1)=(gp g).take i++[(BitVec.ofNat 32 (acc g (lead g)) >>> (8*(2-i))).setWidth 8]:=by
 have hl:=tY g
 rw[take_one _ 0 (by rw[wm];exact h),HR (by have:=(bQ.m9 g (i:=lead g) Y609).1;omega)]
 congr 2
 simp[gp,List.getD_eq_getElem?_getD,h]
theorem Am(b k cap:Nat)(xs:List Bt)(g:ay)(w:World)(hg:g.ok w)(h4:g.l.length<=4)(hne:g.l≠[]->∀ a,g.ad=some a->a.block≠b){o:Obj}(ho:w.heap[b]?=some o)(hA:Sl.Own 5 1 k cap (xs.map U8) o)(hk:k<=1000000000) :
  Calls Tryz.prog 202 [.slice (some ⟨b,0,none⟩) k cap,g.v].toArray w fun e w'=>∃ q:Nat × Nat,e=.returned (.slice (some ⟨q.1,0,none⟩) (k+(gp g.l).length) q.2)/\aa w [b] [⟨q.1,Sl.Own 5 1 (k+(gp g.l).length) q.2 ((xs++gp g.l).map U8),true⟩] w':=by
 refine enter (n:=49) Tryz.func202 rfl rfl rfl (aa.one ho hA) ?_
 have hl:=tY g.l
 refine Y85 ?_
 refine JC.p9 (ι:=Unit) (fun _=>[(0,.slice (some ⟨b,0,none⟩) k cap),(5,zw (BitVec.ofNat 32 (acc g.l (lead g.l)))),(6,I ((lead g.l:Int)-1))]) (fun _=>[⟨b,Sl.Own 5 1 k cap (xs.map U8),true⟩]) (fun _=>True) ?_ ?_
 · refine JC.loop (fun i:Nat=>[(0,.slice (some ⟨b,0,none⟩) k cap),(11,g.v),(12,N g.l.length),(13,N i),(5,zw (BitVec.ofNat 32 (acc g.l i))),(6,I ((i:Int)-1))])
    (fun _=>[⟨b,Sl.Own 5 1 k cap (xs.map U8),true⟩]) (fun i=>lead g.l+1-i) (fun i=>i<=lead g.l) 0 (Nat.zero_le _) Y640 (aj.refl _) ?_
   intro i hi
   refine Y22 ?_
   refine JC.cond rfl (fun h=>?_) (fun h=>?_)
   · have hi':i<g.l.length:=of_decide_eq_true h
     clear h
     obtain⟨ba,ja,hae,hca⟩:=hg.reads.at Y624
     have hc:=hca i _ (dF U8 0 hi')
     have hbn:ba≠b:=hne (List.length_pos_iff.1 Y609) ⟨ba,ja,none⟩ hae
     have hav:g.v=.slice (some ⟨ba,ja,none⟩) g.l.length g.cap:=by rw[<- hae];rfl
     have h61:i<lead g.l↔¬ g.l.getD i 0=61:=⟨fun h=>F6 g.l h,fun h=>Nat.lt_of_le_of_ne hi fun e=>h (by rw[e];exact F7 g.l Y609)⟩
     have hacc:=K7 g.l (i:=i) Y609
     have hix:=Sr (g.l.getD i 0)
     generalize g.l.getD i 0=c at hc h61 hacc hix
     rw[hav]
     repeat(first|refine JL.q (by first|exact Y379|(apply OQ.aI;exact mM;rfl;exact(block_lt_of_cell hc);exact(by simpa using hbn);exact hc)|(apply OQ.Pq (b:=61#8);rfl;rfl)) rfl ?_|refine Y93 ?_)
     refine JC.cond rfl (fun h=>?_) (fun h=>?_)
     · have hc61:c=61:=of_decide_eq_true h
       have hil:i=lead g.l:=by
        have:=mt h61.1 (by simpa using hc61)
        omega
       subst hil
       repeat(first|refine JC.exit ?_|refine JE.ak ?_|refine JE.aC ?_|refine JE.uC rfl ?_)
       exact Y262
     · have hc61:¬ c=61:=of_decide_eq_false h
       have hil:=h61.2 hc61
       repeat(first|refine JL.q (by first|(apply OQ.ai (vs:=[Z AP,U8 c]);exact HX;rfl;exact(fun w' _=>Lf c w'))|(apply OQ.JK;rfl;rfl;rfl)|(apply OQ.TA;rfl;rfl;exact hix)|(apply OQ.OC (k:=6*(3-i));rfl;rfl)|(apply OQ.Pu (b:=1);rfl;rfl;exact Y609;exact Y609)|exact Y323|exact Y324|(apply OQ.Ry;rfl;rfl)|exact Y338|exact Y471) rfl ?_|refine JC.seq ?_|refine JC.region ?_|refine JC.skip ?_|refine JL.nil ?_|refine JE.next ?_|refine JE.ah ?_)
       rw[hacc]
       refine JE.again (i:=i) (i+1) hil (by show lead g.l+1-(i+1)<lead g.l+1-i;omega) ?_ (aj.refl _)
       rw[show(((i+1:Nat):Int)-1)=(i:Int)-1+1 by omega]
       exact Y269
   · have hi':¬ i<g.l.length:=of_decide_eq_false h
     have hil:i=lead g.l:=by omega
     subst hil
     refine Y46 ?_
     exact Y262
 intro _ _
 have hT:lead g.l<=4:=by omega
 have htk:=fun {i:Nat} (h:i<lead g.l-1)=>HY g.l h4 h
 have hdl:=wm g.l
 generalize lead g.l=t at hT htk hdl⊢
 generalize BitVec.ofNat 32 (acc g.l t)=nn at htk⊢
 repeat(first|refine JL.q Y652 rfl ?_|refine JC.seq ?_|refine JC.region ?_|refine JC.block ?_|refine JL.nil ?_|refine JE.next ?_)
 refine JC.loop (fun q:Nat × Nat × Nat=>[(0,.slice (some ⟨q.2.1,0,none⟩) (k+q.1) q.2.2),(5,zw nn),(34,I ((t:Int)-1)),(35,N q.1)])
  (fun q=>[⟨q.2.1,Sl.Own 5 1 (k+q.1) q.2.2 ((xs++(gp g.l).take q.1).map U8),true⟩])
  (fun q=>4-q.1) (fun q=>q.1<=t-1) (0,b,cap) (Nat.zero_le _) Y640 (.keep _ _ _ _ _ _ (fun o h=>by simpa using h) (.nil _)) ?_
 rintro⟨i,b',cap'⟩ hi
 simp only at hi
 dsimp only
 repeat(first|refine JL.q (by(apply OQ.Ta (b:=(t:Int)-1);rfl;rfl)) rfl ?_|refine Y133 ?_)
 refine JC.cond rfl (fun h=>?_) (fun h=>?_)
 · have hi0:(i:Int)<(t:Int)-1:=of_decide_eq_true h
   have hi':i<t-1:=by omega
   clear h hi hi0
   have eS:=htk hi'
   generalize (gp g.l).take i=T at eS⊢
   repeat(first|refine JL.q (by first|(apply OQ.OD (k:=8*(2-i));rfl;rfl)|exact Y323|exact Y324|exact Y338|exact Y471|(apply OQ.JB;rfl;rfl;rfl)) rfl ?_|refine JC.seq ?_|refine JC.region ?_|refine JC.block ?_|refine JC.skip ?_|refine JL.nil ?_|refine JE.next ?_)
   refine JL.gi (xs:=(xs++T).map U8) (fun b'' cap''=>[⟨b'',Sl.Own 5 1 (k+i+1) cap'' ((xs++T).map U8++[U8 ((nn >>> (8*(2-i))).setWidth 8)]),true⟩]) Tryz.underlying22 dV rfl rfl rfl rfl (fun _=>rfl) Y642 Y609 Y609 rfl rfl fun bl b'' cap''=>?_
   refine Y18 ?_
   refine JE.again (i:=(i,b',cap')) (i+1,b'',cap'') hi' Y721 Y640 (.keep _ _ _ _ _ _ (fun o h=>?_) (.nil _))
   dsimp only
   rw[eS,<- List.append_assoc,List.map_append]
   exact h
 · have hi0:¬ (i:Int)<(t:Int)-1:=of_decide_eq_false h
   obtain rfl:i=t-1:=by omega
   clear h hi hi0
   rw[List.take_of_length_le Y609,<- hdl]
   refine Y107 ?_
   refine JC.ret (JE.aK rfl (RV.tmp rfl) ?_)
   exact fun w' hw=>⟨(b',cap'),rfl,hw⟩
theorem HZ:aJ Tryz.prog 152:=⟨_,Tryz.func152,rfl,by kernel_rfl⟩
theorem Ch:aJ Tryz.prog 140:=⟨_,Tryz.func140,rfl,by kernel_rfl⟩
theorem Ee:aJ Tryz.prog 100:=⟨_,Tryz.func100,rfl,by kernel_rfl⟩
theorem Cj:aJ Tryz.prog 151:=⟨_,Tryz.func151,rfl,by kernel_rfl⟩
theorem lC(F:List bQ.By->List bQ.By)(s:ay)(k m:Nat)(hF:∀ g,g.length<=k->(F g).length<=m):∀ pre:List Nat,(pre.flatMap fun j=>F (s.part k j).l).length<=m*pre.length
 | []=>by simp
 | j::pre=>by
   have ih:=lC F s k m hF pre
   have h:=hF (s.part k j).l (by show(List.take _ _).length<=k;rw[List.length_take];omega)
   rw[List.flatMap_cons,List.length_append,List.length_cons,Nat.mul_add]
   omega
theorem EY(F:List bQ.By->List bQ.By)(s:ay)(k:Nat)(pre:List Nat)(j:Nat):(pre++[j]).flatMap (fun j=>F (s.part k j).l)=pre.flatMap (fun j=>F (s.part k j).l)++F (s.part k j).l:=by simp
theorem Ef{s:ay}:∀ e∈s.an,∀ o,e.A o->o.isCells=true:=by
 intro e he o hA
 unfold ay.an at he
 split at he
 · simp only[List.mem_singleton] at he
   subst he
   obtain⟨⟨_,_,_,rfl,_⟩,_⟩:=hA
   rfl
 · cases he
theorem j6.refl:∀ M,j6 M M
 | []=>.nil _
 | ⟨_,_,_⟩::M=>.keep _ _ _ _ _ _ _ (fun _ h=>h) (fun h=>h) (j6.refl M)
theorem Lh(s:List bQ.By)(w:World)(hl:s.length<=60000):Calls Tryz.prog 152 [Z s].toArray w
  fun e w'=>∃ x:ay,e=.returned (.tuple #[x.v,N (mI (fE s))])/\iP x ((fE s).getD [])/\aa w [] x.an w':=by
 refine Ab (n:=23) Tryz.func152 rfl rfl rfl (aa.start w []) ?_
 repeat(first|refine JL.q (by first|exact Y322|exact Y323|exact Y324|exact Y471|(apply OQ.Ph;rfl;rfl;exact Y720;exact Y720)) rfl ?_|refine JC.seq ?_|refine JC.region ?_|refine JL.nil ?_|refine JE.next ?_)
 refine JL.uO (c:=s.length / 4*3) Tryz.underlying22 dV rfl rfl Y609 rfl fun b _=>?_
 refine JL.alloc (r:=[.slice none 0 0]) (by kernel_rfl) rfl fun tb _=>?_
 refine JL.aP (r':=[.slice (some ⟨b,0,none⟩) 0 (s.length / 4*3)]) (M':=[⟨tb,Row 22 [.slice (some ⟨b,0,none⟩) 0 (s.length / 4*3)],true⟩,⟨b,Sl.Own 5 1 0 (s.length / 4*3) [],true⟩]) Ed rfl rfl rfl rfl .here Y614 rfl ?_
 refine Y60 ?_
 refine JL.SL (s:=bP s) Tryz.underlying9 Tryz.underlying22 Tryz.underlying5 rfl rfl fun bb capB=>?_
 rw[jy]
 refine JL.bD (vs:=[ay.v ⟨some ⟨bb,0,none⟩,capB,s⟩,N 4]) (ι:=Nat × Nat) (fun q=>.func (.func 197) #[] #[Pt q.1 0,Pt q.2 0]) (fun q=>[⟨q.2,Row 3 [N 4],true⟩,⟨q.1,Row 22 [ay.v ⟨some ⟨bb,0,none⟩,capB,s⟩],true⟩]) nv rfl rfl Y722 (fun w' _=>oZ _ 4 w') ?_
 rintro⟨b1,b2⟩
 dsimp only
 have hok:∀ {w0 w':World} {S:List Nat} {M:List aL},aa w0 S M w'->Has M bb (fun o=>dy o 0 (s.map U8)/\s.length<=capB/\(none:Option Nat)=none) true->ay.ok w' ⟨some ⟨bb,0,none⟩,capB,s⟩:=fun hw' hM=>by
  obtain⟨o,ho,h1,h2,_⟩:=hw'.get hM
  exact⟨h2,Reads.block ho h1⟩
 have hlen:(⟨some ⟨bb,0,none⟩,capB,s⟩:ay).l=s:=rfl
 have hpb:∀ j a,((⟨some ⟨bb,0,none⟩,capB,s⟩:ay).part 4 j).ad=some a->a.block=bb:=fun j a ha=>by
  have ha:(if capB=4*j then some (⟨bb,0,none⟩:Addr) else some ((⟨bb,0,none⟩:Addr).add (4*j*1)))=some a:=ha
  split at ha
  · cases ha;rfl
  · rw[dH] at ha;cases ha;rfl
 have hparts:parts ⟨some ⟨bb,0,none⟩,capB,s⟩ 4=(s.length+4-1) / 4:=rfl
 have hfl:=lC gp ⟨some ⟨bb,0,none⟩,capB,s⟩ 4 3 (fun g hg=>by rw[wm];have:=tY g;omega)
 have hall:(List.range (parts ⟨some ⟨bb,0,none⟩,capB,s⟩ 4)).flatMap (fun j=>gp ((⟨some ⟨bb,0,none⟩,capB,s⟩:ay).part 4 j).l)=fl 4 gp s:=rfl
 have hsn:=EY gp ⟨some ⟨bb,0,none⟩,capB,s⟩ 4
 have h4:∀ j,((⟨some ⟨bb,0,none⟩,capB,s⟩:ay).part 4 j).l.length<=4:=fun j=>by show(List.take _ _).length<=4;rw[List.length_take];omega
 have hpo:=fun (w':World) (h:ay.ok w' ⟨some ⟨bb,0,none⟩,capB,s⟩) (j:Nat)=>tU h 4 j
 have hgs:=mm ⟨some ⟨bb,0,none⟩,capB,s⟩ 4 b1 b2 Y610
 have hents:(⟨some ⟨bb,0,none⟩,capB,s⟩:ay).an=[⟨bb,fun o=>dy o 0 (s.map U8)/\s.length<=capB/\(none:Option Nat)=none,true⟩]:=rfl
 rw[hents]
 generalize hsrc:(⟨some ⟨bb,0,none⟩,capB,s⟩:ay)=src at hpb hok hfl hall hsn h4 hpo hgs hparts hlen⊢
 refine Y134 ?_
 refine JC.range (ι:=Nat × Nat × List Nat) (fun j=>(src.part 4 j).v) [b1,b2] (fun xs=>xs=List.range (parts src 4)) (fun _=>True) (parts src 4)
  (fun q=>[⟨b2,Row 3 [N 4],false⟩,⟨b1,Row 22 [src.v],false⟩,⟨bb,fun o=>dy o 0 (s.map U8)/\s.length<=capB/\(none:Option Nat)=none,true⟩,⟨tb,Row 22 [.slice (some ⟨q.1,0,none⟩) (q.2.2.flatMap fun j=>gp (src.part 4 j).l).length q.2.1],true⟩,⟨q.1,Sl.Own 5 1 (q.2.2.flatMap fun j=>gp (src.part 4 j).l).length q.2.1 ((q.2.2.flatMap fun j=>gp (src.part 4 j).l).map U8),true⟩])
  (fun pre q=>q.2.2=pre) rfl (enters_of Tryz.func197 Y636 rfl) ?hseq ?hcell ?hL (b,s.length / 4*3,[]) rfl ?hM rfl rfl ?hbody ?hdone
 case hseq=>
  intro W hW
  obtain⟨o1,h1,h1'⟩:=hW.get (b:=b1) (A:=Row 22 [src.v]) (wr:=true) Y697
  obtain⟨o2,h2,h2'⟩:=hW.get (b:=b2) (A:=Row 3 [N 4]) (wr:=true) Y697
  exact hgs (hok hW Y697).len (by rw[hlen];omega) W h1 (Row.cell rfl _ h1') h2 (Row.cell rfl _ h2')
 case hcell=>
  rintro q e he o hA
  simp only[List.mem_cons,List.not_mem_nil,or_false] at he
  rcases he with rfl|rfl|rfl|rfl|rfl
  · exact gQ o hA
  · exact gQ o hA
  · obtain⟨⟨_,_,_,rfl,_⟩,_⟩:=hA
    rfl
  · exact gQ o hA
  · exact rX o hA
 case hL=>
  intro q k hk
  simp only[List.mem_cons,List.not_mem_nil,or_false] at hk
  rcases hk with rfl|rfl
  · exact Y287
  · exact Y287
 case hM=>
  intro w' hw'
  exact Y290
 case hbody=>
  rintro l pre j ⟨b',cap',pre'⟩ w1 rfl hlt hx hge
  dsimp only at hlt hge⊢
  have hb:=hfl pre'
  have hsn':=hsn pre' j
  generalize pre'.flatMap (fun j=>gp (src.part 4 j).l)=T at hb hsn'⊢
  repeat(first|refine JL.q (by exact Y473) rfl ?_|refine JR.region rfl Y698 ?_|refine Y167 ?_)
  refine JL.call (ι:=Nat × Nat) (fun q=>.slice (some ⟨q.1,0,none⟩) (T.length+(gp (src.part 4 j).l).length) q.2) (fun q=>[⟨b2,Row 3 [N 4],false⟩,⟨b1,Row 22 [src.v],false⟩,⟨bb,fun o=>dy o 0 (s.map U8)/\s.length<=capB/\(none:Option Nat)=none,true⟩,⟨tb,Row 22 [.slice (some ⟨b',0,none⟩) T.length cap'],true⟩,⟨q.1,Sl.Own 5 1 (T.length+(gp (src.part 4 j).l).length) q.2 ((T++gp (src.part 4 j).l).map U8),true⟩]) xj rfl rfl ?_ ?_
  · intro w' hw'
    obtain⟨o,ho,hA⟩:=hw'.get (b:=b') (wr:=true) (A:=Sl.Own 5 1 T.length cap' (T.map U8)) Y697
    refine(Am b' _ cap' _ (src.part 4 j) w' (hpo w' (hok hw' Y697) j) (h4 j) ?_ ho hA Y609).mono ?_
    · intro hne a ha
      rw[hpb j a ha]
      have:=hw'.nodup
      simp only[List.map_cons,List.map_nil,List.nodup_cons,List.mem_cons,List.not_mem_nil,or_false,not_or] at this
      exact this.2.2.1.2
    · rintro e w2 ⟨q,rfl,h2⟩
      exact Y288
  rintro⟨b'',cap''⟩
  dsimp only
  refine JL.aP (r':=[.slice (some ⟨b'',0,none⟩) (T.length+(gp (src.part 4 j).l).length) cap'']) (M':=[⟨b2,Row 3 [N 4],false⟩,⟨b1,Row 22 [src.v],false⟩,⟨bb,fun o=>dy o 0 (s.map U8)/\s.length<=capB/\(none:Option Nat)=none,true⟩,⟨tb,Row 22 [.slice (some ⟨b'',0,none⟩) (T.length+(gp (src.part 4 j).l).length) cap''],true⟩,⟨b'',Sl.Own 5 1 (T.length+(gp (src.part 4 j).l).length) cap'' ((T++gp (src.part 4 j).l).map U8),true⟩]) Ed rfl rfl rfl rfl Y703 Y614 rfl ?_
  refine Y140 ?_
  refine JE.round (b'',cap'',pre'++[j]) rfl ?_
  dsimp only
  rw[hsn',List.length_append]
  exact aj.refl _
 case hdone=>
  rintro D xs ⟨b',cap',pre⟩ rfl rfl
  dsimp only
  have hb:=hfl (List.range (parts src 4))
  rw[List.length_range] at hb
  rw[hall] at hb⊢
  have hyes:=NX (s:=s)
  have hno:=Qs (s:=s)
  generalize fl 4 gp s=Y at hb hyes hno⊢
  have hY:Y.length<=60000:=by rw[hparts] at hb;omega
  repeat(first|refine KL.q (by first|exact Y473|(apply OQ.ai (vs:=[ay.v ⟨some ⟨b',0,none⟩,cap',Y⟩]);exact HU;rfl;exact(fun w' hw'=>Cg ⟨some ⟨b',0,none⟩,cap',Y⟩ w' (ku hw' Y697) hY))|(apply OQ.TU;rfl;rfl)|exact Y323) rfl ?_|refine Y168 ?_)
  refine KC.cond rfl (fun h=>?_) (fun h=>?_)
  · have hne:¬ bC Y=s:=by simpa using h
    rw[hno hne]
    repeat(first|refine KL.q Y644 rfl ?_|refine KC.seq ?_|refine KC.region ?_|refine KL.nil ?_|refine KE.next ?_)
    refine KC.ret ?_
    repeat(refine KE.ag ?_)
    exact KE.aV rfl rfl rfl fun w' hw=>⟨aB,rfl,⟨rfl,fun _=>rfl⟩,hw.weak (.nil _)⟩
  · have hne:bC Y=s:=by simpa using h
    rw[hyes hne]
    repeat(first|refine KL.q Y723 rfl ?_|refine KC.seq ?_|refine KC.region ?_|refine KC.skip ?_|refine KL.nil ?_|refine KE.next ?_)
    refine KC.ret ?_
    skip
    exact KE.aV rfl rfl rfl fun w' hw=>⟨⟨some ⟨b',0,none⟩,cap',Y⟩,rfl,⟨rfl,by simp⟩,hw.weak (.drop _ _ _ (.drop _ _ _ (.drop _ _ _ (.drop _ _ _ wj))))⟩
theorem Eg(s:ay)(w:World)(hs:s.ok w)(hl:s.l.length<=20000):Calls Tryz.prog 140 [s.v].toArray w
  fun e w'=>∃ x:ay,e=.returned x.v/\iP x (e6 s.l)/\aa w [] x.an w':=by
 have hel:(bC s.l).length<=40000:=by rw[jX];omega
 rw[<- K9]
 refine Ab (n:=26) Tryz.func140 rfl rfl rfl (aa.start w []) ?_
 refine Y24 ?_
 refine Y289 ?_
 rintro⟨x,hx⟩
 dsimp only
 have hxl:x.l.length<=40000:=by rw[hx.val];exact hel
 rw[<- hx.val]
 refine Y166 ?_
 refine JL.uO (c:=x.l.length+(x.l.length / 76+1)*2) Tryz.underlying22 dV rfl rfl Y609 rfl fun b _=>?_
 refine JL.alloc (r:=[.slice none 0 0]) (by kernel_rfl) rfl fun tb _=>?_
 refine JL.aP (r':=[.slice (some ⟨b,0,none⟩) 0 (x.l.length+(x.l.length / 76+1)*2)]) (M':=⟨tb,Row 22 [.slice (some ⟨b,0,none⟩) 0 (x.l.length+(x.l.length / 76+1)*2)],true⟩::⟨b,Sl.Own 5 1 0 (x.l.length+(x.l.length / 76+1)*2) [],true⟩::(x.an++[])) Ed rfl rfl rfl rfl .here Y614 rfl ?_
 refine Y60 ?_
 refine JL.bD (vs:=[x.v,N 76]) (ι:=Nat × Nat) (fun q=>.func (.func 197) #[] #[Pt q.1 0,Pt q.2 0]) (fun q=>[⟨q.2,Row 3 [N 76],true⟩,⟨q.1,Row 22 [x.v],true⟩]) nv rfl rfl Y722 (fun w' _=>oZ _ 76 w') ?_
 rintro⟨b1,b2⟩
 dsimp only
 have hok:∀ {w0 w':World} {S:List Nat} (e1 e2 e3 e4:aL),aa w0 S (e1::e2::e3::e4::(x.an++[])) w'->x.ok w':=fun e1 e2 e3 e4 hw'=>hx.ok (M:=[]) (hw'.weak (.drop _ _ _ (.drop _ _ _ (.drop _ _ _ (.drop _ _ _ (aj.refl _))))))
 have hfl:=lC rW x 76 78 (fun g hg=>by rw[rW,List.length_append];exact Nat.add_le_add hg (Nat.le_refl 2))
 have hall:(List.range (parts x 76)).flatMap (fun j=>rW (x.part 76 j).l)=fl 76 rW x.l:=rfl
 have hsn:=EY rW x 76
 have hparts:parts x 76<=600:=by unfold parts;omega
 refine Y134 ?_
 refine JC.range (ι:=Nat × Nat × List Nat) (fun j=>(x.part 76 j).v) [b1,b2] (fun xs=>xs=List.range (parts x 76)) (fun _=>True) (parts x 76)
  (fun q=>⟨b2,Row 3 [N 76],false⟩::⟨b1,Row 22 [x.v],false⟩::⟨tb,Row 22 [.slice (some ⟨q.1,0,none⟩) (q.2.2.flatMap fun j=>rW (x.part 76 j).l).length q.2.1],true⟩::⟨q.1,Sl.Own 5 1 (q.2.2.flatMap fun j=>rW (x.part 76 j).l).length q.2.1 ((q.2.2.flatMap fun j=>rW (x.part 76 j).l).map U8),true⟩::(x.an++[]))
  (fun pre q=>q.2.2=pre) rfl (enters_of Tryz.func197 Y636 rfl) ?hseq ?hcell ?hL (b,x.l.length+(x.l.length / 76+1)*2,[]) rfl ?hM rfl rfl ?hbody ?hdone
 case hseq=>
  intro W hW
  obtain⟨o1,h1,h1'⟩:=hW.get (b:=b1) (A:=Row 22 [x.v]) (wr:=true) Y697
  obtain⟨o2,h2,h2'⟩:=hW.get (b:=b2) (A:=Row 3 [N 76]) (wr:=true) Y697
  exact mm x 76 b1 b2 Y610 (hok _ _ _ _ hW).len Y609 W h1 (Row.cell rfl _ h1') h2 (Row.cell rfl _ h2')
 case hcell=>
  rintro q e he o hA
  simp only[List.mem_cons,List.append_nil] at he
  rcases he with rfl|rfl|rfl|rfl|he
  · exact gQ o hA
  · exact gQ o hA
  · exact gQ o hA
  · exact rX o hA
  · exact Ef e he o hA
 case hL=>
  intro q k hk
  simp only[List.mem_cons,List.not_mem_nil,or_false] at hk
  rcases hk with rfl|rfl
  · exact Y287
  · exact Y287
 case hM=>
  intro w' hw'
  exact Y290
 case hbody=>
  rintro l pre j ⟨b',cap',pre'⟩ w1 rfl hlt hx1 hge
  dsimp only at hlt hge⊢
  have hb:=hfl pre'
  have hsn':=hsn pre' j
  have hpl:(x.part 76 j).l.length<=76:=by show(List.take _ _).length<=76;rw[List.length_take];omega
  generalize pre'.flatMap (fun j=>rW (x.part 76 j).l)=T at hb hsn'⊢
  repeat(first|refine JL.q (by first|exact Y473|exact Y323) rfl ?_|refine JR.seq ?_|refine JR.block ?_|refine JR.region rfl Y698 ?_)
  refine JL.append (cs:=(x.part 76 j).l.map U8) (m:=(x.part 76 j).l.length) (ad:=(x.part 76 j).ad) (sc:=(x.part 76 j).cap) (xs:=T.map U8) (fun b'' cap''=>⟨b2,Row 3 [N 76],false⟩::⟨b1,Row 22 [x.v],false⟩::⟨tb,Row 22 [.slice (some ⟨b',0,none⟩) T.length cap'],true⟩::⟨b'',Sl.Own 5 1 (T.length+(x.part 76 j).l.length) cap'' (T.map U8++(x.part 76 j).l.map U8),true⟩::(x.an++[])) Tryz.underlying22 dV rfl rfl Y642 Y614 (fun w' hw'=>(tU (hok _ _ _ _ hw') 76 j).reads) (OY _) rfl Y610 Y609 Y609 rfl fun b'' cap''=>?_
  refine JL.aP (r':=[.slice (some ⟨b'',0,none⟩) (T.length+(x.part 76 j).l.length) cap'']) (M':=⟨b2,Row 3 [N 76],false⟩::⟨b1,Row 22 [x.v],false⟩::⟨tb,Row 22 [.slice (some ⟨b'',0,none⟩) (T.length+(x.part 76 j).l.length) cap''],true⟩::⟨b'',Sl.Own 5 1 (T.length+(x.part 76 j).l.length) cap'' (T.map U8++(x.part 76 j).l.map U8),true⟩::(x.an++[])) Ed rfl rfl rfl rfl Y703 Y614 rfl ?_
  repeat(first|refine JL.q (by exact Y473) rfl ?_|refine JL.nil ?_|with_reducible refine JE.gH ?_|refine JR.region rfl Y698 ?_)
  refine JL.tL (r:=[13,10]) (xs:=T.map U8++(x.part 76 j).l.map U8) (fun b3 cap3=>⟨b2,Row 3 [N 76],false⟩::⟨b1,Row 22 [x.v],false⟩::⟨tb,Row 22 [.slice (some ⟨b'',0,none⟩) (T.length+(x.part 76 j).l.length) cap''],true⟩::⟨b3,Sl.Own 5 1 (T.length+(x.part 76 j).l.length+2) cap3 (T.map U8++(x.part 76 j).l.map U8++([13,10]:List Bt).map U8),true⟩::(x.an++[])) Tryz.underlying22 Tryz.underlying9 dV rfl rfl Y642 (by show _+2<=_;omega) rfl fun b3 cap3=>?_
  refine JL.aP (r':=[.slice (some ⟨b3,0,none⟩) (T.length+(x.part 76 j).l.length+2) cap3]) (M':=⟨b2,Row 3 [N 76],false⟩::⟨b1,Row 22 [x.v],false⟩::⟨tb,Row 22 [.slice (some ⟨b3,0,none⟩) (T.length+(x.part 76 j).l.length+2) cap3],true⟩::⟨b3,Sl.Own 5 1 (T.length+(x.part 76 j).l.length+2) cap3 (T.map U8++(x.part 76 j).l.map U8++([13,10]:List Bt).map U8),true⟩::(x.an++[])) Ed rfl rfl rfl rfl Y703 Y614 rfl ?_
  refine Y140 ?_
  refine JE.round (b3,cap3,pre'++[j]) rfl ?_
  dsimp only
  rw[hsn',rW,List.length_append,List.length_append,List.append_assoc,<- List.map_append,<- List.map_append]
  exact aj.refl _
 case hdone=>
  rintro D xs ⟨b',cap',pre⟩ rfl rfl
  dsimp only
  rw[hall]
  generalize fl 76 rW x.l=Y
  repeat(first|refine KL.q Y723 rfl ?_|refine Y168 ?_)
  refine KC.ret ?_
  exact KE.aK rfl rfl fun w' hw=>⟨⟨some ⟨b',0,none⟩,cap',Y⟩,rfl,⟨rfl,by simp⟩,hw.weak (.drop _ _ _ (.drop _ _ _ (.drop _ _ _ (.keep _ _ _ _ _ _ (fun o h=>⟨Sl.Own.cells o h,by obtain⟨_,_,_,_,h4⟩:=h;exact h4,rfl⟩) (.nil _)))))⟩
theorem Eh(c:Bt)(w:World):Calls Tryz.prog 151 [U8 c].toArray w fun e w'=>e=.returned (.bool (bQ.blank c))/\Ext w w':=by
 refine enter (n:=17) Tryz.func151 rfl rfl rfl (aa.start w []) ?_
 by_cases h1:c=32
 · subst h1
   repeat(first|refine JL.q (by first|(apply OQ.xL;rfl;rfl;rfl)|exact Y330|exact Y323|exact Y324) rfl ?_|refine JC.seq ?_|refine JC.region ?_|refine JL.nil ?_|refine JE.next ?_|refine JL.aM rfl rfl rfl rfl ?_)
   exact Y244
 by_cases h2:c=9
 · subst h2
   repeat(first|refine JL.bG rfl rfl ?_|refine JL.aM rfl rfl rfl rfl ?_|refine Y169 ?_)
   exact Y244
 by_cases h3:c=13
 · subst h3
   repeat(first|refine JL.bG rfl rfl ?_|refine JL.aM rfl rfl rfl rfl ?_|refine Y169 ?_)
   exact Y244
 by_cases h4:c=10
 · subst h4
   repeat(first|refine JL.q (by first|(apply OQ.oB;rfl;rfl;exact Y610)|(apply OQ.xL;rfl;rfl;rfl)|exact Y331|exact Y323|exact Y324) rfl ?_|refine JC.seq ?_|refine JC.region ?_|refine JL.nil ?_|refine JE.next ?_|refine JL.bG rfl rfl ?_)
   exact Y244
 have e:bQ.blank c=false:=by
  simp only[bQ.blank,Bool.or_eq_false_iff,beq_eq_false_iff_ne]
  exact⟨⟨⟨h1,h2⟩,h3⟩,h4⟩
 rw[e]
 repeat(first|refine JL.q (by first|(apply OQ.oB;rfl;rfl;exact(Bc h1))|(apply OQ.oB;rfl;rfl;exact(Bc h2))|(apply OQ.oB;rfl;rfl;exact(Bc h3))|(apply OQ.oB;rfl;rfl;exact(Bc h4))) rfl ?_|refine JL.bG rfl rfl ?_|refine Y170 ?_)
 exact Y244
theorem F8(l:List bQ.By):(bare l).length<=l.length:=List.length_filter_le ..
theorem yC(s:ay)(w:World)(hs:s.ok w)(hl:s.l.length<=60000):Calls Tryz.prog 100 [s.v].toArray w
  fun e w'=>∃ x:ay,e=.returned (.tuple #[x.v,N (mI (fE (bare s.l)))])/\iP x ((fE (bare s.l)).getD [])/\aa w [] x.an w':=by
 refine enter (n:=29) Tryz.func100 rfl rfl rfl (aa.start w []) ?_
 refine Y157 ?_
 refine JL.uO (c:=s.l.length) Tryz.underlying22 dV rfl rfl Y609 rfl fun b _=>?_
 refine Y85 ?_
 refine JC.loop (fun q:Nat × Nat × Nat=>[(4,.slice (some ⟨q.2.1,0,none⟩) (bare (s.l.take q.1)).length q.2.2),(10,s.v),(11,N s.l.length),(12,N q.1)])
  (fun q=>[⟨q.2.1,Sl.Own 5 1 (bare (s.l.take q.1)).length q.2.2 ((bare (s.l.take q.1)).map U8),true⟩])
  (fun q=>s.l.length-q.1) (fun q=>q.1<=s.l.length) (0,b,s.l.length) (Nat.zero_le _) Y640 (.keep _ _ _ _ _ _ (fun o h=>h) (.nil _)) ?_
 rintro⟨i,b',cap'⟩ hi
 simp only at hi
 dsimp only
 refine Y22 ?_
 refine JC.cond rfl (fun h=>?_) (fun h=>?_)
 · have hi':i<s.l.length:=of_decide_eq_true h
   clear h hi
   obtain⟨ba,ja,hae,hca⟩:=hs.reads.at Y624
   have hc:=hca i _ (dF U8 0 hi')
   have hav:s.v=.slice (some ⟨ba,ja,none⟩) s.l.length s.cap:=by rw[<- hae];rfl
   have hbt:=HT s.l hi'
   have hTl:(bare (s.l.take i)).length<=60000:=Nat.le_trans (F8 _) Y625
   generalize bare (s.l.take i)=T at hbt hTl⊢
   generalize s.l.getD i 0=c at hc hbt
   rw[hav]
   repeat(first|refine JL.q (by first|exact Y379|exact Y407|(apply OQ.ai (vs:=[U8 c]);exact Cj;rfl;exact(fun w' _=>Eh c w'))) rfl ?_|refine Y52 ?_)
   refine JC.cond rfl (fun h=>?_) (fun h=>?_)
   · have hb:¬ bQ.blank c=true:=by simpa using h
     clear h
     rw[if_neg hb] at hbt
     refine Y17 ?_
     refine JL.gi (xs:=T.map U8) (v:=U8 c) (fun b'' cap''=>[⟨b'',Sl.Own 5 1 (T.length+1) cap'' (T.map U8++[U8 c]),true⟩]) Tryz.underlying22 dV rfl rfl rfl rfl (fun _=>rfl) Y642 Y609 Y609 rfl rfl fun bl b'' cap''=>?_
     rw[<- hav]
     refine Y18 ?_
     refine JE.again (i:=(i,b',cap')) (i+1,b'',cap'') hi' Y718 ?_ ?_
     · dsimp only
       rw[hbt,List.length_append]
       exact Y269
     · dsimp only
       rw[hbt,List.length_append,List.map_append]
       exact aj.refl _
   · have hb:bQ.blank c=true:=by simpa using h
     clear h
     rw[if_pos hb,List.append_nil] at hbt
     rw[<- hbt,<- hav]
     refine Y25 ?_
     exact JE.again (i:=(i,b',cap')) (i+1,b',cap') hi' Y718 Y640 (aj.refl _)
 · have hi':¬ i<s.l.length:=of_decide_eq_false h
   obtain rfl:i=s.l.length:=by omega
   clear h hi hi'
   rw[List.take_length]
   have hTl:(bare s.l).length<=60000:=Nat.le_trans (F8 _) hl
   generalize bare s.l=T at hTl⊢
   repeat(first|refine JL.q (by(apply OQ.wU (s:=⟨some ⟨b',0,none⟩,cap',T⟩);exact Tryz.underlying22;exact Tryz.underlying5;exact Tryz.underlying9;rfl;exact(fun w' hw'=>ku hw' .here))) rfl ?_|refine Y171 ?_)
   refine JL.bD (vs:=[Z T]) (ι:={ x:ay // iP x ((fE T).getD []) }) (fun x=>.tuple #[x.1.v,N (mI (fE T))]) (fun x=>x.1.an) HZ rfl rfl (fun x=>x.1.bH) (fun w' _=>(Lh T w' hTl).mono fun e w2 ⟨x,h1,h2,h3⟩=>⟨⟨x,h2⟩,h1,h3⟩) ?_
   rintro⟨x,hx⟩
   dsimp only
   refine Y172 ?_
   refine Y247 ?_
   refine Y265 ?_
   exact fun w' hw=>⟨x,rfl,hx,hw.weak (bO _ _)⟩
end
end Go.Proofs.YtdabhneehconeaaGreatDoor
