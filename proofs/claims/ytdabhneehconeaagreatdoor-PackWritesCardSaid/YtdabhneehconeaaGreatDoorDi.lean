/-
  Of no statement by itself: the texts RfF, QuoR, QuoT, RfG, TokQ, PkK, PkL, PkE, PkM, PkH, Sler, PkN, PkI, PkJ in one.
  Conditions: each theorem's own.
-/
import Derived.Test.YtdabhneehconeaaGreatDoorDh
import Derived.ChangeKeysEq
set_option linter.unusedSimpArgs false
set_option linter.unusedVariables false
set_option maxRecDepth 10000
set_option maxHeartbeats 64000000
open Go.Proofs.YtdabhneehconeaaGreatDoor.YY
namespace Go.Proofs.YtdabhneehconeaaGreatDoor
section
open Sl aq
theorem QJ:gD Tryz.prog 22=true:=by kernel_rfl
theorem SB:kM Tryz.prog 65=true:=by kernel_rfl
theorem SC(n v:List aq.By):(ek n v).length<=n.length+4+3*v.length:=by
 have:=(vq n v v.length).1
 unfold ek
 rw[List.length_append]
 simp only[List.length_cons,List.length_nil]
 omega
theorem TK{n:List aq.By}(h:c8 n=true):n.length<=64:=(iS h).2.2
theorem Ux{v:List aq.By}(h:fC v=true):v.length<=8192:=(hU h).2.1
def okF(p:Pr):Bool:=c8 p.1&&fC p.2
theorem O5{l:List Pr}{b:List Bt}(h:l.all okF=false):bJ l b=3:=by
 unfold bJ
 rw[show(l.all fun p=>c8 p.1&&fC p.2)=false from h]
 rfl
theorem QK{l:List Pr}{b:List Bt}(h:l.all okF=true):bJ l b=if 200<l.length\/65536<(dg l).length+2\/2097152<(dg l).length+2+b.length then 4 else 0:=by
 unfold bJ
 rw[show(l.all fun p=>c8 p.1&&fC p.2)=true from h,if_pos rfl]
theorem LQ{l:List Pr}{b:List Bt}(h:bJ l b≠0):bt l b=[]:=if_neg h
structure W9 where
 i:Nat
 o:List Bt
 b:Nat
 cap:Nat
theorem mA(f:gm)(s:ay)(w:World)(hf:f.ok w)(hs:s.ok w)(hz:fX f)(hl:f.l.length<=1000000)(hl2:s.l.length<=4294967296):Calls Tryz.prog 20 [.agg #[f.v,s.v]].toArray w fun e w'=>∃ y:{ y:ay // iP y (bt f.l s.l) },e=.returned (.tuple #[y.1.v,N (bJ f.l s.l)])/\aa w [] y.1.an w':=by
 refine enter (n:=65) Tryz.func20 rfl rfl rfl (aa.start w []) ?_
 refine Y83 ?_
 refine JL.box (r:=[f.v,s.v]) rfl rfl rfl fun b1 _=>?_
 refine Y3 ?_
 refine JL.lB Tryz.underlying22 dV rfl fun bo _=>?_
 refine Y7 ?_
 refine JC.loop (fun z:W9=>[(1,Pt b1 0),(4,.slice (some ⟨z.b,0,none⟩) z.o.length z.cap),(5,N z.i)]) (fun z=>[⟨z.b,Sl.Own 5 1 z.o.length z.cap (z.o.map U8),true⟩,⟨b1,Row 29 [f.v,s.v],true⟩]) (fun z=>f.l.length-z.i) (fun z=>z.i<=f.l.length/\z.o.length<=30000*z.i/\f.l.all okF=(f.l.drop z.i).all okF/\dg f.l=z.o++dg (f.l.drop z.i)) ⟨0,[],bo,0⟩ ⟨Nat.zero_le _,Nat.le_refl _,rfl,rfl⟩ Y640 (aj.refl _) ?_
 rintro⟨i,o,b,cap⟩ ⟨hi,ho,hg,hh⟩
 dsimp only at hi ho hg hh⊢
 repeat(first|refine JL.q (by first|exact Y572|exact Y386|exact Y323|exact Y387|exact Y377) rfl ?_|refine JC.seq ?_|refine JC.region ?_|refine JL.nil ?_|refine JE.next ?_)
 refine JC.cond rfl (fun h=>?_) (fun h=>?_)
 · have hi':i<f.l.length:=of_decide_eq_true h
   clear h hi
   obtain⟨z1,z2⟩:=hz _ (lF hi')
   obtain⟨ba,ja,eA,la,ca1,ca2⟩:=hf.at hi'
   have vA:f.v=.slice (some ⟨ba,ja,none⟩) f.l.length f.cap:=by rw[<- eA];rfl
   have cA:=pair_cells ca1 ca2
   rw[og hi'] at hg hh
   generalize f.l.getD i ([],[])=p at hg hh z1 z2 ca1 ca2 cA
   obtain⟨n,v⟩:=p
   dsimp only at z1 z2 ca1 ca2
   rw[List.all_cons] at hg
   have hh2:dg f.l=o++(ek n v++dg (f.l.drop (i+1))):=hh
   clear hh
   have cN:=fun w'=>G9 n w' z1
   have cV:=fun w'=>DB v w' z2
   rw[vA]
   cases hn:c8 n
   case false=>
    have hall:f.l.all okF=false:=by rw[hg,show okF (n,v)=false by unfold okF;rw[hn];rfl];rfl
    have hK:=O5 (b:=s.l) hall
    rw[LQ (l:=f.l) (b:=s.l) (by rw[hK];decide),hK]
    repeat(first|refine JL.q (by first|exact Y573|exact Y388|exact Y375|exact Y574|exact Y329|exact Y330|exact Y323|exact Y377) rfl ?_|refine JC.seq ?_|refine JC.region ?_|refine JC.block ?_|refine JC.skip ?_|refine JL.nil ?_|refine JE.next ?_|refine JL.aM rfl rfl rfl rfl ?_)
    refine Y271 ?_
    refine Y3 ?_
    refine Y247 ?_
    refine Y2 ?_
    exact Y312
   cases hv:fC v
   case false=>
    have hall:f.l.all okF=false:=by rw[hg,show okF (n,v)=false by unfold okF;rw[hn,hv];rfl];rfl
    have hK:=O5 (b:=s.l) hall
    rw[LQ (l:=f.l) (b:=s.l) (by rw[hK];decide),hK]
    repeat(first|refine JL.q Y760 rfl ?_|refine JL.bG rfl rfl ?_|refine Y217 ?_)
    refine Y271 ?_
    refine Y3 ?_
    refine Y247 ?_
    refine Y2 ?_
    exact Y312
   rw[show okF (n,v)=true by unfold okF;rw[hn,hv];rfl,Bool.true_and] at hg
   have l1:=TK hn
   have l2:=Ux hv
   have l3:=SC n v
   repeat(first|refine JL.q Y760 rfl ?_|refine JL.bG rfl rfl ?_|refine Y217 ?_)
   refine Y252 ?_
   repeat(first|refine JL.q (by first|exact Y573|exact Y388|(apply OQ.bE (cs:=pc (n,v));exact SB;rfl;exact bX;exact la;exact Y614;exact cA)|exact Y323|exact Y377) rfl ?_|refine JC.region ?_|refine JC.skip ?_|refine JE.next ?_)
   refine JL.bD (vs:=[.agg (pc (n,v)).toArray]) (ι:={ x:ay // iP x (ek n v) }) (fun x=>x.1.v) (fun x=>x.1.an) DJ rfl rfl (fun x=>x.1.bH) (fun w' _=>(Hi n v w' Y609 Y609).mono fun e w2 ⟨x,h1,h2,h3⟩=>⟨⟨x,h2⟩,h1,h3⟩) ?_
   rintro⟨x,hx1,hx2⟩
   dsimp only
   refine JL.perm (M':=[⟨b,Sl.Own 5 1 o.length cap (o.map U8),true⟩,⟨b1,Row 29 [.slice (some ⟨ba,ja,none⟩) f.l.length f.cap,s.v],true⟩]++x.an) ?_ List.perm_append_comm
   refine JL.append (cs:=x.l.map U8) (m:=x.l.length) (ad:=x.ad) (sc:=x.cap) (xs:=o.map U8) (k:=o.length) (fun b' cap'=>[⟨b',Sl.Own 5 1 (o.length+x.l.length) cap' (o.map U8++x.l.map U8),true⟩,⟨b1,Row 29 [.slice (some ⟨ba,ja,none⟩) f.l.length f.cap,s.v],true⟩]++x.an) Tryz.underlying22 dV rfl rfl Y642 Y614 (fun w' hw'=>(ay.bU (M:=[]) (Sl.aa.weak hw' (by rw[List.append_nil];exact fU (List.sublist_append_right _ _))) hx2).reads) (fun v hv=>by obtain⟨c,_,rfl⟩:=List.mem_map.1 hv;rfl) rfl Y610 (by rw[hx1];omega) (by rw[hx1];omega) rfl fun b2 cap2=>?_
   rw[<- vA,hx1,<- List.map_append,<- List.length_append]
   refine Y18 ?_
   refine JE.again (i:=W9.mk i o b cap) (W9.mk (i+1) (o++ek n v) b2 cap2) ⟨hi',?_,hg,?_⟩ Y661 Y640 (fU (List.sublist_append_left _ _))
   · dsimp only
     rw[List.length_append]
     omega
   · dsimp only
     rw[hh2,List.append_assoc]
 · have hi':¬ i<f.l.length:=of_decide_eq_false h
   clear h
   have ei:i=f.l.length:=by omega
   rw[ei,List.drop_length] at hg hh
   have hh2:dg f.l=o:=by rw[hh];exact List.append_nil o
   have hK:=QK (l:=f.l) (b:=s.l) hg
   rw[hh2] at hK
   clear hh hg
   refine Y59 ?_
   refine JL.JM (v1:=U8 13) (v2:=U8 10) (xs:=o.map U8) (fun b' cap'=>[⟨b',Sl.Own 5 1 (o.length+2) cap' (o.map U8++[U8 13,U8 10]),true⟩,⟨b1,Row 29 [f.v,s.v],true⟩]) Tryz.underlying22 dV rfl rfl rfl rfl rfl rfl rfl (fun _=>rfl) Y642 Y609 Y609 rfl rfl fun bl b2 cap2=>?_
   rw[show o.map U8++[U8 13,U8 10]=(o++[13,10]).map U8 by rw[List.map_append];rfl]
   have hn2:(o++[13,10]).length=o.length+2:=by rw[List.length_append];rfl
   refine Y218 ?_
   cases h1:decide ((200:Int)<(f.l.length:Int)) <;> cases h2:decide ((65536:Int)<((o.length+2:Nat):Int)) <;> cases h3:decide ((2097152:Int)<((o.length+2+s.l.length:Nat):Int))
   case false.false.false=>
    rw[if_neg (by
     have k1:=of_decide_eq_false h1
     have k2:=of_decide_eq_false h2
     have k3:=of_decide_eq_false h3
     omega)] at hK
    have hO:bt f.l s.l=o++[13,10]++s.l:=by unfold bt;rw[if_pos hK,hh2]
    rw[hO,hK]
    repeat(first|refine JL.q (by first|exact Y572|exact Y576|exact Y386|exact Y516|exact Y517|exact Y518|exact Y331|exact Y323|exact Y378|exact Y337|exact Y377) rfl ?_|refine JL.nil ?_|refine JE.next ?_|refine JL.bG rfl rfl ?_)
    refine Y252 ?_
    repeat(first|refine JL.q (by exact Y576) rfl ?_|refine Y190 ?_)
    refine JL.append (cs:=s.l.map U8) (m:=s.l.length) (ad:=s.ad) (sc:=s.cap) (xs:=(o++[13,10]).map U8) (k:=o.length+2) (fun b' cap'=>[⟨b',Sl.Own 5 1 (o.length+2+s.l.length) cap' ((o++[13,10]).map U8++s.l.map U8),true⟩,⟨b1,Row 29 [f.v,s.v],true⟩]) Tryz.underlying22 dV rfl rfl Y642 Y614 (fun w' hw'=>(hs.holds hw' rfl).reads) (fun v hv=>by obtain⟨c,_,rfl⟩:=List.mem_map.1 hv;rfl) rfl Y610 Y609 Y609 rfl fun b3 cap3=>?_
    rw[<- List.map_append,<- hn2,<- List.length_append]
    refine Y39 ?_
    refine Y247 ?_
    exact JE.aV rfl (RV.tmp rfl) (RV.tmp rfl) fun w' hw=>⟨⟨⟨some ⟨b3,0,none⟩,cap3,o++[13,10]++s.l⟩,rfl,nofun⟩,rfl,Sl.aa.weak hw (gk (D:=[_]) (jf rfl) (.nil _))⟩
   all_goals
    rw[if_pos (by
     first
      | exact .inl Y663
      | exact .inr (.inl Y679)
      | exact .inr (.inr Y712))] at hK
    rw[LQ (l:=f.l) (b:=s.l) (by rw[hK];decide),hK]
    (repeat(first|refine JL.q (by first|exact Y572|exact Y576|exact Y386|exact Y516|exact Y517|exact Y518|exact Y330|exact Y331|exact Y323|exact Y378|exact Y337|exact Y377) rfl ?_|refine JL.nil ?_|refine JE.next ?_|refine JL.bG rfl rfl ?_|refine JL.aM rfl rfl rfl rfl ?_))
    refine Y271 ?_
    (refine Y3 ?_)
    refine Y247 ?_
    (repeat(refine JE.ag ?_))
    exact Y312
end
section
open Sl aq gv
structure UA where
 i:Nat
 o:List Bt
 b:Nat
 cap:Nat
end
section
open Sl aq gZ Tok
end
section
open Sl aq Tok
structure WS where
 i:Nat
 o:List aq.By
 n:Nat
 b:Nat
 cap:Nat
theorem LR(c:aq.By)(r:List aq.By):esc (c::r)=(if c=34\/c=92 then [92,c] else [c])++esc r:=by unfold esc;rw[List.flatMap_cons]
theorem wK(k:List aq.By)(a:gm)(w:World)(ha:a.ok w)(hz:∀ p∈a.l,p.1.length<1000/\p.2.length<1000)(hl:a.l.length<1000)(hk:k.length<1000):Calls Tryz.prog 50 [Z k,a.v].toArray w fun e w'=>e=.returned (Z (dj k a.l))/\Ext w w':=by
 refine enter (n:=69) Tryz.func50 rfl rfl rfl (aa.start w []) ?_
 refine Y24 ?_
 refine JL.SN (r:=k) Tryz.underlying9 rfl Tryz.underlying22 Tryz.underlying5 rfl rfl fun b cap _=>?_
 refine Y7 ?_
 refine JC.loop (fun z:WS=>[(1,a.v),(5,.slice (some ⟨z.b,0,none⟩) z.n z.cap),(6,N z.i)]) (fun z=>[⟨z.b,dM 5 z.n z.cap (z.o.map U8),true⟩]) (fun z=>a.l.length-z.i) (fun z=>z.i<=a.l.length/\z.o.length=z.n/\z.n<=1000+4000*z.i/\z.o++(a.l.drop z.i).flatMap jR=dj k a.l) ⟨0,k,k.length,b,cap⟩ ⟨by simp,rfl,by dsimp only;omega,rfl⟩ Y640 (aj.refl _) ?_
 rintro⟨i,o,n,b,cap⟩ ⟨hi,hon,hn,ho⟩
 simp only at hi hon hn ho
 dsimp only
 refine Y74 ?_
 refine JC.cond rfl (fun h=>?_) (fun h=>?_)
 · have hi':i<a.l.length:=of_decide_eq_true h
   clear h hi
   rw[og hi',List.flatMap_cons] at ho
   obtain⟨z1,z2⟩:=hz _ (lF hi')
   obtain⟨ba,ja,eA,la,ca1,ca2⟩:=ha.at hi'
   have vA:a.v=.slice (some ⟨ba,ja,none⟩) a.l.length a.cap:=by rw[<- eA];rfl
   generalize a.l.getD i ([],[])=p at ho z1 z2 ca1 ca2
   obtain⟨nm,v⟩:=p
   dsimp only at z1 z2 ca1 ca2
   have hp:jR (nm,v)=([59,32]++nm++[61])++(if cY v then v else [34]++esc v++[34]):=rfl
   rw[hp] at ho
   have hT:([59,32]++nm++[61]:List aq.By).length=nm.length+3:=by simp
   have l1:([59,32]:List aq.By).length+nm.length<9223372036854775808:=by simp;omega
   have l2:([59,32]++nm:List aq.By).length+([61]:List aq.By).length<9223372036854775808:=by simp;omega
   rw[vA]
   repeat(first|refine JL.q (by first|exact Y374|exact Y376|exact Y375|(apply OQ.fH (l:=[59,32]) (r:=nm);rfl;rfl;exact l1)|(apply OQ.fH (l:=[59,32]++nm) (r:=[61]);rfl;rfl;exact l2)|exact Y323|exact Y324|exact Y377) rfl ?_|refine JC.seq ?_|refine JC.region ?_|refine JC.block ?_|refine JC.skip ?_|refine JL.nil ?_|refine JE.next ?_)
   rw[<- vA]
   generalize ([59,32]++nm++[61]:List aq.By)=T at hT ho⊢
   refine JL.iH (v:=Z T) (m:=T.length) (xs:=o.map U8) (news:=T.map U8) (fun b' cap'=>[⟨b',dM 5 (n+T.length) cap' (o.map U8++T.map U8),true⟩]) Tryz.underlying22 dV rfl rfl (fun _ _=>jC Tryz.underlying9) Y642 Y609 rfl fun b1 cap1=>?_
   have c1:=fun w'=>Bp v w' Y609
   cases h1:cY v
   case true=>
    rw[h1,if_pos rfl] at ho
    repeat(first|refine JL.q (by exact Y577) rfl ?_|refine Y0 ?_)
    refine Y246 ?_
    refine Y61 ?_
    refine JL.iH (v:=Z v) (m:=v.length) (xs:=o.map U8++T.map U8) (news:=v.map U8) (fun b' cap'=>[⟨b',dM 5 (n+T.length+v.length) cap' (o.map U8++T.map U8++v.map U8),true⟩]) Tryz.underlying22 dV rfl rfl (fun _ _=>jC Tryz.underlying9) Y642 Y609 rfl fun b2 cap2=>?_
    refine Y70 ?_
    exact JE.again (i:=WS.mk i o n b cap) (WS.mk (i+1) (o++T++v) (n+T.length+v.length) b2 cap2) ⟨hi',by simp[hon] <;> omega,by dsimp only;omega,by rw[<- ho];simp⟩ Y661 Y640 (.keep _ _ _ _ _ _ (fun o h=>by dsimp only;simp only[List.map_append];exact h) (.nil _))
   case false=>
    rw[h1,if_neg Y610] at ho
    repeat(first|refine JL.q (by exact Y577) rfl ?_|refine Y0 ?_)
    refine Y245 ?_
    refine Y94 ?_
    refine JL.ji (v:=U8 34) (xs:=o.map U8++T.map U8) (fun b' cap'=>[⟨b',dM 5 (n+T.length+1) cap' (o.map U8++T.map U8++[U8 34]),true⟩]) Tryz.underlying22 dV rfl rfl rfl (fun _=>rfl) Y642 Y609 rfl rfl fun bl b2 cap2=>?_
    refine Y7 ?_
    have hR:∀ R:List aq.By,o++(T++([34]++esc v++[34])++R)=((o++T++[34])++esc v)++[34]++R:=fun R=>by simp
    rw[hR] at ho
    refine JC.loop (fun z:WS=>[(1,a.v),(5,.slice (some ⟨z.b,0,none⟩) z.n z.cap),(6,N i),(7,Z v),(8,N z.i)]) (fun z=>[⟨z.b,dM 5 z.n z.cap (z.o.map U8),true⟩]) (fun z=>v.length-z.i) (fun z=>z.i<=v.length/\z.o.length=z.n/\z.n<=n+T.length+1+2*z.i/\z.o++esc (v.drop z.i)=(o++T++[34])++esc v) ⟨0,o++T++[34],n+T.length+1,b2,cap2⟩ ⟨by simp,by simp[hon] <;> omega,by simp,rfl⟩ Y640 (.keep _ _ _ _ _ _ (fun o h=>by dsimp only;simp only[List.map_append];exact h) (.nil _)) ?_
    rintro⟨j,q,m,b3,cap3⟩ ⟨hj,hqm,hm,hq⟩
    simp only at hj hqm hm hq
    dsimp only
    refine Y8 ?_
    refine JC.cond rfl (fun h=>?_) (fun h=>?_)
    · have hj':j<v.length:=of_decide_eq_true h
      clear h hj
      rw[lG hj',LR] at hq
      have hidx:=fun {n:Nat} {E:Env} {C:World->Prop} {dst:Option Tmp} {ty:TypeId} {pos:String} {aft:Array Edge} {g:Option (Nat × Bool)} {x y:Operand}=>dI hj' (n:=n) (E:=E) (C:=C) (dst:=dst) (ty:=ty) (pos:=pos) (aft:=aft) (g:=g) (x:=x) (y:=y)
      generalize v.getD j 0=c at hidx hq
      cases h34:decide ((c.toNat:Int)=34) <;> cases h92:decide ((c.toNat:Int)=92)
      all_goals (repeat(first|refine JL.q (by first|(apply hidx;rfl;rfl)|(apply OQ.ep (b:=34);rfl;rfl;exact h34)|(apply OQ.ep (b:=92);rfl;rfl;exact h92)) rfl ?_|refine JL.bG rfl rfl ?_|refine JL.aM rfl rfl rfl rfl ?_|refine Y15 ?_))
      all_goals refine JC.cond rfl (fun h=>?_) (fun h=>?_)
      all_goals first|(exfalso;revert h;decide)|skip
      all_goals clear h
      all_goals first
       | (have hor:¬ (c=34\/c=92):=by
           rintro(h|h)
           · exact kR 34 h34 h
           · exact kR 92 h92 h
          rw[if_neg hor] at hq
          (repeat(first|refine JL.q (by(apply hidx;rfl;rfl)) rfl ?_|refine Y104 ?_))
          refine JL.ji (v:=U8 c) (xs:=q.map U8) (fun b' cap'=>[⟨b',dM 5 (m+1) cap' (q.map U8++[U8 c]),true⟩]) Tryz.underlying22 dV rfl rfl rfl (fun _=>rfl) Y642 Y609 rfl rfl fun bl b4 cap4=>?_
          (refine Y18 ?_)
          exact JE.again (i:=WS.mk j q m b3 cap3) (WS.mk (j+1) (q++[c]) (m+1) b4 cap4) ⟨hj',by simp[hqm],by dsimp only;omega,by rw[<- hq];simp⟩ Y661 Y640 (.keep _ _ _ _ _ _ (fun o h=>by dsimp only;simp only[List.map_append];exact h) (.nil _)))
       | (have hor:c=34\/c=92:=by
           first
            | exact Or.inl (sK 34 h34)
            | exact Or.inr (sK 92 h92)
          rw[if_pos hor] at hq
          (refine Y17 ?_)
          refine JL.ji (v:=U8 92) (xs:=q.map U8) (fun b' cap'=>[⟨b',dM 5 (m+1) cap' (q.map U8++[U8 92]),true⟩]) Tryz.underlying22 dV rfl rfl rfl (fun _=>rfl) Y642 Y609 rfl rfl fun bl b4 cap4=>?_
          (repeat(first|refine JL.q (by first|(apply hidx;rfl;rfl)|exact Y323|exact Y324) rfl ?_|refine JC.region ?_|refine JL.nil ?_|refine JE.next ?_))
          refine JL.ji (v:=U8 c) (xs:=q.map U8++[U8 92]) (fun b' cap'=>[⟨b',dM 5 (m+1+1) cap' (q.map U8++[U8 92]++[U8 c]),true⟩]) Tryz.underlying22 dV rfl rfl rfl (fun _=>rfl) Y642 Y609 rfl rfl fun bl b5 cap5=>?_
          (refine Y18 ?_)
          exact JE.again (i:=WS.mk j q m b3 cap3) (WS.mk (j+1) (q++[92]++[c]) (m+1+1) b5 cap5) ⟨hj',by simp[hqm],by dsimp only;omega,by rw[<- hq];simp⟩ Y661 Y640 (.keep _ _ _ _ _ _ (fun o h=>by dsimp only;simp only[List.map_append];exact h) (.nil _)))
    · have hj':¬ j<v.length:=of_decide_eq_false h
      have hje:j=v.length:=by omega
      clear h hj
      rw[List.drop_of_length_le Y609] at hq
      have hq':q=(o++T++[34])++esc v:=by rw[<- hq];exact(List.append_nil _).symm
      rw[<- hq'] at ho
      repeat refine Y164 ?_
      refine JL.ji (v:=U8 34) (xs:=q.map U8) (fun b' cap'=>[⟨b',dM 5 (m+1) cap' (q.map U8++[U8 34]),true⟩]) Tryz.underlying22 dV rfl rfl rfl (fun _=>rfl) Y642 Y609 rfl rfl fun bl b4 cap4=>?_
      refine Y18 ?_
      exact JE.again (i:=WS.mk i o n b cap) (WS.mk (i+1) (q++[34]) (m+1) b4 cap4) ⟨hi',by simp[hqm],by dsimp only;omega,ho⟩ Y661 Y640 (.keep _ _ _ _ _ _ (fun o h=>by dsimp only;simp only[List.map_append];exact h) (.nil _))
 · have hi':¬ i<a.l.length:=of_decide_eq_false h
   clear h hi
   rw[List.drop_of_length_le Y609] at ho
   have ho':dj k a.l=o:=by rw[<- ho];exact List.append_nil _
   rw[ho']
   subst hon
   repeat(first|refine JL.q (by(apply OQ.wU (s:=⟨some ⟨b,0,none⟩,cap,o⟩);exact Tryz.underlying22;exact Tryz.underlying5;exact Tryz.underlying9;rfl;exact(fun w' hw'=>FA hw' .here))) rfl ?_|refine Y19 ?_)
   refine Y247 ?_
   skip
   exact Y248
end
section
open Sl aq Tok gZ zo
theorem wL:aJ Tryz.prog 28:=⟨_,Tryz.func28,rfl,by kernel_rfl⟩
theorem oE:aJ Tryz.prog 49:=⟨_,Tryz.func49,rfl,by kernel_rfl⟩
theorem wM:aJ Tryz.prog 50:=⟨_,Tryz.func50,rfl,by kernel_rfl⟩
theorem pI:aJ Tryz.prog 20:=⟨_,Tryz.func20,rfl,by kernel_rfl⟩
theorem CG:aJ Tryz.prog 54:=⟨_,Tryz.func54,rfl,by kernel_rfl⟩
theorem wN{n:Nat}{E:Env}{C:World->Prop}{dst:Option Tmp}{ty:TypeId}{pos:String}{aft:Array Edge}{g:Option (Nat × Bool)}{x:Operand}{b:Nat}(hx:ev E x=some (.slice (some ⟨b,0,none⟩) 1 1)):OQ Tryz.prog n E C ⟨dst,.build 29 #[(0,x)],ty,pos,aft,g⟩ (.agg #[aD (some (b,1)) 1,aB.v]):=by
 refine OQ.run fun k hk w _=>?_
 have h1:=hk.eval hx
 have h3:=run_build (P:=Tryz.prog) w 29 #[(0,.slice (some ⟨b,0,none⟩) 1 1)] #[aD (some (b,1)) 1,aB.v] Y636
 simp[execOp,h1,Sem.run_bind,h3]
theorem TL{c:Nat}(h:c=0\/c=1):([b8,E8,GD]:List (List Bt)).getD c []=C2 (c:Int):=by
 rcases h with rfl|rfl <;> decide
theorem EO(a b c:aL)(L:List aL):(L++[a,b,c]).Perm (a::b::c::(L++[])):=by
 rw[List.append_nil]
 exact List.perm_append_comm (l₂:=[a,b,c])
theorem LU(a b c:aL):[a,b,c].Perm (b::c::([a]++[])):=List.perm_append_comm (l₁:=[a]) (l₂:=[b,c])
theorem pJ{k:List Bt}{c:Nat}(hg:zu k c)(hk:k.length<=100)(hc:c=0\/c=1)(ps:gm)(s:ay)(ad:Option Addr)(cap others:Nat)(w:World)(hp:ps.ok w)(hp0:ps.l=[])(hs:s.ok w)(hl:s.l.length<=4000):Calls Tryz.prog 28 [.agg #[Z k,ps.v,.int .i64 c,s.v,.slice ad 0 cap],N others].toArray w
  fun e w'=>∃ y:W2 (.ok (eG k c,gd (fun b=>b) c s.l)),e=.returned (.tuple #[.agg #[y.f.v,y.s.v],N 0])/\aa w [] y.an w':=by
 have cR:=fun (M:List aL) (w':World) (hw':aa w [] M w')=>sL k ps w' (hp.holds hw' rfl) (by rw[hp0];nofun) (by rw[hp0];decide) Y609
 have cW:=fun (M:List aL) (w':World) (hw':aa w [] M w')=>wK k ps w' (hp.holds hw' rfl) (by rw[hp0];nofun) (by rw[hp0];decide) Y609
 have cM:=fun w'=>vW k w' Y609
 rw[hp0,hg.right] at cR
 rw[hp0] at cW
 rw[hg.Oz] at cM
 have hbl:(gd (fun b=>b) c s.l).length<=100000:=by
  have h1:=jJ s.l
  unfold gd
  split
  · omega
  · split <;> omega
 obtain⟨fin1,fin2⟩:=lg hg hbl
 have hwl:(dj k []).length<=1000:=by
  have h1:(dj k []).length=k.length:=by unfold dj;simp
  omega
 have hF:eG k c=[(cF,dj k []),(fu,C2 c)]:=rfl
 have hcv:(C2 c).length<=100:=by rcases hc with rfl|rfl <;> decide
 have hlF:∀ p∈eG k c,p.1.length<9223372036854775808/\p.2.length<9223372036854775808:=by
  intro q hq
  rw[hF] at hq
  simp only[List.mem_cons,List.not_mem_nil,or_false] at hq
  have e1:cF.length=12:=rfl
  have e2:fu.length=25:=rfl
  rcases hq with rfl|rfl <;> dsimp only <;> omega
 rw[hF] at fin1 hlF⊢
 have hnam:=TL hc
 generalize dj k []=W at *
 generalize C2 (c:Int)=C at *
 refine enter (n:=211) Tryz.func28 rfl rfl rfl (aa.start w []) ?_
 refine JC.seq (JC.region (JL.box (r:=[Z k,ps.v,.int .i64 c,s.v,.slice ad 0 cap]) rfl rfl rfl fun b2 _=>?_))
 refine JL.alloc iB rfl fun b4 _=>?_
 repeat(first|refine JL.q (by first|exact Y578|exact Y551|(apply OQ.ai (vs:=[Z k,ps.v]);exact oE;rfl;exact(cR _))) rfl ?_|refine Y219 ?_)
 refine Y245 ?_
 repeat(first|refine JL.q (by first|exact Y578|exact Y551|(apply OQ.ai (vs:=[Z k,ps.v]);exact wM;rfl;exact(cW _))|exact Y553) rfl ?_|refine Y220 ?_)
 refine JL.w4 (cs:=pc (cF,W)) Tryz.underlying27 fN rfl (by decide) (by decide) rfl rfl rfl fun b5 _=>?_
 repeat(refine JL.q (by(apply wN (b:=b5);rfl)) rfl ?_)
 refine JL.alloc iB rfl fun b6 _=>?_
 refine JL.ax (cs:=[aD (some (b5,1)) 1,aB.v]) aZ rfl rfl rfl rfl .here rfl ?_
 refine JL.perm (M':=⟨b6,Row 29 [aD (some (b5,1)) 1,aB.v],true⟩::⟨b4,Row 29 [bV.v,aB.v],true⟩::⟨b2,Row 59 [Z k,ps.v,.int .i64 c,s.v,.slice ad 0 cap],true⟩::([⟨b5,Row 65 (pc (cF,W)),true⟩]++[])) ?_ (List.Perm.cons _ (LU _ _ _))
 refine JL.less (M':=⟨b6,Row 29 [aD (some (b5,1)) [(cF,W)].length,aB.v],true⟩::⟨b4,Row 29 [bV.v,aB.v],true⟩::⟨b2,Row 59 [Z k,ps.v,.int .i64 c,s.v,.slice ad 0 cap],true⟩::(dr 65 (some (b5,1)) [(cF,W)]++[])) (.keep _ _ _ _ _ _ (fun _ h=>h) (.keep _ _ _ _ _ _ (fun _ h=>h) (.keep _ _ _ _ _ _ (fun _ h=>h) (.keep _ _ _ _ _ _ (fun o h=>wH o h) (.nil _))))) ?_
 have h0c:decide ((c:Int)<0)=false:=decide_eq_false Y609
 have h2c:decide ((2:Int)<(c:Int))=false:=decide_eq_false Y609
 have h00:decide ((0:Int)<((0:Nat):Int))=false:=rfl
 have hz2:decide ((c:Int)=2)=false:=decide_eq_false Y609
 have hz0:decide (((0:Nat):Int)=0)=true:=rfl
 repeat(first|refine JL.q (by first|(apply OQ.load;exact bS;rfl;exact(.there (.there .here));exact(Row.cell (v:=Z k) rfl))|(apply OQ.ai (vs:=[Z k]);exact sW;rfl;exact(fun w' _=>cM w'))) rfl ?_|refine Y91 ?_)
 refine Y245 ?_
 repeat(first|refine JL.q (by first|exact Y579|(apply OQ.fV (a:=(c:Int)) (b:=0);rfl;rfl;exact h0c)|(apply OQ.cZ (a:=(c:Int)) (b:=2);rfl;rfl;exact h2c)|(apply OQ.load;exact jt;rfl;exact(.there (.there .here));exact(Row.cell (v:=.slice ad 0 cap) rfl))|exact Y543|(apply OQ.cZ (a:=((0:Nat):Int)) (b:=0);rfl;rfl;exact h00)|exact Y331|exact Y323|exact Y377) rfl ?_|refine JC.seq ?_|refine JC.region ?_|refine JL.nil ?_|refine JE.next ?_|refine JL.bG rfl rfl ?_)
 refine Y245 ?_
 refine Y102 ?_
 refine JL.zz (xs:=[.const (Z b8),.const (Z E8),.const (Z GD)]) (vs:=[Z b8,Z E8,Z GD]) Tryz.underlying96 Px rfl rfl rfl rfl (fun v hv=>by
  simp only[List.mem_cons,List.not_mem_nil,or_false] at hv
  rcases hv with rfl|rfl|rfl <;> rfl) rfl Y610 Y610 rfl fun b7 _=>?_
 have hci:c<3:=by omega
 have hcell:∀ o,Row 9 [Z b8,Z E8,Z GD] o->cellAt o c=some (Z C):=fun o ho=>by
  refine Row.cell ?_ o ho
  rw[<- hnam]
  exact dF (r:=[b8,E8,GD]) Z [] (show c<3 by omega)
 repeat(first|refine JL.q (by first|(apply OQ.load;exact kg;rfl;exact(.there (.there (.there .here)));exact(Row.cell (v:=.int .i64 c) rfl))|(apply OQ.pX (i:=c);exact Tryz.underlying96;exact w8;rfl;rfl;exact hci)|(apply OQ.load;exact bS;rfl;exact .here;exact hcell)) rfl ?_|refine Y84 ?_)
 refine JL.less (M':=⟨b6,Row 29 [aD (some (b5,1)) [(cF,W)].length,aB.v],true⟩::⟨b4,Row 29 [bV.v,aB.v],true⟩::⟨b2,Row 59 [Z k,ps.v,.int .i64 c,s.v,.slice ad 0 cap],true⟩::(dr 65 (some (b5,1)) [(cF,W)]++[])) (.drop _ _ _ (aj.refl _)) ?_
 clear hcell hnam
 repeat(refine JL.q (by first|exact Y557|(apply OQ.gU (a:=fu) (b:=C);rfl;rfl)|exact Y323) rfl ?_)
 refine JL.w4 (cs:=pc (fu,C)) Tryz.underlying27 fN rfl Y610 Y610 rfl rfl rfl fun b8' _=>?_
 refine JL.perm (M':=⟨b8',Row 65 ([(fu,C)].flatMap pc),true⟩::(dr 65 (some (b5,1)) [(cF,W)]++[⟨b6,Row 29 [aD (some (b5,1)) [(cF,W)].length,aB.v],true⟩,⟨b4,Row 29 [bV.v,aB.v],true⟩,⟨b2,Row 59 [Z k,ps.v,.int .i64 c,s.v,.slice ad 0 cap],true⟩])) ?_ (List.Perm.cons _ (EO _ _ _ _).symm)
 refine JL.nI (L2:=[(fu,C)]) (L:=[(cF,W)]) (some (b5,1)) Tryz.underlying27 fN nofun rfl (Nat.zero_lt_succ _) rfl rfl rfl Y752 (by show 1+1<9223372036854775808;decide) rfl fun b9 cap9=>?_
 refine JL.perm (M':=⟨b6,Row 29 [aD (some (b5,1)) [(cF,W)].length,aB.v],true⟩::⟨b4,Row 29 [bV.v,aB.v],true⟩::⟨b2,Row 59 [Z k,ps.v,.int .i64 c,s.v,.slice ad 0 cap],true⟩::(dr 65 (some (b9,cap9)) [(cF,W),(fu,C)]++[])) ?_ (EO _ _ _ _)
 refine Y303 ?_
 refine JL.aP (b:=b6) (r:=[aD (some (b5,1)) [(cF,W)].length,aB.v]) (r':=[aD (some (b9,cap9)) [(cF,W),(fu,C)].length,aB.v]) yT rfl rfl rfl rfl .here (show 0<2 from Nat.zero_lt_succ _) rfl ?_
 refine Y132 ?_
 refine JL.lB Tryz.underlying22 dV rfl fun b10 _=>?_
 repeat(refine JL.q (by first|(apply OQ.load;exact lO;rfl;exact(.there (.there (.there .here)));exact(Row.cell (v:=s.v) rfl))|exact Y377) rfl ?_)
 refine JL.append (cs:=s.l.map U8) (m:=s.l.length) (ad:=s.ad) (sc:=s.cap) (xs:=[]) (k:=0) (fun b' cap'=>⟨b',Sl.Own 5 1 (0+s.l.length) cap' ([]++s.l.map U8),true⟩::⟨b6,Row 29 [aD (some (b9,cap9)) [(cF,W),(fu,C)].length,aB.v],true⟩::⟨b4,Row 29 [bV.v,aB.v],true⟩::⟨b2,Row 59 [Z k,ps.v,.int .i64 c,s.v,.slice ad 0 cap],true⟩::(dr 65 (some (b9,cap9)) [(cF,W),(fu,C)]++[])) Tryz.underlying22 dV rfl rfl Y642 Y614 (fun w' hw'=>(hs.holds hw' rfl).reads) (sG _) rfl Y610 Y609 Y609 rfl fun b0 cap0=>?_
 rw[Nat.zero_add,List.nil_append]
 let x0:ay:=⟨some ⟨b0,0,none⟩,cap0,s.l⟩
 refine JL.less (M':=x0.an++(⟨b6,Row 29 [aD (some (b9,cap9)) [(cF,W),(fu,C)].length,aB.v],true⟩::⟨b4,Row 29 [bV.v,aB.v],true⟩::⟨b2,Row 59 [Z k,ps.v,.int .i64 c,s.v,.slice ad 0 cap],true⟩::(dr 65 (some (b9,cap9)) [(cF,W),(fu,C)]++[]))) (.keep _ _ _ _ _ _ (fun o h=>⟨Sl.Own.cells o h,by obtain⟨_,_,_,_,h4⟩:=h;exact h4,rfl⟩) (aj.refl _)) ?_
 refine JL.perm (M':=⟨b6,Row 29 [aD (some (b9,cap9)) [(cF,W),(fu,C)].length,aB.v],true⟩::⟨b4,Row 29 [bV.v,aB.v],true⟩::⟨b2,Row 59 [Z k,ps.v,.int .i64 c,s.v,.slice ad 0 cap],true⟩::(x0.an++(dr 65 (some (b9,cap9)) [(cF,W),(fu,C)]++[]))) ?_ (bA x0.an [_,_,_] _)
 refine Y303 ?_
 refine JL.aP (v:=x0.v) (r':=[aD (some (b9,cap9)) [(cF,W),(fu,C)].length,x0.v]) mH rfl rfl rfl rfl .here (show 1<2 by decide) rfl ?_
 refine JL.nil (JE.next ?_)
 refine JC.mid (ι:={ y:ay // iP y (gd (fun b=>b) c s.l) }) (fun _=>[(2,Pt b2 0),(4,Pt b4 0),(6,Pt b6 0)]) (fun y=>⟨b6,Row 29 [aD (some (b9,cap9)) [(cF,W),(fu,C)].length,y.1.v],true⟩::⟨b4,Row 29 [bV.v,aB.v],true⟩::⟨b2,Row 59 [Z k,ps.v,.int .i64 c,s.v,.slice ad 0 cap],true⟩::(y.1.an++(dr 65 (some (b9,cap9)) [(cF,W),(fu,C)]++[]))) (fun _=>True) ?_ ?_
 · cases h1:decide ((c:Int)=1)
   · have hB:gd (fun b=>b) (c:Int) s.l=s.l:=by
      unfold gd
      rw[if_neg (of_decide_eq_false h1),if_neg (of_decide_eq_false hz2)]
     repeat(first|refine JL.q Y761 rfl ?_|refine Y91 ?_)
     refine Y245 ?_
     repeat(refine JC.skip ?_)
     exact JE.mid (⟨x0,by rw[hB];exact⟨rfl,nofun⟩⟩:{ y:ay // iP y (gd (fun b=>b) c s.l) }) trivial Y640 (aj.refl _)
   · have hB:gd (fun b=>b) (c:Int) s.l=bQ.e6 s.l:=by
      unfold gd
      rw[if_pos (of_decide_eq_true h1)]
     repeat(first|refine JL.q Y761 rfl ?_|refine Y91 ?_)
     refine Y246 ?_
     repeat(first|refine JL.q (by first|(apply OQ.load;exact lO;rfl;exact(.there (.there .here));exact(Row.cell (v:=s.v) rfl))|exact Y377) rfl ?_|refine JC.region ?_)
     refine JL.bD (ι:={ y:ay // iP y (bQ.e6 s.l) }) (vs:=[s.v]) (fun y=>y.1.v) (fun y=>y.1.an) CG rfl rfl (fun y=>y.1.bH) (fun w' hw'=>(Ce s w' (hs.holds hw' rfl) Y609).mono fun e w2 ⟨y,h1,h2,h3⟩=>⟨⟨y,h2⟩,h1,h3⟩) ?_
     intro y
     refine JL.less (M':=y.1.an++(⟨b6,Row 29 [aD (some (b9,cap9)) [(cF,W),(fu,C)].length,x0.v],true⟩::⟨b4,Row 29 [bV.v,aB.v],true⟩::⟨b2,Row 59 [Z k,ps.v,.int .i64 c,s.v,.slice ad 0 cap],true⟩::(dr 65 (some (b9,cap9)) [(cF,W),(fu,C)]++[]))) (bI (.keep _ _ _ _ _ _ (fun _ h=>h) (.keep _ _ _ _ _ _ (fun _ h=>h) (.keep _ _ _ _ _ _ (fun _ h=>h) (aS _ (aj.refl _))))) _) ?_
     refine JL.perm (M':=⟨b6,Row 29 [aD (some (b9,cap9)) [(cF,W),(fu,C)].length,x0.v],true⟩::⟨b4,Row 29 [bV.v,aB.v],true⟩::⟨b2,Row 59 [Z k,ps.v,.int .i64 c,s.v,.slice ad 0 cap],true⟩::(y.1.an++(dr 65 (some (b9,cap9)) [(cF,W),(fu,C)]++[]))) ?_ (bA y.1.an [_,_,_] _)
     refine Y303 ?_
     refine JL.aP (v:=y.1.v) (r':=[aD (some (b9,cap9)) [(cF,W),(fu,C)].length,y.1.v]) mH rfl rfl rfl rfl .here (show 1<2 by decide) rfl ?_
     repeat(refine JL.nil ?_)
     exact JE.mid (⟨y.1,by rw[hB];exact y.2⟩:{ y:ay // iP y (gd (fun b=>b) c s.l) }) trivial Y640 (aj.refl _)
 rintro y _
 repeat(first|refine JL.q (by first|exact Y579|(apply OQ.ep (a:=(c:Int)) (b:=2);rfl;rfl;exact hz2)) rfl ?_|refine Y91 ?_)
 refine Y245 ?_
 have cl:∀ (X:List aL) w',aa w [] (X++(y.1.an++(dr 65 (some (b9,cap9)) [(cF,W),(fu,C)]++[]))) w'->Calls Tryz.prog 20 [.agg #[aD (some (b9,cap9)) [(cF,W),(fu,C)].length,y.1.v]].toArray w' fun e w2=>∃ z:{ z:ay // iP z (bt [(cF,W),(fu,C)] (gd (fun b=>b) c s.l)) },e=.returned (.tuple #[z.1.v,N 0])/\aa w' [] z.1.an w2:=fun X w' hw'=>by
  have h0:=Sl.aa.weak hw' (aS X (aj.refl _))
  have oks:y.1.ok w':=ay.bU h0 y.2.none
  have okf:(ew (some (b9,cap9)) [(cF,W),(fu,C)]).ok w':=qj (Sl.aa.weak h0 (aS _ (aj.refl _)))
  have h1:=mA _ _ w' okf oks (fun q hq=>hlF q hq) (by show [(cF,W),(fu,C)].length<=_;show 2<=1000000;decide) (by rw[y.2.val];omega)
  rw[kD,y.2.val] at h1
  rw[show(ew (some (b9,cap9)) [(cF,W),(fu,C)]).l=[(cF,W),(fu,C)] from rfl,fin1] at h1
  exact h1
 repeat(first|refine JL.q (by exact Y580) rfl ?_|refine Y197 ?_)
 refine JL.bD (ι:={ z:ay // iP z (bt [(cF,W),(fu,C)] (gd (fun b=>b) c s.l)) }) (vs:=[.agg #[aD (some (b9,cap9)) [(cF,W),(fu,C)].length,y.1.v]]) (fun z=>.tuple #[z.1.v,N 0]) (fun z=>z.1.an) pI rfl rfl (fun z=>z.1.bH) (cl [_,_,_]) ?_
 intro z
 refine JL.less (M':=⟨b6,Row 29 [aD (some (b9,cap9)) [(cF,W),(fu,C)].length,y.1.v],true⟩::⟨b4,Row 29 [bV.v,aB.v],true⟩::⟨b2,Row 59 [Z k,ps.v,.int .i64 c,s.v,.slice ad 0 cap],true⟩::(y.1.an++(dr 65 (some (b9,cap9)) [(cF,W),(fu,C)]++[]))) (aS _ (aj.refl _)) ?_
 repeat(first|refine JL.q (by(apply OQ.fh (a:=((0:Nat):Int)) (b:=0);rfl;rfl;exact hz0)) rfl ?_|refine Y6 ?_)
 refine Y245 ?_
 repeat(first|refine JL.q (by exact Y580) rfl ?_|refine Y197 ?_)
 refine JL.ax (cs:=[aD (some (b9,cap9)) [(cF,W),(fu,C)].length,y.1.v]) aZ rfl rfl rfl rfl (.there .here) rfl ?_
 refine Y39 ?_
 refine Y247 ?_
 skip
 refine JE.aV rfl (RV.aT (cs:=[aD (some (b9,cap9)) [(cF,W),(fu,C)].length,y.1.v]) c7 aZ rfl (.there .here) rfl Row.all) (RV.tmp rfl) fun w' hw=>?_
 refine⟨⟨ew (some (b9,cap9)) [(cF,W),(fu,C)],y.1,rfl,y.2.val,nofun,y.2.none⟩,rfl,?_⟩
 have h1:aa w [] (y.1.an++(dr 65 (some (b9,cap9)) [(cF,W),(fu,C)]++[])) w':=hw.weak (.drop _ _ _ (.drop _ _ _ (.drop _ _ _ (aj.refl _))))
 rw[List.append_nil] at h1
 show aa w [] ((ew (some (b9,cap9)) [(cF,W),(fu,C)]).an++y.1.an) w'
 exact(Sl.aa.weak h1 (bI j8 _)).perm' List.perm_append_comm
theorem Sl.lP{A A':Obj->Prop}{b:Nat}(N:List aL){M M':List aL}(h:ki M b A A' M'):ki (N++M) b A A' (N++M'):=by
 induction N with
 | nil=>exact h
 | cons e N ih=>exact .there ih
theorem CH:aJ Tryz.prog 53:=⟨_,Tryz.func53,rfl,by kernel_rfl⟩
theorem CI:aJ Tryz.prog 44:=⟨_,Tryz.func44,rfl,by kernel_rfl⟩
theorem CJ:aJ Tryz.prog 52:=⟨_,Tryz.func52,rfl,by kernel_rfl⟩
theorem CK:aJ Tryz.prog 11:=⟨_,Tryz.func11,rfl,by kernel_rfl⟩
theorem QL:gX Tryz.prog 22=some 1:=by kernel_rfl
def ms(c:List Bt):List (List Bt):=[uB,pU c]
def Aw(c:List Bt):List Bt:=jn gS (ms c) []
theorem sn:dQ eE iO=true/\fo eE=true/\cG gS=true/\cJ iO fF=gS/\oA.all (fun p=>c8 p.1&&fC p.2)=true/\(dg oA).length<=1000:=by
 have h:=nR
 unfold m3 at h
 simp only[Bool.and_eq_true,decide_eq_true_eq] at h
 exact⟨h.1,h.2.1,h.2.2.1,h.2.2.2.1,h.2.2.2.2.1,h.2.2.2.2.2.1⟩
theorem IC(c:List Bt):de (Aw c) gS=(ms c,0):=E5 sn.2.2.1 (by simp[ms]) fun p hp=>by
 simp only[ms,List.mem_cons,List.not_mem_nil,or_false] at hp
 rcases hp with rfl|rfl
 · exact Jp
 · exact Jq _
theorem Gq(c:List Bt)(h:c.length<=3000):(Aw c).length<=15000:=by
 have h1:=nS
 have h2:=nU c
 unfold Aw ms
 simp only[jn,List.flatMap_cons,List.flatMap_nil,List.length_append,List.length_cons,List.length_nil,gS]
 omega
theorem SD(c:List Bt)(h:c.length<=3000):bJ oA (Aw c)=0:=by
 have h1:=Gq c h
 obtain⟨_,_,_,_,h5,h6⟩:=sn
 unfold bJ
 rw[if_pos h5,if_neg]
 rintro(h|h|h)
 · have h:200<1:=h
   omega
 · omega
 · omega
theorem LV(c:List Bt)(h:c.length<=3000):∀ i,((ms c).getD i []).length<=15000:=by
 have h1:=nS
 have h2:=nU c
 intro i
 match i with
 | 0=>show uB.length<=_;omega
 | 1=>show(pU c).length<=_;omega
 | i+2=>exact Nat.zero_le _
theorem SE(c:List Bt)(h:c.length<=3000):∀ i,(upTo gS ((ms c).take i)).length<=15000:=by
 have h1:=nS
 have h2:=nU c
 intro i
 match i with
 | 0=>exact Nat.zero_le _
 | 1=>simp only[ms,List.take,upTo,List.flatMap_cons,List.flatMap_nil,List.length_append,List.length_cons,List.length_nil,gS];omega
 | i+2=>simp only[ms,List.take,upTo,List.flatMap_cons,List.flatMap_nil,List.length_append,List.length_cons,List.length_nil,gS,List.take_nil];omega
def lets(c:List Bt):List (List Pr × List Bt):=[(eG eW 0,kq),(eG fQ 1,bQ.e6 c)]
theorem QM(c:List Bt)(h:c.length<=3000)(i:Nat)(hi:i<2):bt ((lets c).getD i ([],[])).1 ((lets c).getD i ([],[])).2=(ms c).getD i []:=by
 have hl:=jJ c
 match i,hi with
 | 0,_=>exact(lg (gr pT) (show kq.length<=100000 by decide)).2
 | 1,_=>exact(lg (gr ld) (show(bQ.e6 c).length<=100000 by omega)).2
theorem LW(c:List Bt)(i:Nat)(hi:i<2):((lets c).getD i ([],[])).1.length<=2/\∀ p∈((lets c).getD i ([],[])).1,p.1.length<=100/\p.2.length<=100:=by
 have h:∀ p∈eG eW 0++eG fQ 1,p.1.length<=100/\p.2.length<=100:=by decide +kernel
 match i,hi with
 | 0,_=>exact⟨Nat.le_refl _,fun p hp=>h p (List.mem_append_left _ hp)⟩
 | 1,_=>exact⟨Nat.le_refl _,fun p hp=>h p (List.mem_append_right _ hp)⟩
theorem ID(c:List Bt)(h:c.length<=3000)(i:Nat)(hi:i<2):((lets c).getD i ([],[])).2.length<=100000:=by
 have hl:=jJ c
 match i,hi with
 | 0,_=>show kq.length<=_;decide
 | 1,_=>show(bQ.e6 c).length<=_;omega
theorem EP:(dj eE iO).length<=200:=by decide +kernel
theorem uc:∀ p∈iO,p.1.length<1000/\p.2.length<1000:=by decide +kernel
theorem LX{d:Nat}{w:World}{p:Part}{cs:List Value}(h:dJ (d+1) w p cs):cs.all Value.oneCell'=true:=by
 obtain⟨ps,body,ad,cap,bK,rfl,_⟩:=h
 rfl
structure TM where
 i:Nat
 qb:Acc
 qm:Nat × Nat
 rs:List ay
theorem QN(Z A B V R:List aL):(Z++(A++(B++(V++R)))).Perm (V++(A++(B++(Z++R)))):=by
 have h1:(Z++(A++(B++(V++R)))).Perm (A++(B++(V++(Z++R)))):=by
  refine(bA Z A _).trans (List.Perm.append_left A ?_)
  refine(bA Z B _).trans (List.Perm.append_left B ?_)
  exact bA Z V R
 refine h1.trans ?_
 refine(List.Perm.append_left A (bA B V _)).trans ?_
 exact bA A V _
theorem QO(V A B Z R:List aL):(V++(A++(B++(Z++R)))).Perm (A++(B++(V++(Z++R)))):=by
 refine(bA V A _).trans (List.Perm.append_left A ?_)
 exact bA V B _
theorem CL(rs:List ay)(m:ay)(F:List aL):(m.an++(bh rs++F)).Perm (bh (rs++[m])++F):=by
 unfold bh
 rw[List.flatMap_append,List.flatMap_cons,List.flatMap_nil,List.append_nil,List.append_assoc]
 exact bA _ _ _
theorem ER(e:kG)(cs:List Value)(w:World)(hp:dJ 3 w (fT e.en) cs)(h0:e.pl=false)(hc:e.ci.l.length<=3000):Calls Tryz.prog 28 [.agg cs.toArray,N 0].toArray w
  fun x w'=>∃ y:W2 (.ok (oA,Aw e.ci.l)),x=.returned (.tuple #[.agg #[y.f.v,y.s.v],N 0])/\aa w [] y.an w':=by
 have e0:fT e.en=.mk eE iO 0 [] [.mk eW [] 0 kq [],.mk fQ [] 1 e.ci.l []]:=by
  unfold fT
  rw[show e.en.pl=false from h0]
  rfl
 rw[e0] at hp
 obtain⟨ps,body,ad,cap,bK,rfl,⟨okp,lp⟩,⟨okb,lb⟩,hcap,hr,hsl,hsub⟩:=hp
 have lp:ps.l=iO:=lp
 have lb:body.l=[]:=lb
 have hsl:bK.length=2:=hsl
 have cw:∀ i,i<2->∀ (M:List aL) (w':World),aa w [] M w'->Calls Tryz.prog 28 [.agg (bK.getD i []).toArray,N 1].toArray w' fun x w2=>∃ y:W2 (.ok ((lets e.ci.l).getD i ([],[]))),x=.returned (.tuple #[.agg #[y.f.v,y.s.v],N 0])/\aa w' [] y.an w2:=by
  intro i hi M w' hw'
  match i,hi with
  | 0,_=>
    obtain⟨ps0,bo0,ad0,cap0,subs0,e1,⟨okp0,lp0⟩,⟨okb0,lb0⟩,_⟩:=hsub 0 Y609
    have lb0:bo0.l=kq:=lb0
    have:=pJ (k:=eW) (c:=0) (gr pT) Y610 (.inl rfl) ps0 bo0 ad0 cap0 1 w' (okp0.holds hw' rfl) lp0 (okb0.holds hw' rfl) (by rw[lb0];decide)
    rw[lb0] at this
    rw[e1]
    exact this
  | 1,_=>
    obtain⟨ps0,bo0,ad0,cap0,subs0,e1,⟨okp0,lp0⟩,⟨okb0,lb0⟩,_⟩:=hsub 1 Y609
    have lb0:bo0.l=e.ci.l:=lb0
    have:=pJ (k:=fQ) (c:=1) (gr ld) Y610 (.inr rfl) ps0 bo0 ad0 cap0 1 w' (okp0.holds hw' rfl) lp0 (okb0.holds hw' rfl) (by rw[lb0];omega)
    rw[lb0] at this
    rw[e1]
    exact this
 obtain⟨f1,f2,f3,f4,f5,f6⟩:=sn
 have cR:=fun (M:List aL) (w':World) (hw':aa w [] M w')=>sL eE ps w' (okp.holds hw' rfl) (by rw[lp];exact fun p hp=>by have:=uc p hp;omega) (by rw[lp];decide) Y610
 have cW:=fun (M:List aL) (w':World) (hw':aa w [] M w')=>wK eE ps w' (okp.holds hw' rfl) (by rw[lp];exact uc) (by rw[lp];decide) Y610
 have cM:=fun w'=>vW eE w' Y610
 have cP:=fun (M:List aL) (w':World) (hw':aa w [] M w')=>Af ps fF w' (okp.holds hw' rfl) (by rw[lp];decide)
 have cB:=fun w'=>vK gS w' Y610
 rw[lp,f1] at cR
 rw[lp] at cW
 rw[f2] at cM
 rw[lp,f4] at cP
 rw[f3] at cB
 have hwl:=EP
 have hF:oA=[(cF,dj eE iO)]:=rfl
 have fK:=SD e.ci.l hc
 have fS:=IC e.ci.l
 have fL:=Gq e.ci.l hc
 rw[hF] at fK⊢
 generalize dj eE iO=W at *
 refine enter (n:=211) Tryz.func28 rfl rfl rfl (aa.start w []) ?_
 refine JC.seq (JC.region (JL.box (r:=[Z eE,ps.v,.int .i64 0,body.v,.slice ad 2 cap]) rfl rfl rfl fun b2 _=>?_))
 refine JL.alloc iB rfl fun b4 _=>?_
 repeat(first|refine JL.q (by first|exact Y581|exact Y551|(apply OQ.ai (vs:=[Z eE,ps.v]);exact oE;rfl;exact(cR _))) rfl ?_|refine Y219 ?_)
 refine Y245 ?_
 repeat(first|refine JL.q (by first|exact Y581|exact Y551|(apply OQ.ai (vs:=[Z eE,ps.v]);exact wM;rfl;exact(cW _))|exact Y553) rfl ?_|refine Y220 ?_)
 refine JL.w4 (cs:=pc (cF,W)) Tryz.underlying27 fN rfl (by decide) (by decide) rfl rfl rfl fun b5 _=>?_
 repeat(refine JL.q (by(apply wN (b:=b5);rfl)) rfl ?_)
 refine JL.alloc iB rfl fun b6 _=>?_
 refine JL.ax (cs:=[aD (some (b5,1)) 1,aB.v]) aZ rfl rfl rfl rfl .here rfl ?_
 refine JL.perm (M':=⟨b6,Row 29 [aD (some (b5,1)) 1,aB.v],true⟩::⟨b4,Row 29 [bV.v,aB.v],true⟩::⟨b2,Row 59 [Z eE,ps.v,.int .i64 0,body.v,.slice ad 2 cap],true⟩::([⟨b5,Row 65 (pc (cF,W)),true⟩]++[])) ?_ (List.Perm.cons _ (LU _ _ _))
 refine JL.less (M':=⟨b6,Row 29 [aD (some (b5,1)) 1,aB.v],true⟩::⟨b4,Row 29 [bV.v,aB.v],true⟩::⟨b2,Row 59 [Z eE,ps.v,.int .i64 0,body.v,.slice ad 2 cap],true⟩::(dr 65 (some (b5,1)) [(cF,W)]++[])) (.keep _ _ _ _ _ _ (fun _ h=>h) (.keep _ _ _ _ _ _ (fun _ h=>h) (.keep _ _ _ _ _ _ (fun _ h=>h) (.keep _ _ _ _ _ _ (fun o h=>wH o h) (.nil _))))) ?_
 clear cR cW
 have hl0:decide ((0:Int)<(body.l.length:Int))=false:=by rw[lb];rfl
 have hk0:decide ((((2:Nat):Int))=0)=false:=rfl
 have hi0:decide ((0:Int)=0)=true:=rfl
 have hg8:decide ((8:Int)<=((0:Nat):Int))=false:=rfl
 have h00:decide (((0:Nat):Int)=0)=true:=rfl
 have h22:decide (((2:Nat):Int)=((2:Nat):Int))=true:=rfl
 repeat(first|refine JL.q (by first|(apply OQ.load;exact bS;rfl;exact(.there (.there .here));exact(Row.cell (v:=Z eE) rfl))|(apply OQ.ai (vs:=[Z eE]);exact sW;rfl;exact(fun w' _=>cM w'))) rfl ?_|refine Y91 ?_)
 refine Y246 ?_
 repeat(first|refine JL.q (by first|(apply OQ.load;exact IV;rfl;exact(.there (.there .here));exact(Row.cell (v:=ps.v) rfl))|(apply OQ.ai (vs:=[ps.v,Z fF]);exact CI;rfl;exact(cP _))|(apply OQ.load;exact jt;rfl;exact(.there (.there .here));exact(Row.cell (v:=.slice ad 2 cap) rfl))|exact Y543|(apply OQ.ep (a:=((2:Nat):Int)) (b:=0);rfl;rfl;exact hk0)|(apply OQ.ai (vs:=[Z gS]);exact CJ;rfl;exact(fun w' _=>cB w'))|exact Y329|(apply OQ.load;exact kg;rfl;exact(.there (.there .here));exact(Row.cell (v:=.int .i64 0) rfl))|(apply OQ.fh (a:=(0:Int)) (b:=0);rfl;rfl;exact hi0)|(apply OQ.load;exact lO;rfl;exact(.there (.there .here));exact(Row.cell (v:=body.v) rfl))|exact Y406|(apply OQ.cZ (a:=(body.l.length:Int)) (b:=0);rfl;rfl;exact hl0)|exact Y331|exact Y323|exact Y324|exact Y377) rfl ?_|refine JC.seq ?_|refine JC.region ?_|refine JL.nil ?_|refine JE.next ?_|refine JL.bG rfl rfl ?_)
 refine Y245 ?_
 repeat(first|refine JL.q (by(apply OQ.dn (a:=((0:Nat):Int)) (b:=8);rfl;rfl;exact hg8)) rfl ?_|refine Y68 ?_)
 refine Y245 ?_
 refine Y102 ?_
 refine JL.lB Tryz.underlying93 qz rfl fun b8 _=>?_
 let F:List aL:=dr 65 (some (b5,1)) [(cF,W)]++[]
 let B3:Nat->Acc->List aL:=fun n q=>[⟨b6,Row 29 [aD (some (b5,1)) 1,aD q n],true⟩,⟨b4,Row 29 [bV.v,aB.v],true⟩,⟨b2,Row 59 [Z eE,ps.v,.int .i64 0,body.v,.slice ad 2 cap],true⟩]
 refine JL.less (M':=bw 22 (some (b8,0)) (([]:List ay).map ay.v)++(B3 0 none++F)) (aj.refl _) ?_
 refine JL.perm (M':=bw 5 none ((upTo gS (([]:List ay).map ay.l)).map U8)++(B3 ((upTo gS (([]:List ay).map ay.l)).map U8).length none++(bw 22 (some (b8,0)) (([]:List ay).map ay.v)++(bh []++F)))) ?_ (bA _ (B3 0 none) F)
 refine Y7 ?_
 refine JC.loop (fun z:TM=>[(1,N 0),(2,Pt b2 0),(4,Pt b4 0),(6,Pt b6 0),(7,Z gS),(8,aD (some z.qm) (z.rs.map ay.v).length),(9,N z.i)]) (fun z=>bw 5 z.qb ((upTo gS (z.rs.map ay.l)).map U8)++(B3 ((upTo gS (z.rs.map ay.l)).map U8).length z.qb++(bw 22 (some z.qm) (z.rs.map ay.v)++(bh z.rs++F)))) (fun z=>2-z.i)
  (fun z=>z.i<=2/\(z.qb=none->(upTo gS (z.rs.map ay.l)).map U8=[])/\z.rs.map ay.l=(ms e.ci.l).take z.i/\∀ x∈z.rs,x.ad=none->x.l=[]) ⟨0,none,(b8,0),[]⟩
  ⟨Nat.zero_le _,fun _=>rfl,rfl,nofun⟩ Y640 (aj.refl _) ?_
 rintro⟨i,qb,qm,rs⟩ ⟨hi,hqb,hrl,hrs⟩
 dsimp only at hi hqb hrl hrs⊢
 have hul:((upTo gS (rs.map ay.l)).map U8).length<=15000:=by rw[List.length_map,hrl];exact SE e.ci.l hc i
 have hrn:rs.length=i:=by
  have:=congrArg List.length hrl
  rw[List.length_map,List.length_take] at this
  rw[this]
  exact Nat.min_eq_left hi
 repeat(first|refine JL.q (by first|(apply OQ.load;exact jt;rfl;exact(dA _ (.there (.there .here)));exact(Row.cell (v:=.slice ad 2 cap) rfl))|exact Y543|exact Y323|exact Y387|exact Y377) rfl ?_|refine JC.seq ?_|refine JC.region ?_|refine JL.nil ?_|refine JE.next ?_)
 refine JC.cond rfl (fun h=>?_) (fun h=>?_)
 · have hi':i<2:=of_decide_eq_true h
   clear h
   obtain⟨ba,j,rfl,lt,hcc⟩:=zT hr hsub (show i<bK.length by omega)
   have k1:=hsub i Y609
   have c5:=k1.len
   have c1:=LX k1
   have cwi:=cw i hi'
   have hO:=QM e.ci.l hc i hi'
   obtain⟨hll,hlp⟩:=LW e.ci.l i hi'
   have hlb:=ID e.ci.l hc i hi'
   have hml:=LV e.ci.l hc i
   have hnext:(ms e.ci.l).take (i+1)=(ms e.ci.l).take i++[(ms e.ci.l).getD i []]:=by
    rw[List.take_add_one,List.getElem?_eq_getElem (show i<(ms e.ci.l).length from hi'),List.getD_eq_getElem?_getD,List.getElem?_eq_getElem (show i<(ms e.ci.l).length from hi')]
    rfl
   generalize bK.getD i []=cc at hcc c5 c1 cwi
   generalize (lets e.ci.l).getD i ([],[])=lt' at cwi hO hll hlp hlb
   generalize (ms e.ci.l).getD i []=mi at hO hml hnext
   repeat(first|refine JL.q (by first|(apply OQ.load;exact jt;rfl;exact(dA _ (.there (.there .here)));exact(Row.cell (v:=.slice (some ⟨ba,j,none⟩) 2 cap) rfl))|exact Y548|(apply OQ.bE (cs:=cc);exact TW;rfl;exact(by rw[c5];exact iE);exact lt;exact Y614;exact hcc)|exact Y323|exact Y337|exact Y377) rfl ?_|refine JC.seq ?_|refine JC.region ?_|refine JC.block ?_|refine JC.skip ?_|refine JE.next ?_)
   refine JL.bD (ι:=W2 (.ok lt')) (vs:=[.agg cc.toArray,N 1]) (fun y=>.tuple #[.agg #[y.f.v,y.s.v],N 0]) (fun y=>y.an) wL rfl rfl (fun y=>y.wr) (cwi _) ?_
   intro y
   have hyf:y.f.l=lt'.1:=y.hf
   have hys:y.s.l=lt'.2:=y.hs
   refine Y285 ?_
   refine JL.alloc iB rfl fun b10 _=>?_
   refine Y298 ?_
   refine Y194 ?_
   refine Y245 ?_
   refine Y221 ?_
   have cl:∀ (X:List aL) w',aa w [] (⟨b10,Row 29 [y.f.v,y.s.v],true⟩::((y.f.an++y.s.an)++X)) w'->Calls Tryz.prog 20 [.agg #[y.f.v,y.s.v]].toArray w' fun e w2=>∃ z:{ z:ay // iP z mi },e=.returned (.tuple #[z.1.v,N (bJ lt'.1 lt'.2)])/\aa w' [] z.1.an w2:=fun X w' hw'=>by
    have h1:aa w [] (y.f.an++(y.s.an++X)) w':=by
     rw[<- List.append_assoc]
     exact Y299
    have h1:=mA y.f y.s w' (gm.bU h1 y.nf) (ay.bU (Sl.aa.weak h1 (aS _ (aj.refl _))) y.ns) (fun q hq=>by rw[hyf] at hq;have:=hlp q hq;omega) (by rw[hyf];omega) (by rw[hys];omega)
    rw[hyf,hys,hO] at h1
    exact h1
   refine JL.bD (ι:={ z:ay // iP z mi }) (vs:=[.agg #[y.f.v,y.s.v]]) (fun z=>.tuple #[z.1.v,N (bJ lt'.1 lt'.2)]) (fun z=>z.1.an) pI rfl rfl (fun z=>z.1.bH) (cl _) ?_
   rintro⟨m,hm⟩
   have hmv:=hm.val
   have hmn:=hm.none
   have hml2:m.l.length<=15000:=by rw[hmv];exact hml
   dsimp only
   refine JL.less (M':=m.an++(bw 5 qb ((upTo gS (rs.map ay.l)).map U8)++(B3 ((upTo gS (rs.map ay.l)).map U8).length qb++(bw 22 (some qm) (rs.map ay.v)++(bh rs++F))))) (bI (.drop _ _ _ (aS _ (aj.refl _))) _) ?_
   clear cl hO hlb
   refine Y125 ?_
   refine JL.q9 (v:=m.v) Tryz.underlying93 qz rfl rfl rfl rfl fun bl _=>?_
   refine JL.perm (M':=⟨bl,Row 22 [m.v],true⟩::(bw 22 (some qm) (rs.map ay.v)++(bw 5 qb ((upTo gS (rs.map ay.l)).map U8)++(B3 ((upTo gS (rs.map ay.l)).map U8).length qb++(m.an++(bh rs++F)))))) ?_ (List.Perm.cons _ (QN _ _ _ _ _))
   have hvl:(rs.map ay.v).length=rs.length:=List.length_map _
   refine JL.Gk (L:=rs.map ay.v) (v:=m.v) (some qm) Tryz.underlying93 qz nofun rfl rfl rfl rfl Y749 Y749 rfl fun b' cap'=>?_
   rw[show rs.map ay.v++[m.v]=(rs++[m]).map ay.v by rw[List.map_append];rfl]
   refine JL.perm (M':=bw 5 qb ((upTo gS (rs.map ay.l)).map U8)++(B3 ((upTo gS (rs.map ay.l)).map U8).length qb++(bw 22 (some (b',cap')) ((rs++[m]).map ay.v)++(m.an++(bh rs++F))))) ?_ (QO _ _ _ _ _)
   have hr13:([13,10]:List Bt).map U8=[U8 13,U8 10]:=rfl
   have e3:((upTo gS (rs.map ay.l)).map U8++(([45,45]++gS)++[13,10]:List Bt).map U8)++m.l.map U8++[U8 13,U8 10]=(upTo gS ((rs++[m]).map ay.l)).map U8:=by
    rw[List.map_append (l₁:=rs),show [m].map ay.l=[m.l] from rfl,yP,<- hr13]
    simp only[List.map_append,List.append_assoc]
    rfl
   generalize hX:(upTo gS (rs.map ay.l)).map U8=X at hqb hul e3⊢
   repeat(first|refine JL.q (by first|exact Y582|exact Y583|(apply OQ.fH (l:=[45,45]++gS) (r:=[13,10]);rfl;rfl;exact Y610)) rfl ?_|refine Y144 ?_)
   refine JL.jB (r:=([45,45]++gS)++[13,10]) (xs:=X) qb Tryz.underlying22 Tryz.underlying9 dV hqb rfl rfl nofun (by show X.length+17<=_;omega) rfl fun p1=>?_
   have l1:(X++(([45,45]++gS)++[13,10]:List Bt).map U8).length<=15017:=by rw[List.length_append];show X.length+17<=_;omega
   generalize X++(([45,45]++gS)++[13,10]:List Bt).map U8=X1 at e3 l1⊢
   refine Y303 ?_
   refine JL.aP (v:=aD (some p1) X1.length) (r':=[aD (some (b5,1)) 1,aD (some p1) X1.length]) mH rfl rfl rfl rfl (Sl.lP _ .here) (show 1<2 by decide) rfl ?_
   repeat(first|refine JL.q (by(apply OQ.load;exact lO;rfl;exact(dA _ .here);exact(Row.cell (v:=aD (some p1) X1.length) rfl))) rfl ?_|refine Y222 ?_)
   refine JL.je (z:=.int .u8 0) (by':=1) (m:=m.l.length) (cs:=m.l.map U8) (some p1) Tryz.underlying22 dV nofun rfl rfl (List.length_map _) (fun w' hw'=>(ay.bU (M:=bh rs++F) (Sl.aa.weak hw' (aS _ (aS [_,_,_] (aS _ (aj.refl _))))) hmn).reads) (fun v hv=>by obtain⟨c,_,rfl⟩:=List.mem_map.1 hv;rfl) rfl Y609 Y609 rfl fun q2 hq2=>?_
   have l2:(X1++m.l.map U8).length<=30017:=by rw[List.length_append,List.length_map];omega
   generalize X1++m.l.map U8=X2 at e3 l2 hq2⊢
   refine Y303 ?_
   refine JL.aP (v:=aD q2 X2.length) (r':=[aD (some (b5,1)) 1,aD q2 X2.length]) mH rfl rfl (iI _ _) (fZ _ _) (Sl.lP _ .here) (show 1<2 by decide) rfl ?_
   repeat(first|refine JL.q (by first|(apply OQ.load;exact lO;rfl;exact(dA _ .here);exact(Row.cell (v:=aD q2 X2.length) rfl))|exact Y377) rfl ?_|refine JC.region ?_|refine JL.nil ?_|refine JE.next ?_)
   refine JL.zz (xs:=[.const (U8 13),.const (U8 10)]) (vs:=[U8 13,U8 10]) Tryz.underlying22 dV rfl rfl rfl rfl (fun v hv=>by
    simp only[List.mem_cons,List.not_mem_nil,or_false] at hv
    rcases hv with rfl|rfl <;> rfl) rfl Y610 Y610 rfl fun bc _=>?_
   refine JL.perm (M':=bw 5 q2 X2++(⟨bc,Row 5 [U8 13,U8 10],true⟩::(⟨b6,Row 29 [aD (some (b5,1)) 1,aD q2 X2.length],true⟩::⟨b4,Row 29 [bV.v,aB.v],true⟩::⟨b2,Row 59 [Z eE,ps.v,.int .i64 0,body.v,.slice (some ⟨ba,j,none⟩) 2 cap],true⟩::(bw 22 (some (b',cap')) ((rs++[m]).map ay.v)++(m.an++(bh rs++F)))))) ?_ List.perm_middle.symm
   refine JL.je (z:=.int .u8 0) (by':=1) (m:=2) (cs:=[U8 13,U8 10]) q2 Tryz.underlying22 dV hq2 rfl rfl rfl (fun w' hw'=>by
    obtain⟨o,ho,hA⟩:=hw'.get (b:=bc) (A:=Row 5 [U8 13,U8 10]) (wr:=true) (dA _ .here)
    exact Reads.block ho (Row.all _ hA)) (fun v hv=>by
    simp only[List.mem_cons,List.not_mem_nil,or_false] at hv
    rcases hv with rfl|rfl <;> rfl) rfl Y609 Y609 rfl fun q3 hq3=>?_
   rw[e3] at hq3⊢
   refine JL.less (M':=bw 5 q3 ((upTo gS ((rs++[m]).map ay.l)).map U8)++(⟨b6,Row 29 [aD (some (b5,1)) 1,aD q2 X2.length],true⟩::⟨b4,Row 29 [bV.v,aB.v],true⟩::⟨b2,Row 59 [Z eE,ps.v,.int .i64 0,body.v,.slice (some ⟨ba,j,none⟩) 2 cap],true⟩::(bw 22 (some (b',cap')) ((rs++[m]).map ay.v)++(m.an++(bh rs++F))))) (bI (.drop _ _ _ (aj.refl _)) _) ?_
   refine Y303 ?_
   refine JL.aP (v:=aD q3 ((upTo gS ((rs++[m]).map ay.l)).map U8).length) (r':=[aD (some (b5,1)) 1,aD q3 ((upTo gS ((rs++[m]).map ay.l)).map U8).length]) mH rfl rfl (iI _ _) (fZ _ _) (Sl.lP _ .here) (show 1<2 by decide) rfl ?_
   refine Y18 ?_
   refine JE.perm (M':=bw 5 q3 ((upTo gS ((rs++[m]).map ay.l)).map U8)++(B3 ((upTo gS ((rs++[m]).map ay.l)).map U8).length q3++(bw 22 (some (b',cap')) ((rs++[m]).map ay.v)++(bh (rs++[m])++F)))) (List.Perm.append_left _ (List.Perm.cons _ (List.Perm.cons _ (List.Perm.cons _ (List.Perm.append_left _ (CL rs m F)))))) ?_
   refine JE.again (i:=TM.mk i qb qm rs) (TM.mk (i+1) q3 (b',cap') (rs++[m])) ⟨hi',hq3,?_,fun x hx=>?_⟩ (by show 2-(i+1)<2-i;omega) Y640 (aj.refl _)
   · show(rs++[m]).map ay.l=(ms e.ci.l).take (i+1)
     rw[List.map_append,hrl,hnext,show [m].map ay.l=[m.l] from rfl,hmv]
   · rcases List.mem_append.1 hx with h|h
     · exact hrs x h
     · rw[List.mem_singleton.1 h];exact hmn
 · have hi':¬ i<2:=of_decide_eq_false h
   obtain rfl:i=2:=by omega
   clear h hi hi' cw
   have hrm:rs.map ay.l=ms e.ci.l:=hrl
   have hj0:(upTo gS (rs.map ay.l)).map U8++(([45,45]++gS)++[45,45,13,10]:List Bt).map U8=(Aw e.ci.l).map U8:=by
    rw[hrm,show Aw e.ci.l=upTo gS (ms e.ci.l)++(([45,45]++gS)++[45,45,13,10]) from rfl,List.map_append (l₁:=upTo gS (ms e.ci.l))]
   generalize hX:(upTo gS (rs.map ay.l)).map U8=X at hqb hul hj0⊢
   repeat(first|refine JL.q (by first|exact Y582|exact Y583|(apply OQ.fH (l:=[45,45]++gS) (r:=[45,45,13,10]);rfl;rfl;exact Y610)|exact Y323|exact Y377) rfl ?_|refine JC.seq ?_|refine JC.region ?_|refine JC.exit ?_|refine JE.next ?_|refine JE.ak ?_|refine JE.aC ?_)
   refine JL.jB (r:=([45,45]++gS)++[45,45,13,10]) (xs:=X) qb Tryz.underlying22 Tryz.underlying9 dV hqb rfl rfl nofun (by show X.length+19<=_;omega) rfl fun p1=>?_
   rw[hj0]
   clear hj0
   have hms:ms e.ci.l=rs.map ay.l:=hrm.symm
   generalize Aw e.ci.l=B at fK fS fL⊢
   have hBl:(B.map U8).length=B.length:=List.length_map _
   refine Y303 ?_
   refine JL.aP (v:=aD (some p1) (B.map U8).length) (r':=[aD (some (b5,1)) 1,aD (some p1) (B.map U8).length]) mH rfl rfl rfl rfl (Sl.lP _ .here) (show 1<2 by decide) rfl ?_
   have okB:∀ {X:List aL} {w':World},aa w [] (bw 5 (some p1) (B.map U8)++X) w'->(eO (some p1) B).ok w':=fun h=>m9 h
   have cS:∀ (X:List aL) w',aa w [] (bw 5 (some p1) (B.map U8)++X) w'->Calls Tryz.prog 53 [aD (some p1) (B.map U8).length,Z gS].toArray w' fun x w2=>∃ z:B1 (rs.map ay.l),x=.returned (.tuple #[z.v,N 0])/\aa w' [] z.an w2:=fun X w' hw'=>by
    have h1:=B2 (eO (some p1) B) gS w' (okB hw') Y750 Y610
    rw[iV,show(eO (some p1) B).l=B from rfl,fS,hms] at h1
    rw[hBl]
    exact h1
   repeat(first|refine JL.q (by(apply OQ.load;exact lO;rfl;exact(dA _ .here);exact(Row.cell (v:=aD (some p1) (B.map U8).length) rfl))) rfl ?_|refine Y222 ?_)
   refine JL.bD (ι:=B1 (rs.map ay.l)) (vs:=[aD (some p1) (B.map U8).length,Z gS]) (fun z=>.tuple #[z.v,N 0]) (fun z=>z.an) CH rfl rfl (fun z=>z.wr) (cS _) ?_
   intro sp
   have hsn:sp.rs.length=2:=by
    have:=congrArg List.length sp.hrs
    rw[List.length_map,List.length_map,hrn] at this
    exact this
   have hzv:sp.v=aD sp.q 2:=by unfold B1.v;rw[List.length_map,hsn]
   have hq2:(rs.map ay.v).length=2:=by rw[List.length_map,hrn]
   rw[hzv,hq2]
   obtain⟨⟨bq,cq⟩,hqs⟩:∃ p,sp.q=some p:=by
    cases hq:sp.q with
    | none=>rw[sp.hq hq] at hsn;cases hsn
    | some p=>exact⟨p,rfl⟩
   have hent:sp.an=⟨bq,Sl.Own 22 1 (sp.rs.map ay.v).length cq (sp.rs.map ay.v),true⟩::bh sp.zs:=by
    unfold B1.an
    rw[hqs]
    rfl
   rw[hqs]
   obtain⟨bm,cm⟩:=qm
   repeat(first|refine JL.q (by first|exact Y426|exact Y524|(apply OQ.len;exact Tryz.underlying93;rfl)|(apply OQ.fh (a:=((2:Nat):Int)) (b:=((2:Nat):Int));rfl;rfl;exact h22)|exact Y331|exact Y323|exact Y324) rfl ?_|refine JC.seq ?_|refine JC.region ?_|refine JL.nil ?_|refine JE.next ?_|refine JL.bG rfl rfl ?_)
   refine Y245 ?_
   let M2:List aL:=bw 5 (some p1) (B.map U8)++(⟨b6,Row 29 [aD (some (b5,1)) 1,aD (some p1) (B.map U8).length],true⟩::⟨b4,Row 29 [bV.v,aB.v],true⟩::⟨b2,Row 59 [Z eE,ps.v,.int .i64 0,body.v,.slice ad 2 cap],true⟩::(bw 22 (some (bm,cm)) (rs.map ay.v)++(bh rs++F)))
   refine Y76 ?_
   refine JC.loop (fun i:Nat=>[(4,Pt b4 0),(6,Pt b6 0),(8,aD (some (bm,cm)) 2),(14,aD (some (bq,cq)) 2),(16,N i)]) (fun _=>sp.an++M2) (fun i=>2-i) (fun i=>i<=2) 0 (Nat.zero_le _) Y640 (aj.refl _) ?_
   intro i hi
   repeat(first|refine JL.q (by first|(apply OQ.len;exact Tryz.underlying93;rfl)|exact Y323|exact Y387) rfl ?_|refine JC.seq ?_|refine JC.region ?_|refine JL.nil ?_|refine JE.next ?_)
   refine JC.cond rfl (fun h=>?_) (fun h=>?_)
   · have hi':i<2:=of_decide_eq_true h
     clear h
     have hlt1:i<sp.rs.length:=by omega
     have hlt2:i<rs.length:=by omega
     have hx1m:sp.rs.getD i aB∈sp.rs:=by
      rw[List.getD_eq_getElem?_getD,List.getElem?_eq_getElem hlt1]
      exact List.getElem_mem hlt1
     have hx2m:rs.getD i aB∈rs:=by
      rw[List.getD_eq_getElem?_getD,List.getElem?_eq_getElem hlt2]
      exact List.getElem_mem hlt2
     have hxl:(sp.rs.getD i aB).l=(rs.getD i aB).l:=by
      have h1:(sp.rs.map ay.l).getD i []=(rs.map ay.l).getD i []:=by rw[sp.hrs]
      rw[List.getD_eq_getElem?_getD,List.getD_eq_getElem?_getD,List.getElem?_map,List.getElem?_map,List.getElem?_eq_getElem hlt1,List.getElem?_eq_getElem hlt2] at h1
      rw[List.getD_eq_getElem?_getD,List.getD_eq_getElem?_getD,List.getElem?_eq_getElem hlt1,List.getElem?_eq_getElem hlt2]
      exact h1
     have hc1:∀ o,Sl.Own 22 1 (sp.rs.map ay.v).length cq (sp.rs.map ay.v) o->cellAt o i=some (sp.rs.getD i aB).v:=fun o ho=>by
      have:=uN (Sl.Own.cells o ho) (k:=i) (dF ay.v aB hlt1)
      rwa [Nat.zero_add] at this
     have hc2:∀ o,Sl.Own 22 1 (rs.map ay.v).length cm (rs.map ay.v) o->cellAt o i=some (rs.getD i aB).v:=fun o ho=>by
      have:=uN (Sl.Own.cells o ho) (k:=i) (dF ay.v aB hlt2)
      rwa [Nat.zero_add] at this
     have hO1:Has (sp.an++M2) bq (Sl.Own 22 1 (sp.rs.map ay.v).length cq (sp.rs.map ay.v)) true:=fj (by rw[hent];exact .here)
     have hO2:Has (sp.an++M2) bm (Sl.Own 22 1 (rs.map ay.v).length cm (rs.map ay.v)) true:=dA _ (dA _ (.there (.there (.there .here))))
     have ok1:∀ w',aa w [] (sp.an++M2) w'->(sp.rs.getD i aB).ok w':=fun w' hw'=>by
      have h2:aa w [] sp.an w':=Sl.aa.weak hw' (bO _ _)
      rw[hent] at h2
      exact p8 (A:=[_]) h2 sp.h0 _ (sp.sub _ hx1m)
     have Mo:∀ w',aa w [] (sp.an++M2) w'->(rs.getD i aB).ok w':=fun w' hw'=>p8 (A:=[]) (Sl.aa.weak hw' (aS _ (aS _ (.drop _ _ _ (.drop _ _ _ (.drop _ _ _ (aS (bw 22 (some (bm,cm)) (rs.map ay.v)) (bO (bh rs) F)))))))) hrs _ hx2m
     have hms2:=LV e.ci.l hc i
     have hxm:(rs.getD i aB).l.length<=15000:=by
      have h1:(ms e.ci.l).getD i []=(rs.map ay.l).getD i []:=by rw[hms]
      rw[h1,List.getD_eq_getElem?_getD,List.getElem?_map,List.getElem?_eq_getElem hlt2] at hms2
      rw[List.getD_eq_getElem?_getD,List.getElem?_eq_getElem hlt2]
      exact hms2
     have csm:=fun w' hw'=>nk (sp.rs.getD i aB) (rs.getD i aB) w' (ok1 w' hw') (Mo w' hw') Y744
     rw[decide_eq_true hxl] at csm
     generalize sp.rs.getD i aB=x1 at hc1 csm
     generalize rs.getD i aB=x2 at hc2 csm
     refine Y75 ?_
     refine JC.quiet xb Y636 ?_
     repeat(first|refine JQ.q (by first|(apply OQ.pX (i:=i);exact Tryz.underlying93;exact QL;rfl;rfl;exact hi')|(apply OQ.load;exact xg;rfl;exact hO1;exact hc1)|(apply OQ.load;exact xg;rfl;exact hO2;exact hc2)|(apply OQ.ai (vs:=[x1.v,x2.v]);exact CK;rfl;exact csm)|exact Y329|exact Y323) rfl ?_|refine JQ.nil ?_|refine JE.next ?_)
     refine Y245 ?_
     refine Y10 ?_
     exact JE.again (i:=i) (i+1) hi' Y609 Y640 (aj.refl _)
   · clear h
     have cl:∀ w',aa w [] (sp.an++M2) w'->Calls Tryz.prog 20 [.agg #[aD (some (b5,1)) 1,aD (some p1) (B.map U8).length]].toArray w' fun e w2=>∃ z:{ z:ay // iP z (bt [(cF,W)] B) },e=.returned (.tuple #[z.1.v,N 0])/\aa w' [] z.1.an w2:=fun w' hw'=>by
      have okf:(ew (some (b5,1)) [(cF,W)]).ok w':=qj (Sl.aa.weak hw' (aS _ (aS _ (.drop _ _ _ (.drop _ _ _ (.drop _ _ _ (aS (bw 22 (some (bm,cm)) (rs.map ay.v)) (aS (bh rs) (aj.refl F)))))))))
      have h1:=mA (ew (some (b5,1)) [(cF,W)]) (eO (some p1) B) w' okf (okB (Sl.aa.weak hw' (aS _ (aj.refl _)))) (fun q hq=>by
       have hq:q∈[(cF,W)]:=hq
       rw[List.mem_singleton.1 hq]
       have e1:cF.length=12:=rfl
       dsimp only
       omega) (by show 1<=1000000;decide) Y750
      rw[kD,iV,show(eO (some p1) B).l=B from rfl,show(ew (some (b5,1)) [(cF,W)]).l=[(cF,W)] from rfl,fK] at h1
      rw[hBl]
      exact h1
     repeat(first|refine JL.q (by(apply OQ.aF (cs:=[aD (some (b5,1)) 1,aD (some p1) (B.map U8).length]);exact c7;exact aZ;rfl;exact(dA _ (dA _ .here));rfl;exact Row.all)) rfl ?_|refine Y105 ?_)
     refine JL.bD (ι:={ z:ay // iP z (bt [(cF,W)] B) }) (vs:=[.agg #[aD (some (b5,1)) 1,aD (some p1) (B.map U8).length]]) (fun z=>.tuple #[z.1.v,N 0]) (fun z=>z.1.an) pI rfl rfl (fun z=>z.1.bH) cl ?_
     intro z
     refine JL.less (M':=M2) (aS _ (aS _ (aj.refl _))) ?_
     refine Y192 ?_
     refine Y245 ?_
     repeat(first|refine JL.q (by(apply OQ.aF (cs:=[aD (some (b5,1)) 1,aD (some p1) (B.map U8).length]);exact c7;exact aZ;rfl;exact(dA _ .here);rfl;exact Row.all)) rfl ?_|refine Y197 ?_)
     refine JL.ax (cs:=[aD (some (b5,1)) 1,aD (some p1) (B.map U8).length]) aZ rfl rfl rfl rfl (Sl.lP _ (.there .here)) rfl ?_
     refine Y39 ?_
     refine Y247 ?_
     skip
     refine JE.aV rfl (RV.aT (cs:=[aD (some (b5,1)) 1,aD (some p1) (B.map U8).length]) c7 aZ rfl (dA _ (.there .here)) rfl Row.all) (RV.tmp rfl) fun w' hw=>?_
     refine⟨⟨ew (some (b5,1)) [(cF,W)],eO (some p1) B,rfl,rfl,nofun,nofun⟩,?_,?_⟩
     · show Ending.returned (.tuple #[.agg #[aD (some (b5,1)) 1,aD (some p1) (B.map U8).length],N 0])=Ending.returned (.tuple #[.agg #[aD (some (b5,1)) 1,aD (some p1) B.length],N 0])
       rw[hBl]
     · have h1:aa w [] (bw 5 (some p1) (B.map U8)++dr 65 (some (b5,1)) [(cF,W)]) w':=Sl.aa.weak hw (bI (.drop _ _ _ (.drop _ _ _ (.drop _ _ _ (aS (bw 22 (some (bm,cm)) (rs.map ay.v)) (aS (bh rs) (bO _ _)))))) _)
       exact(Sl.aa.weak h1 (gk (iW _ _) j8)).perm' List.perm_append_comm
end
section
namespace Sl
section
variable {P:Program} {n:Nat} {w0:World} {S:List Nat} {ops:Array Oper} {Q:Exit->Act->World->Prop} {l:List Oper} {E:Env} {M:List aL} {d:Nat} {t tx e ty:TypeId} {pos:String} {aft:Array Edge} {x y:Operand}
theorem CM{w:World}{i:TypeInfo}(hu:P.underlying t=some (.slice e))(hk:P.underlying tx=some .string)(hi:P.info? e=some i) :
  (Builtin.append_ #[t,tx] ty #[.slice none 0 0,Z []]).run P w=.ok (.slice none 0 0) w:=by
 simp[Builtin.append_,Z,bP,run_underlying hu,run_underlying hk,sizeOf,typeInfo,hi,Builtin.lenOf,Builtin.firstCells,storeCells]
 rw[if_pos (show(⟨#[]⟩:ByteArray)=ByteArray.empty from rfl)]
 rfl
theorem JL.LY{r:List Bt}{xs:List Value}(q:Acc)(hu:P.underlying t=some (.slice e))(hk:P.underlying tx=some .string)(hi:EI P e (.int .u8 0) 1 1)(hq:q=none->xs=[])(hx:ev E x=some (aD q xs.length))(hy:ev E y=some (Z r))
  (hsm:(xs.length+r.length)<=140737488355328) (hd:Nat.blt d n=true)
  (kk:∀ q':Acc,(q'=none->xs++r.map U8=[])->JL P n w0 S ops Q l ((d,aD q' (xs++r.map U8).length)::E) (bw e q' (xs++r.map U8)++M)):JL P n w0 S ops Q (⟨some d,.call ⟨.builtin .append,#[x,y],#[t,tx]⟩,ty,pos,aft,none⟩::l) E (bw e q xs++M):=by
 by_cases h0:r=[]
 · subst h0
   cases q with
   | none=>
     obtain rfl:=hq rfl
     refine⟨fun a w ha hw=>wpList_plain rfl fun K hK=>?_⟩
     obtain⟨i,hi1,_⟩:=hi.get
     have hx':a.eval x=.slice none 0 0:=ha.eval hx
     unfold Oper.wp
     simp only[execOp,resolve,invoke,builtin,Sem.run_bind,Sem.run_pure,Result.andThen_ok,List.map_toArray,List.map_cons,List.map_nil,hx',ha.eval hy]
     rw[CM hu hk hi1]
     exact hK _ _ ((kk none fun _=>rfl).go _ _ (ha.put d _ hd) hw)
   | some p=>
     have e1:(xs++([]:List Bt).map U8).length=xs.length+([]:List Bt).length:=by simp
     refine JL.tL (b:=p.1) (cap:=p.2) (k:=xs.length) (xs:=xs) (fun b' cap'=>bw e (some (b',cap')) (xs++([]:List Bt).map U8)++M) hu hk hi hx hy (fun b' cap'=>?_) hsm hd fun b' cap'=>?_
     · show aR (⟨p.1,Sl.Own e 1 xs.length p.2 xs,true⟩::M) _ _ _ _ (⟨b',Sl.Own e 1 (xs++([]:List Bt).map U8).length cap' (xs++([]:List Bt).map U8),true⟩::M)
       rw[e1]
       exact .here
     · have:=kk (some (b',cap')) nofun
       rw[e1] at this
       exact this
 · exact JL.jB q hu hk hi hq hx hy h0 hsm hd fun p=>kk (some p) nofun
end
end Sl
open Sl aq Tok gZ zo
theorem LZ:aJ Tryz.prog 12:=⟨_,Tryz.func12,rfl,by kernel_rfl⟩
theorem yU:aJ Tryz.prog 18:=⟨_,Tryz.func18,rfl,by kernel_rfl⟩
theorem CN:aJ Tryz.prog 19:=⟨_,Tryz.func19,rfl,by kernel_rfl⟩
theorem qN:aJ Tryz.prog 34:=⟨_,Tryz.func34,rfl,by kernel_rfl⟩
theorem TN:Tryz.prog.underlying 67=some (.array 4 9):=Tryz.underlying67
def gK(e:kG):List (List Bt):=[e.fr,e.to,e.id,e.th]
def ox(l:List (List Bt)):List Bt:=l.flatMap fun t=>t++[10]
theorem IE(l:List (List Bt))(t:List Bt):ox (l++[t])=(ox l++t)++[10]:=by
 unfold ox
 rw[List.flatMap_append]
 simp
theorem CO(e:kG):ox (gK e)=kZ e.en:=by
 unfold ox gK kZ
 simp[kG.en]
theorem CP(e:kG)(h:e.low):∀ i,(ox ((gK e).take i)).length<=1300:=by
 have:=h.fr
 have:=h.to
 have:=h.id
 have:=h.th
 intro i
 match i with
 | 0=>exact Nat.zero_le _
 | 1=>simp[ox,gK];omega
 | 2=>simp[ox,gK];omega
 | 3=>simp[ox,gK];omega
 | i+4=>simp[ox,gK];omega
theorem Od(e:kG)(w:World)(hlo:e.low):Calls Tryz.prog 12 [.agg e.cs.toArray].toArray w fun x w'=>∃ y:{ y:ay // iP y (kZ e.en) },x=.returned y.1.v/\aa w [] y.1.an w':=by
 have hlen:=CP e hlo
 have hl1:=hlo.fr
 have hl2:=hlo.to
 have hl3:=hlo.id
 have hl4:=hlo.th
 refine enter (n:=26) Tryz.func12 rfl rfl rfl (aa.start w []) ?_
 refine JC.seq (JC.region (JL.box (r:=e.cs) rfl rfl rfl fun b1 _=>?_))
 repeat(first|refine JL.q (by first|exact Y402|exact Y403|exact Y404|exact Y405) rfl ?_|refine Y84 ?_)
 refine JL.q (v:=.agg ((gK e).map Z).toArray) (OQ.run fun k hk w _=>?_) rfl ?_
 · have e1:=hk.eval (x:=.tmp 7) (v:=Z e.fr) rfl
   have e2:=hk.eval (x:=.tmp 9) (v:=Z e.to) rfl
   have e3:=hk.eval (x:=.tmp 11) (v:=Z e.id) rfl
   have e4:=hk.eval (x:=.tmp 13) (v:=Z e.th) rfl
   have h3:=run_build (P:=Tryz.prog) w 67 #[(0,Z e.fr),(1,Z e.to),(2,Z e.id),(3,Z e.th)] ((gK e).map Z).toArray Y636
   simp[execOp,e1,e2,e3,e4,Sem.run_bind,h3]
 repeat(first|refine JL.q Y652 rfl ?_|refine JC.block ?_|refine JL.nil ?_|refine JE.next ?_)
 refine JC.loop (fun i:Nat × Acc=>[(1,Pt b1 0),(14,.agg ((gK e).map Z).toArray),(15,N i.1),(3,aD i.2 ((ox ((gK e).take i.1)).map U8).length)]) (fun i=>bw 5 i.2 ((ox ((gK e).take i.1)).map U8)++[]) (fun i=>4-i.1) (fun i=>i.1<=4/\(i.2=none->(ox ((gK e).take i.1)).map U8=[])) (0,none) ⟨Nat.zero_le _,fun _=>rfl⟩ Y640 (.nil _) ?_
 rintro⟨i,q⟩ ⟨hi,hq⟩
 dsimp only at hi hq⊢
 have hli:=hlen i
 generalize hX:ox ((gK e).take i)=X at hq hli
 refine Y22 ?_
 refine JC.cond rfl (fun h=>?_) (fun h=>?_)
 · have hi':i<4:=of_decide_eq_true h
   clear h hi
   have hnx:ox ((gK e).take (i+1))=(X++(gK e).getD i [])++[10]:=by
    rw[List.take_add_one,<- hX]
    have:(gK e)[i]?=some ((gK e).getD i []):=by
     rw[List.getD_eq_getElem?_getD,List.getElem?_eq_getElem (show i<(gK e).length from hi')]
     rfl
    rw[this]
    exact IE _ _
   have hl5:=hlen (i+1)
   rw[hnx] at hl5
   simp only[List.length_append,List.length_cons,List.length_nil] at hl5
   repeat(first|refine JL.q (by(apply OQ.index (cs:=(gK e).map Z);exact TN;exact w8;exact bS;rfl;rfl;exact hi';exact(dF Z [] (show i<(gK e).length from hi')))) rfl ?_|refine Y93 ?_)
   generalize (gK e).getD i []=t at hnx hl5
   refine JL.LY (r:=t) (xs:=X.map U8) q Tryz.underlying22 Tryz.underlying9 dV hq rfl rfl Y649 rfl fun q1 hq1=>?_
   refine Y124 ?_
   refine JL.zz (xs:=[.const (U8 10)]) (vs:=[U8 10]) Tryz.underlying22 dV rfl rfl rfl rfl (fun v hv=>by rw[List.mem_singleton.1 hv];rfl) rfl Y610 Y610 rfl fun bl _=>?_
   refine JL.perm (M':=bw 5 q1 (X.map U8++t.map U8)++[⟨bl,Row 5 [U8 10],true⟩]) ?_ (by rw[List.append_nil];exact(List.perm_append_comm (l₁:=[_])))
   refine JL.je (cs:=[U8 10]) (m:=1) (ad:=some ⟨bl,0,none⟩) (sc:=1) q1 Tryz.underlying22 dV hq1 rfl rfl rfl (fun w' hw'=>by
    obtain⟨o,ho,hA⟩:=hw'.get (b:=bl) (A:=Row 5 [U8 10]) (wr:=true) (by
     cases q1 with
     | none=>exact .here
     | some p=>exact .there .here)
    exact Reads.block ho (Row.all _ hA)) (fun v hv=>by rw[List.mem_singleton.1 hv];rfl) rfl Y762 Y762 rfl fun q2 hq2=>?_
   have hfin:(X.map U8++t.map U8)++[U8 10]=(ox ((gK e).take (i+1))).map U8:=by
    rw[hnx,List.map_append,List.map_append]
    rfl
   rw[hfin] at hq2⊢
   refine Y18 ?_
   exact JE.again (i:=(i,q)) (i+1,q2) ⟨hi',hq2⟩ Y721 Y640 (bI (.nil _) _)
 · have hi':¬ i<4:=of_decide_eq_false h
   obtain rfl:i=4:=by omega
   have hX2:X=kZ e.en:=by rw[<- hX];exact CO e
   subst hX2
   refine Y107 ?_
   refine Y247 ?_
   skip
   refine JE.aK rfl (RV.tmp rfl) fun w' hw=>?_
   have hnil:q=none->kZ e.en=[]:=fun h=>List.map_eq_nil_iff.1 (hq h)
   refine⟨⟨eO q (kZ e.en),mb hnil,jN⟩,?_,?_⟩
   · rw[iV,List.length_map]
   · rw[List.append_nil] at hw
     exact Sl.aa.weak hw (iW q _)
theorem L0(e:kG)(w:World)(hlo:e.low):Calls Tryz.prog 13 [.agg e.cs.toArray].toArray w fun x w'=>∃ y:{ y:ay // iP y (kZ e.en) },x=.returned y.1.v/\aa w [] y.1.an w':=by
 have hl1:=hlo.fr
 have hl2:=hlo.to
 have hl3:=hlo.id
 have hl4:=hlo.th
 have hb:kZ e.en=((((((e.fr++[10])++e.to)++[10])++e.id)++[10])++e.th)++[10]:=by
  unfold kZ
  simp[kG.en]
 rw[hb]
 refine enter (n:=19) Tryz.func13 rfl rfl rfl (aa.start w []) ?_
 refine JC.seq (JC.region (JL.box (r:=e.cs) rfl rfl rfl fun b1 _=>?_))
 repeat(first|refine JL.q (by first|exact Y402|exact Y403|exact Y404|exact Y405|(apply OQ.fH (l:=e.fr) (r:=[10]);rfl;rfl;exact Y624)|(apply OQ.fH (l:=e.fr++[10]) (r:=e.to);rfl;rfl;exact Y624)|(apply OQ.fH (l:=(e.fr++[10])++e.to) (r:=[10]);rfl;rfl;exact Y624)|(apply OQ.fH (l:=((e.fr++[10])++e.to)++[10]) (r:=e.id);rfl;rfl;exact Y624)|(apply OQ.fH (l:=(((e.fr++[10])++e.to)++[10])++e.id) (r:=[10]);rfl;rfl;exact Y624)|(apply OQ.fH (l:=((((e.fr++[10])++e.to)++[10])++e.id)++[10]) (r:=e.th);rfl;rfl;exact Y624)|(apply OQ.fH (l:=(((((e.fr++[10])++e.to)++[10])++e.id)++[10])++e.th) (r:=[10]);rfl;rfl;exact Y624)) rfl ?_|refine Y84 ?_)
 generalize ((((((e.fr++[10])++e.to)++[10])++e.id)++[10])++e.th)++[10]=T
 refine JL.SL Tryz.underlying9 Tryz.underlying22 Tryz.underlying5 rfl rfl fun b2 cap2=>?_
 rw[jy]
 refine Y39 ?_
 refine Y247 ?_
 skip
 exact JE.aK rfl (RV.tmp rfl) fun w' hw=>⟨⟨⟨some ⟨b2,0,none⟩,cap2,T⟩,rfl,nofun⟩,rfl,hw.weak (bO _ _)⟩
theorem CQ(s:List Bt)(w:World)(hl:s.length<1000000):Calls Tryz.prog 18 [Z s].toArray w fun e w'=>e=.returned (.bool (ux s))/\Ext w w':=by
 refine enter (n:=17) Tryz.func18 rfl rfl rfl (aa.start w []) ?_
 have ca:=fun w'=>G8 s w' hl
 unfold ux
 generalize (cH s).1=a at ca⊢
 generalize (cH s).2=k at ca⊢
 have ik:decide ((k:Int)=0)=decide (k=0):=decide_eq_decide.2 Y609
 rw[<- ik]
 cases h1:decide ((k:Int)=0)
 case true=>
  cases h2:decide (a=s)
  all_goals (repeat(first|refine JL.q (by first|exact Y584|exact Y411|(apply OQ.fR (l:=a) (r:=s);rfl;rfl;exact h2)) rfl ?_|refine JL.bG rfl rfl ?_|refine Y95 ?_))
  all_goals refine JC.ret ?_
  all_goals (skip)
  all_goals exact JE.aK rfl (RV.tmp rfl) fun w' hw=>⟨rfl,hw.aH⟩
 repeat(first|refine JL.q (by first|exact Y584|exact Y411) rfl ?_|refine JL.aM rfl rfl rfl rfl ?_|refine Y96 ?_)
 refine Y247 ?_
 skip
 exact Y248
theorem IF(c:aq.By):(decide ((c.toNat:Int)<33)||(decide ((126:Int)<(c.toNat:Int))||(decide ((c.toNat:Int)=60)||(decide ((c.toNat:Int)=62)||(decide ((c.toNat:Int)=40)||(decide ((c.toNat:Int)=41)||(decide ((c.toNat:Int)=34)||decide ((c.toNat:Int)=92))))))))=!jS c:=by
 have h:∀ c:Fin 256,(decide (((BitVec.ofNat 8 c.val).toNat:Int)<33)||(decide ((126:Int)<((BitVec.ofNat 8 c.val).toNat:Int))||(decide (((BitVec.ofNat 8 c.val).toNat:Int)=60)||(decide (((BitVec.ofNat 8 c.val).toNat:Int)=62)||(decide (((BitVec.ofNat 8 c.val).toNat:Int)=40)||(decide (((BitVec.ofNat 8 c.val).toNat:Int)=41)||(decide (((BitVec.ofNat 8 c.val).toNat:Int)=34)||decide (((BitVec.ofNat 8 c.val).toNat:Int)=92))))))))=!jS (BitVec.ofNat 8 c.val):=by decide +kernel
 have:=h ⟨c.toNat,c.isLt⟩
 rwa [BitVec.ofNat_toNat,BitVec.setWidth_eq] at this
theorem Oe{s:List Bt}(h:s.all jS=false):mX s=false:=by
 unfold mX
 rw[h]
 rfl
theorem Gr(s:List Bt)(w:World)(hl:s.length<9223372036854775808):Calls Tryz.prog 19 [Z s].toArray w fun e w'=>e=.returned (.bool (mX s))/\Ext w w':=by
 refine enter (n:=52) Tryz.func19 rfl rfl rfl (aa.start w []) ?_
 refine Y7 ?_
 refine JC.loop (fun i:Nat=>[(0,Z s),(3,N i)]) (fun _=>[]) (fun i=>s.length-i) (fun i=>i<=s.length/\(s.take i).all jS=true) 0 ⟨Nat.zero_le _,rfl⟩ Y640 (aj.refl _) ?_
 rintro i ⟨hi,ha⟩
 refine Y8 ?_
 refine JC.cond rfl (fun h=>?_) (fun h=>?_)
 · have hi':i<s.length:=of_decide_eq_true h
   clear h hi
   have hx:=eK jS s 0 hi'
   have hbad:=gY jS s 0 hi'
   have hw:=IF (s.getD i 0)
   rw[ha,Bool.true_and] at hx
   have hidx:=fun {n:Nat} {E:Env} {C:World->Prop} {dst:Option Tmp} {ty:TypeId} {pos:String} {aft:Array Edge} {g:Option (Nat × Bool)} {x y:Operand}=>nq hi' (n:=n) (E:=E) (C:=C) (dst:=dst) (ty:=ty) (pos:=pos) (aft:=aft) (g:=g) (x:=x) (y:=y)
   generalize s.getD i 0=c at hx hbad hw hidx
   cases h1:decide ((c.toNat:Int)<33)
   focus cases h2:decide ((126:Int)<(c.toNat:Int))
   focus cases h3:decide ((c.toNat:Int)=60)
   focus cases h4:decide ((c.toNat:Int)=62)
   focus cases h5:decide ((c.toNat:Int)=40)
   focus cases h6:decide ((c.toNat:Int)=41)
   focus cases h7:decide ((c.toNat:Int)=34)
   focus cases h8:decide ((c.toNat:Int)=92)
   all_goals (try rw[h1] at hw)
   all_goals (try rw[h2] at hw)
   all_goals (try rw[h3] at hw)
   all_goals (try rw[h4] at hw)
   all_goals (try rw[h5] at hw)
   all_goals (try rw[h6] at hw)
   all_goals (try rw[h7] at hw)
   all_goals (try rw[h8] at hw)
   all_goals simp only[Bool.false_or,Bool.true_or,Bool.or_false,Bool.or_true] at hw
   all_goals (repeat(first|refine JL.q (by first|(apply hidx;rfl;rfl)|(apply OQ.fV (b:=33);rfl;rfl;exact h1)|(apply OQ.cZ (b:=126);rfl;rfl;exact h2)|(apply OQ.ep (b:=60);rfl;rfl;exact h3)|(apply OQ.ep (b:=62);rfl;rfl;exact h4)|(apply OQ.ep (b:=40);rfl;rfl;exact h5)|(apply OQ.ep (b:=41);rfl;rfl;exact h6)|(apply OQ.ep (b:=34);rfl;rfl;exact h7)|(apply OQ.ep (b:=92);rfl;rfl;exact h8)) rfl ?_|refine JL.bG rfl rfl ?_|refine JL.aM rfl rfl rfl rfl ?_|refine Y16 ?_))
   all_goals refine JC.cond rfl (fun h=>?_) (fun h=>?_)
   all_goals first|(exfalso;revert h;decide)|skip
   all_goals (clear h)
   all_goals first
    | (have hnb:jS c=false:=by
        cases hk:jS c
        · rfl
        · rw[hk] at hw;cases hw
       rw[Oe (hbad hnb)]
       (refine Y3 ?_)
       refine Y247 ?_
       (refine Y2 ?_)
       exact JE.aK rfl (RV.tmp rfl) fun w' hw=>⟨rfl,hw.aH⟩)
    | (have hnb:jS c=true:=by
        cases hk:jS c
        · rw[hk] at hw;cases hw
        · rfl
       (refine Y10 ?_)
       exact JE.again (i:=i) (i+1) ⟨hi',by rw[hx,hnb]⟩ Y609 Y640 (aj.refl _))
 · have hi':¬ i<s.length:=of_decide_eq_false h
   obtain rfl:i=s.length:=by omega
   clear h hi hi'
   rw[List.take_length] at ha
   have hI:mX s=(decide ((1:Int)<=(s.length:Int))&&decide ((s.length:Int)<=200)):=by
    unfold mX
    rw[ha,Bool.true_and]
    congr 1
    · exact Y255
    · exact Y255
   rw[hI]
   cases h1:decide ((1:Int)<=(s.length:Int))
   focus skip
   rotate_left
   cases h2:decide ((s.length:Int)<=200)
   all_goals (repeat(first|refine JL.q (by first|exact Y344|(apply OQ.fA (b:=200);rfl;rfl;exact h2)) rfl ?_|refine JL.bG rfl rfl ?_|refine JL.aM rfl rfl rfl rfl ?_|refine Y78 ?_))
   all_goals refine JC.ret ?_
   all_goals (skip)
   all_goals exact JE.aK rfl (RV.tmp rfl) fun w' hw=>⟨rfl,hw.aH⟩
end
section
open Sl aq Tok gZ zo
theorem L1:aJ Tryz.prog 9:=⟨_,Tryz.func9,rfl,by kernel_rfl⟩
theorem CR:aJ Tryz.prog 29:=⟨_,Tryz.func29,rfl,by kernel_rfl⟩
theorem ES(e:kG)(cs:List Value)(w:World)(hp:dJ 3 w (fT e.en) cs)(hc:e.ci.l.length<=3000):Calls Tryz.prog 28 [.agg cs.toArray,N 0].toArray w
  fun x w'=>∃ y:W2 (.ok (bB e.en,eY e.en)),x=.returned (.tuple #[.agg #[y.f.v,y.s.v],N 0])/\aa w [] y.an w':=by
 cases h0:e.pl
 · have h1:=ER e cs w hp h0 hc
   have hh:bB e.en=oA:=by unfold bB;rw[show e.en.pl=false from h0];rfl
   have hb:eY e.en=Aw e.ci.l:=by unfold eY;rw[show e.en.pl=false from h0];rfl
   rw[hh,hb]
   exact h1
 · have e0:fT e.en=.mk mL [] 1 e.ci.l []:=by
    unfold fT
    rw[show e.en.pl=true from h0]
    rfl
   rw[e0] at hp
   obtain⟨ps,body,ad,cap,bK,rfl,⟨okp,lp⟩,⟨okb,lb⟩,_⟩:=hp
   have lb:body.l=e.ci.l:=lb
   have h1:=pJ (k:=mL) (c:=1) (gr tF) Y610 (.inr rfl) ps body ad cap 0 w okp lp okb (by rw[lb];omega)
   have hh:bB e.en=eG mL 1:=by unfold bB;rw[show e.en.pl=true from h0];rfl
   have hb:eY e.en=gd (fun b=>b) ((1:Nat):Int) body.l:=by unfold eY;rw[show e.en.pl=true from h0,lb];rfl
   rw[hh,hb]
   exact h1
theorem Of(p q r a b c:aL):[p,q,r,a,b,c].Perm (a::b::c::([p,q,r]++[])):=EO a b c [p,q,r]
theorem L3(a b c d:aL)(A C:List aL):(a::b::c::d::(A++C)).Perm (A++(a::b::c::d::C)):=bA [a,b,c,d] A C
theorem Og(Qe:List aq.By->List aq.By)(e:kG)(w:World)(he:e.ok w)(hlo:e.low):Calls Tryz.prog 9 [.agg e.cs.toArray].toArray w
  fun x w'=>∃ y:W2 (qT Qe e.en),x=.returned (.tuple #[.agg #[y.f.v,y.s.v],N (dG (qT Qe e.en))])/\aa w [] y.an w':=by
 have l1:=hlo.fr
 have l2:=hlo.to
 have l3:=hlo.id
 have l4:=hlo.th
 have l5:=hlo.ci
 have l6:=hlo.bu
 have c1:=fun w'=>CQ e.fr w' Y609
 have c2:=fun w'=>CQ e.to w' Y609
 have c3:=fun w'=>Gr e.id w' Y609
 have c4:=fun w'=>Gr e.th w' Y609
 refine enter (n:=116) Tryz.func9 rfl rfl rfl (aa.start w []) ?_
 refine JC.seq (JC.region (JL.box (r:=e.cs) rfl rfl rfl fun b1 _=>?_))
 refine JL.alloc iB rfl fun b2 _=>?_
 have g0:decide ((1049600:Int)<(e.ci.l.length:Int))=false:=decide_eq_false Y609
 cases g1:decide ((3000:Int)<(e.bu.l.length:Int))
 rotate_left
 · have hW:qT Qe e.en=.error 4:=by
    unfold qT
    rw[if_pos (.inr Y756)]
   rw[hW]
   repeat(first|refine JL.q Y757 rfl ?_|refine JL.bG rfl rfl ?_|refine Y216 ?_)
   refine Y246 ?_
   refine Y212 ?_
   refine Y307 ?_
   refine Y39 ?_
   refine Y247 ?_
   refine Y250 ?_
   exact Y311
 have hb:e.bu.l.length<=3000:=by have:=of_decide_eq_false g1;omega
 have hnl:¬ (1049600<e.en.ci.length\/3000<e.en.bu.length):=by
  show ¬ (1049600<e.ci.l.length\/3000<e.bu.l.length)
  omega
 repeat(first|refine JL.q Y757 rfl ?_|refine JL.bG rfl rfl ?_|refine Y216 ?_)
 refine Y245 ?_
 repeat refine Y220 ?_
 have hR:gC e.en=(ux e.fr&&(ux e.to&&(mX e.id&&mX e.th))):=rfl
 have hWe:gC e.en=false->qT Qe e.en=.error 3:=fun h=>by
  unfold qT
  rw[if_neg hnl,if_pos h]
 cases p1:ux e.fr
 rotate_left
 focus cases p2:ux e.to
 rotate_left
 focus cases p3:mX e.id
 rotate_left
 focus cases p4:mX e.th
 rotate_left
 all_goals (try rw[p1] at c1 hR)
 all_goals (try rw[p2] at c2 hR)
 all_goals (try rw[p3] at c3 hR)
 all_goals (try rw[p4] at c4 hR)
 all_goals (repeat(first|refine JL.q (by first|exact Y412|exact Y413|exact Y414|exact Y415|(apply OQ.ai (vs:=[Z e.fr]);exact yU;rfl;exact(fun w' _=>c1 w'))|(apply OQ.ai (vs:=[Z e.to]);exact yU;rfl;exact(fun w' _=>c2 w'))|(apply OQ.ai (vs:=[Z e.id]);exact CN;rfl;exact(fun w' _=>c3 w'))|(apply OQ.ai (vs:=[Z e.th]);exact CN;rfl;exact(fun w' _=>c4 w'))|exact Y329|exact Y330|exact Y331|exact Y323|exact Y377) rfl ?_|refine JL.nil ?_|refine JE.next ?_|refine JL.bG rfl rfl ?_|refine JL.aM rfl rfl rfl rfl ?_))
 all_goals refine JC.cond rfl (fun h=>?_) (fun h=>?_)
 all_goals first|(exfalso;revert h;decide)|skip
 all_goals clear h
 all_goals first
  | (rw[hWe (by rw[hR];first|rfl|simp)]
     (repeat(first|refine JL.q (by(apply iL)) rfl ?_|refine Y220 ?_))
     refine Y307 ?_
     (refine Y39 ?_)
     refine Y247 ?_
     (repeat(refine JE.ag ?_))
     exact JE.aV rfl (RV.aT (cs:=[bV.v,aB.v]) c7 aZ rfl .here rfl Row.all) (RV.tmp rfl) fun w' hw=>⟨W2.err,rfl,hw.weak (.nil _)⟩)
  | skip
 have hri:gC e.en=true:=hR
 have hpw:=lW Qe e.en (by show e.ci.l.length<=10000;omega)
 have hW:qT Qe e.en=.ok (aG e.en++bB e.en,eY e.en):=by
  unfold qT
  rw[if_neg hnl,if_neg (by rw[hri];decide),hpw]
 rw[hW]
 clear hW hR hWe c1 c2 c3 c4 hpw
 repeat(first|refine JL.q (by first|exact Y565|(apply OQ.Gm (a:=mL) (s:=e.ci);rfl)) rfl ?_|refine Y220 ?_)
 refine JL.alloc (r:=pz) ?_ ?_ fun b4 _=>?_
 exact tr
 rfl
 refine JL.ax (cs:=iM mL e.ci) iE rfl rfl rfl rfl .here rfl ?_
 refine JL.nil (JE.next ?_)
 refine JC.mid (ι:=PO e) (fun _=>[(1,Pt b1 0),(2,Pt b2 0),(4,Pt b4 0)]) (fun y=>⟨b4,Row 59 y.cs,true⟩::⟨b2,Row 29 [bV.v,aB.v],true⟩::⟨b1,Row 24 e.cs,true⟩::(y.M++[])) (fun _=>True) ?_ ?_
 · cases hp:e.pl
   rotate_left
   · repeat(first|refine JL.q (by exact Y566) rfl ?_|refine Y205 ?_)
     rw[hp]
     refine Y223 ?_
     refine Y245 ?_
     repeat(refine JC.skip ?_)
     exact JE.mid (⟨iM mL e.ci,[],rfl,rfl,nofun,fun w0 S w2 h2 _=>by
      have h3:=(wJ (k:=mL) h2.ci).mono (k:=3) Y609
      unfold fT
      rw[show e.en.pl=true from hp]
      exact h3⟩:PO e) trivial Y640 (aj.refl _)
   · repeat(first|refine JL.q (by exact Y566) rfl ?_|refine Y205 ?_)
     rw[hp]
     refine Y223 ?_
     refine Y246 ?_
     refine Y215 ?_
     refine JL.aP (v:=Z fQ) (r':=iM fQ e.ci) w8 rfl rfl rfl rfl .here (show 0<5 by decide) rfl ?_
     repeat(first|refine JL.q Y754 rfl ?_|refine Y213 ?_)
     refine JL.yQ (cs:=pc (fF,gS)) (ds:=pc (C5,eW)) Tryz.underlying56 LJ rfl Y610 Y610 rfl rfl rfl rfl rfl fun c4 _=>?_
     refine JL.zz (xs:=kq.map fun c=>.const (U8 c)) (vs:=kq.map U8) Tryz.underlying22 dV rfl rfl rfl rfl (fun v hv=>by obtain⟨c,_,rfl⟩:=List.mem_map.1 hv;rfl) rfl Y610 Y610 rfl fun c5 _=>?_
     refine Y310 ?_
     repeat(refine JL.q (by first|(apply OQ.Gn (a:=eW) (b:=c5);rfl)|exact Y567) rfl ?_)
     refine JL.yQ (cs:=EL c5) (ds:=iM fQ e.ci) Tryz.underlying57 Gh rfl Y610 Y610 rfl rfl rfl rfl rfl fun c6 _=>?_
     repeat(refine JL.q (by(apply OQ.Gp (a:=eE) (b:=c4) (c:=c6);rfl;rfl)) rfl ?_)
     refine JL.ax (cs:=[Z eE,.slice (some ⟨c4,0,none⟩) 2 2,.int .i64 0,aB.v,.slice (some ⟨c6,0,none⟩) 2 2]) iE rfl rfl rfl rfl (.there (.there (.there .here))) rfl ?_
     refine JL.perm (M':=⟨b4,Row 59 [Z eE,.slice (some ⟨c4,0,none⟩) 2 2,.int .i64 0,aB.v,.slice (some ⟨c6,0,none⟩) 2 2],true⟩::⟨b2,Row 29 [bV.v,aB.v],true⟩::⟨b1,Row 24 e.cs,true⟩::([⟨c6,Row 59 (EL c5++iM fQ e.ci),true⟩,⟨c5,Mn 5 (kq.map U8),true⟩,⟨c4,Row 63 (pc (fF,gS)++pc (C5,eW)),true⟩]++[])) ?_ (Of _ _ _ _ _ _)
     repeat(refine JL.nil ?_)
     exact JE.mid (⟨[Z eE,.slice (some ⟨c4,0,none⟩) 2 2,.int .i64 0,aB.v,.slice (some ⟨c6,0,none⟩) 2 2],[⟨c6,Row 59 (EL c5++iM fQ e.ci),true⟩,⟨c5,Mn 5 (kq.map U8),true⟩,⟨c4,Row 63 (pc (fF,gS)++pc (C5,eW)),true⟩],rfl,rfl,by simp,fun w0 S w2 h2 hw2=>CF h2 hp hw2⟩:PO e) trivial Y640 (aj.refl _)
 rintro y _
 have cw:∀ w',aa w [] (⟨b4,Row 59 y.cs,true⟩::⟨b2,Row 29 [bV.v,aB.v],true⟩::⟨b1,Row 24 e.cs,true⟩::(y.M++[])) w'->Calls Tryz.prog 28 [.agg y.cs.toArray,N 0].toArray w' fun x w2=>∃ z:W2 (.ok (bB e.en,eY e.en)),x=.returned (.tuple #[.agg #[z.f.v,z.s.v],N 0])/\aa w' [] z.an w2:=fun w' hw'=>
  ES e y.cs w' (y.is w [] w' (he.holds hw') (Sl.aa.weak hw' (.drop _ _ _ (.drop _ _ _ (.drop _ _ _ (bO _ _)))))) Y609
 have ylen:=y.len
 repeat(first|refine JL.q (by(apply OQ.aF (cs:=y.cs);exact gx;exact iE;rfl;exact .here;exact ylen;exact Row.all)) rfl ?_|refine JC.seq ?_|refine JC.region ?_)
 refine JL.bD (ι:=W2 (.ok (bB e.en,eY e.en))) (vs:=[.agg y.cs.toArray,N 0]) (fun x=>.tuple #[.agg #[x.f.v,x.s.v],N 0]) (fun x=>x.an) wL rfl rfl (fun x=>x.wr) cw ?_
 intro x
 have xf:x.f.l=bB e.en:=x.hf
 refine JL.less (M':=(x.f.an++x.s.an)++[⟨b2,Row 29 [bV.v,aB.v],true⟩,⟨b1,Row 24 e.cs,true⟩]) (bI (.drop _ _ _ (.keep _ _ _ _ _ _ (fun _ h=>h) (.keep _ _ _ _ _ _ (fun _ h=>h) (.nil _)))) _) ?_
 refine JL.perm (M':=⟨b2,Row 29 [bV.v,aB.v],true⟩::⟨b1,Row 24 e.cs,true⟩::(x.f.an++x.s.an)) ?_ (List.perm_append_comm (l₂:=[_,_]))
 clear cw ylen
 have h00:decide (((0:Nat):Int)=0)=true:=rfl
 refine Y285 ?_
 refine JL.alloc iB rfl fun b5 _=>?_
 refine Y305 ?_
 refine Y194 ?_
 refine Y245 ?_
 repeat(first|refine JL.q (by first|(apply OQ.load;exact lO;rfl;exact .here;exact(Row.cell (v:=x.s.v) rfl))|(apply LK (s:=x.s);rfl)) rfl ?_|refine Y220 ?_)
 refine JL.alloc iB rfl fun b7 _=>?_
 refine JL.ax (cs:=[bV.v,x.s.v]) aZ rfl rfl rfl rfl .here rfl ?_
 repeat(first|refine JL.q (by first|(apply OQ.load;exact qM;rfl;exact .here;exact(Row.cell (v:=bV.v) rfl))|(apply OQ.load;exact bS;rfl;exact(.there (.there (.there .here)));exact(Row.cell (v:=Z e.fr) rfl))|(apply OQ.load;exact bS;rfl;exact(.there (.there (.there .here)));exact(Row.cell (v:=Z e.to) rfl))|(apply OQ.gU (a:=uy) (b:=e.fr);rfl;rfl)|(apply OQ.gU (a:=uz) (b:=e.to);rfl;rfl)) rfl ?_|refine Y91 ?_)
 refine JL.yQ (cs:=pc (uy,e.fr)) (ds:=pc (uz,e.to)) Tryz.underlying27 fN rfl Y610 Y610 rfl rfl rfl rfl rfl fun bl _=>?_
 refine JL.nI (L2:=[(uy,e.fr),(uz,e.to)]) (L:=[]) none Tryz.underlying27 fN (fun _=>rfl) rfl (Nat.zero_lt_succ _) rfl rfl rfl (by show(0+2)*32<=140737488355328;decide) (by show 0+2<9223372036854775808;decide) rfl fun b8 cap8=>?_
 refine JL.perm (M':=⟨b7,Row 29 [bV.v,x.s.v],true⟩::⟨b5,Row 29 [x.f.v,x.s.v],true⟩::⟨b2,Row 29 [bV.v,aB.v],true⟩::⟨b1,Row 24 e.cs,true⟩::(dr 65 (some (b8,cap8)) [(uy,e.fr),(uz,e.to)]++(x.f.an++x.s.an))) ?_ (bA (dr 65 (some (b8,cap8)) [(uy,e.fr),(uz,e.to)]) [_,_,_,_] _)
 refine Y303 ?_
 refine JL.aP (v:=aD (some (b8,cap8)) 2) (r':=[aD (some (b8,cap8)) 2,x.s.v]) yT rfl rfl rfl rfl .here (show 0<2 by decide) rfl ?_
 repeat(first|refine JL.q (by first|(apply OQ.load;exact qM;rfl;exact .here;exact(Row.cell (v:=aD (some (b8,cap8)) 2) rfl))|(apply OQ.load;exact bS;rfl;exact(.there (.there (.there .here)));exact(Row.cell (v:=Z e.id) rfl))|(apply OQ.load;exact bS;rfl;exact(.there (.there (.there .here)));exact(Row.cell (v:=Z e.th) rfl))|exact Y561|exact Y562|exact Y563|exact Y564|(apply OQ.gU (a:=xF) (b:=60::e.id++[62]);rfl;rfl)|(apply OQ.gU (a:=xG) (b:=60::e.th++[62]);rfl;rfl)) rfl ?_|refine Y91 ?_)
 refine JL.yQ (cs:=pc (xF,60::e.id++[62])) (ds:=pc (xG,60::e.th++[62])) Tryz.underlying27 fN rfl Y610 Y610 rfl rfl rfl rfl rfl fun bm _=>?_
 refine JL.perm (M':=⟨bm,Row 65 ([(xF,60::e.id++[62]),(xG,60::e.th++[62])].flatMap pc),true⟩::(dr 65 (some (b8,cap8)) [(uy,e.fr),(uz,e.to)]++(⟨b7,Row 29 [aD (some (b8,cap8)) 2,x.s.v],true⟩::⟨b5,Row 29 [x.f.v,x.s.v],true⟩::⟨b2,Row 29 [bV.v,aB.v],true⟩::⟨b1,Row 24 e.cs,true⟩::(x.f.an++x.s.an)))) ?_ (List.Perm.cons _ (L3 _ _ _ _ _ _))
 refine JL.nI (L2:=[(xF,60::e.id++[62]),(xG,60::e.th++[62])]) (L:=[(uy,e.fr),(uz,e.to)]) (some (b8,cap8)) Tryz.underlying27 fN nofun rfl (Nat.zero_lt_succ _) rfl rfl rfl (by show(2+2)*32<=140737488355328;decide) (by show 2+2<9223372036854775808;decide) rfl fun b9 cap9=>?_
 refine JL.perm (M':=⟨b7,Row 29 [aD (some (b8,cap8)) 2,x.s.v],true⟩::⟨b5,Row 29 [x.f.v,x.s.v],true⟩::⟨b2,Row 29 [bV.v,aB.v],true⟩::⟨b1,Row 24 e.cs,true⟩::(dr 65 (some (b9,cap9)) (four e.en)++(x.f.an++x.s.an))) ?_ (bA _ [_,_,_,_] _)
 refine Y303 ?_
 refine JL.aP (v:=aD (some (b9,cap9)) (four e.en).length) (r':=[aD (some (b9,cap9)) (four e.en).length,x.s.v]) yT rfl rfl rfl rfl .here (show 0<2 by decide) rfl ?_
 refine JL.nil (JE.next ?_)
 refine JC.mid (ι:=Nat × Nat) (fun _=>[(1,Pt b1 0),(2,Pt b2 0),(5,Pt b5 0),(7,Pt b7 0)]) (fun r=>⟨b7,Row 29 [aD (some r) (aG e.en).length,x.s.v],true⟩::⟨b5,Row 29 [x.f.v,x.s.v],true⟩::⟨b2,Row 29 [bV.v,aB.v],true⟩::⟨b1,Row 24 e.cs,true⟩::(dr 65 (some r) (aG e.en)++(x.f.an++x.s.an))) (fun _=>True) ?_ ?_
 · have eF:aG e.en=four e.en++(if e.bu.l=[] then [] else [(oz,bQ.bC e.bu.l)]):=rfl
   cases g5:decide ((0:Int)<(e.bu.l.length:Int))
   · rw[eF,if_pos (List.eq_nil_of_length_eq_zero (by have:=of_decide_eq_false g5;omega)),List.append_nil]
     repeat(first|refine JL.q (by first|exact Y585|exact Y586) rfl ?_|refine Y224 ?_)
     refine Y245 ?_
     repeat(refine JC.skip ?_)
     exact JE.mid (b9,cap9) trivial Y640 (aj.refl _)
   · rw[eF,if_neg (fun h=>by have:=of_decide_eq_true g5;rw[h] at this;simp at this)]
     have cE:=fun (M:List aL) (w':World) (hw':aa w [] M w')=>Cd e.bu w' (he.bu.holds hw' rfl) Y609
     repeat(first|refine JL.q (by first|exact Y585|exact Y586) rfl ?_|refine Y224 ?_)
     refine Y246 ?_
     skip
     let vs:Nat->Nat × Nat->Value:=fun j z=>match j with
      | 0=>Pt b7 0
      | 1=>aD (some (b9,cap9)) (four e.en).length
      | 2=>Pt b1 5
      | 3=>e.bu.v
      | 4=>Z (bQ.bC e.bu.l)
      | 5=>.agg (pc (oz,bQ.bC e.bu.l)).toArray
      | 6=>.slice (some ⟨z.1,0,none⟩) 1 1
      | 7=>aD (some z) (four e.en++[(oz,bQ.bC e.bu.l)]).length
      | 8=>Pt b7 0
      | _=>N 0
     let Ms:Nat->Nat × Nat->List aL:=fun j z=>match j with
      | 6=>[⟨z.1,Row 65 (pc (oz,bQ.bC e.bu.l)),true⟩]
      | 7=>dr 65 (some z) (four e.en++[(oz,bQ.bC e.bu.l)])
      | 9=>[⟨b7,Row 29 [aD (some z) (four e.en++[(oz,bQ.bC e.bu.l)]).length,x.s.v],true⟩]
      | 10=>[⟨b7,Row 29 [aD (some (b9,cap9)) (four e.en).length,x.s.v],true⟩]
      | 11=>[⟨b5,Row 29 [x.f.v,x.s.v],true⟩,⟨b2,Row 29 [bV.v,aB.v],true⟩]
      | 12=>[⟨b1,Row 24 e.cs,true⟩]
      | 13=>dr 65 (some (b9,cap9)) (four e.en)
      | 14=>x.f.an++x.s.an
      | _=>[]
     refine JC.nt (g:=⟨[(2,Pt b2 0),(5,Pt b5 0),(7,Pt b7 0),(1,Pt b1 0)],15,vs,Ms,(fun j=>match j with|1=>[(0,100)]|3=>[(2,102)]|4=>[(3,103)]|5=>[(4,104)]|6=>[(5,105)]|7=>[(1,101),(6,106)]|9=>[(8,108),(7,107)]|_=>[]),(fun j=>match j with|1=>[10]|3=>[12]|7=>[6,13]|9=>[10]|_=>[]),(fun j=>match j with|7=>[6,13]|9=>[10]|_=>[]),(fun j=>match j with|9=>some 7|_=>none),fun _=>[],fun _ a b=>a=b⟩) [] [9,11,12,7,14] xb Y640 (fun _ _=>.nil) (kH (by show _::_::_::_::(dr 65 (some (b9,cap9)) (four e.en)++((x.f.an++x.s.an)++[]))=_;rw[List.append_nil])) Y636 Y636 Y636 ?_ ?_
     · refine⟨?_,?_,?_,?_,?_,?_,?_,?_,?_,?_,trivial⟩
       · (intro x' EF MF Q kk;exact JL.q (OQ.ov (o:=0) rfl rfl rfl Y610 rfl rfl) rfl (JL.nil (kk default nofun)))
       · (intro x' EF MF Q kk;exact JL.q (OQ.load qM rfl .here (Row.cell (v:=aD (some (b9,cap9)) (four e.en).length) rfl)) rfl (JL.nil (kk default nofun)))
       · (intro x' EF MF Q kk;exact JL.q (OQ.ov (o:=5) rfl rfl rfl Y610 rfl rfl) rfl (JL.nil (kk default nofun)))
       · (intro x' EF MF Q kk;exact JL.q (OQ.load jr rfl .here (Row.cell (v:=e.bu.v) rfl)) rfl (JL.nil (kk default nofun)))
       · (intro x' EF MF Q kk;exact JL.q (OQ.ai (vs:=[e.bu.v]) CR rfl (cE _)) rfl (JL.nil (kk default nofun)))
       · (intro x' EF MF Q kk;exact JL.q (OQ.gU (a:=oz) (b:=bQ.bC e.bu.l) rfl rfl) rfl (JL.nil (kk default nofun)))
       · (intro x' EF MF Q kk;exact JL.w4 (cs:=pc (oz,bQ.bC e.bu.l)) Tryz.underlying27 fN rfl Y610 Y610 rfl rfl rfl fun bk _=>JL.nil (kk (bk,0) nofun))
       · intro x' EF MF Q kk
         refine JL.less (M':=⟨(x' 6).1,Row 65 ([(oz,bQ.bC e.bu.l)].flatMap pc),true⟩::(dr 65 (some (b9,cap9)) (four e.en)++MF)) (kH (by show _=([_]++(dr 65 (some (b9,cap9)) (four e.en)++[]))++MF;rw[List.append_nil];rfl)) ?_
         refine JL.nI (L2:=[(oz,bQ.bC e.bu.l)]) (L:=four e.en) (some (b9,cap9)) Tryz.underlying27 fN nofun rfl (Nat.zero_lt_succ _) rfl rfl rfl (by show(4+1)*32<=140737488355328;decide) (by show 4+1<9223372036854775808;decide) rfl fun b10 cap10=>?_
         refine JL.less (M':=(dr 65 (some (b10,cap10)) (four e.en++[(oz,bQ.bC e.bu.l)])++[])++MF) (kH (by rw[List.append_nil])) ?_
         exact JL.nil (kk (b10,cap10) nofun)
       · (intro x' EF MF Q kk;exact JL.q (OQ.ov (o:=0) rfl rfl rfl Y610 rfl rfl) rfl (JL.nil (kk default nofun)))
       · (intro x' EF MF Q kk;exact JL.aP (v:=aD (some (x' 7)) (four e.en++[(oz,bQ.bC e.bu.l)]).length) (r':=[aD (some (x' 7)) (four e.en++[(oz,bQ.bC e.bu.l)]).length,x.s.v]) yT rfl rfl rfl rfl .here (show 0<2 by decide) rfl (JL.nil (kk (x' 7) (fun k h=>by cases h;rfl))))
     intro x' hx
     have z9:x' 9=x' 7:=hx 9 7 Y610 rfl
     refine JE.perm (M':=⟨b7,Row 29 [aD (some (x' 9)) (four e.en++[(oz,bQ.bC e.bu.l)]).length,x.s.v],true⟩::⟨b5,Row 29 [x.f.v,x.s.v],true⟩::⟨b2,Row 29 [bV.v,aB.v],true⟩::⟨b1,Row 24 e.cs,true⟩::(dr 65 (some (x' 7)) (four e.en++[(oz,bQ.bC e.bu.l)])++(x.f.an++x.s.an))) (.of_eq (by show _::_::_::_::(dr 65 (some (x' 7)) (four e.en++[(oz,bQ.bC e.bu.l)])++((x.f.an++x.s.an)++[]))=_;rw[List.append_nil])) ?_
     rw[z9]
     exact JE.mid (x' 7) trivial Y640 (aj.refl _)
 rintro r _
 have hfl:=oI (e:=e.en) hri hb l1 l2
 have hhl:=(m4 e.en).2.2.1
 repeat(first|refine JL.q (by first|(apply OQ.load;exact qM;rfl;exact .here;exact(Row.cell (v:=aD (some r) (aG e.en).length) rfl))|(apply OQ.load;exact qM;rfl;exact(.there .here);exact(Row.cell (v:=x.f.v) rfl))) rfl ?_|refine Y205 ?_)
 refine JL.perm (M':=dr 65 (some r) (aG e.en)++((⟨b7,Row 29 [aD (some r) (aG e.en).length,x.s.v],true⟩::⟨b5,Row 29 [x.f.v,x.s.v],true⟩::⟨b2,Row 29 [bV.v,aB.v],true⟩::⟨b1,Row 24 e.cs,true⟩::(x.f.an++x.s.an)))) ?_ (L3 _ _ _ _ _ _)
 refine JL.append (b:=r.1) (cap:=r.2) (k:=(aG e.en).length) (xs:=(aG e.en).flatMap pc) (cs:=x.f.cells) (m:=x.f.l.length) (ad:=x.f.ad) (sc:=x.f.cap) (fun b' cap'=>dr 65 (some (b',cap')) (aG e.en++bB e.en)++(⟨b7,Row 29 [aD (some r) (aG e.en).length,x.s.v],true⟩::⟨b5,Row 29 [x.f.v,x.s.v],true⟩::⟨b2,Row 29 [bV.v,aB.v],true⟩::⟨b1,Row 24 e.cs,true⟩::(x.f.an++x.s.an))) Tryz.underlying27 fN rfl rfl (fun b' cap'=>?_) Y758 (fun w' hw'=>(gm.bU (M:=x.s.an) (Sl.aa.weak hw' (aS _ (.drop _ _ _ (.drop _ _ _ (.drop _ _ _ (.drop _ _ _ (aj.refl _))))))) x.nf).reads) (fun v hv=>by obtain⟨p,_,hp⟩:=List.mem_flatMap.1 hv;exact Sl.u5 v hp) rfl Y610 Y759 Y759 rfl fun b' cap'=>?_
 · show aR (⟨r.1,Sl.Own 65 2 (aG e.en).length r.2 ((aG e.en).flatMap pc),true⟩::_) _ _ _ _ (⟨b',Sl.Own 65 2 (aG e.en++bB e.en).length cap' ((aG e.en++bB e.en).flatMap pc),true⟩::_)
   rw[List.length_append,List.flatMap_append,show x.f.cells=(bB e.en).flatMap pc from congrArg (List.flatMap pc) xf,xf]
   exact .here
 have e2:(aG e.en).length+x.f.l.length=(aG e.en++bB e.en).length:=by rw[List.length_append,xf]
 rw[e2]
 refine JL.perm (M':=⟨b7,Row 29 [aD (some r) (aG e.en).length,x.s.v],true⟩::⟨b5,Row 29 [x.f.v,x.s.v],true⟩::⟨b2,Row 29 [bV.v,aB.v],true⟩::⟨b1,Row 24 e.cs,true⟩::(dr 65 (some (b',cap')) (aG e.en++bB e.en)++(x.f.an++x.s.an))) ?_ (bA _ [_,_,_,_] _)
 refine Y303 ?_
 refine JL.aP (v:=aD (some (b',cap')) (aG e.en++bB e.en).length) (r':=[aD (some (b',cap')) (aG e.en++bB e.en).length,x.s.v]) yT rfl rfl rfl rfl .here (show 0<2 by decide) rfl ?_
 repeat(first|refine JL.q (by(apply OQ.aF (cs:=[aD (some (b',cap')) (aG e.en++bB e.en).length,x.s.v]);exact c7;exact aZ;rfl;exact .here;rfl;exact Row.all)) rfl ?_|refine Y133 ?_)
 refine JL.ax (cs:=[aD (some (b',cap')) (aG e.en++bB e.en).length,x.s.v]) aZ rfl rfl rfl rfl (.there (.there .here)) rfl ?_
 refine Y39 ?_
 refine Y247 ?_
 skip
 refine JE.aV rfl (RV.aT (cs:=[aD (some (b',cap')) (aG e.en++bB e.en).length,x.s.v]) c7 aZ rfl (.there (.there .here)) rfl Row.all) (RV.tmp rfl) fun w' hw=>?_
 refine⟨⟨ew (some (b',cap')) (aG e.en++bB e.en),x.s,rfl,x.hs,nofun,x.ns⟩,rfl,?_⟩
 have h1:aa w [] (dr 65 (some (b',cap')) (aG e.en++bB e.en)++x.s.an) w':=hw.weak (.drop _ _ _ (.drop _ _ _ (.drop _ _ _ (.drop _ _ _ (bI (aS _ (aj.refl _)) _)))))
 show aa w [] ((ew (some (b',cap')) (aG e.en++bB e.en)).an++x.s.an) w'
 exact Sl.aa.weak h1 (ot j8 _)
theorem yV:aJ Tryz.prog 56:=⟨_,Tryz.func56,rfl,by kernel_rfl⟩
theorem yW:aJ Tryz.prog 57:=⟨_,Tryz.func57,rfl,by kernel_rfl⟩
theorem IG:aJ Tryz.prog 58:=⟨_,Tryz.func58,rfl,by kernel_rfl⟩
theorem II:aJ Tryz.prog 30:=⟨_,Tryz.func30,rfl,by kernel_rfl⟩
theorem ET:aJ Tryz.prog 100:=⟨_,Tryz.func100,rfl,by kernel_rfl⟩
theorem IJ:gX Tryz.prog 4=some 1:=by kernel_rfl
theorem O6:gX Tryz.prog 22=some 1:=by kernel_rfl
theorem EU(n:List Bt)(f:List Pr):(dP n f).headD []=bW n f:=rfl
theorem nK{n m:List Bt}(h:n.map small=m.map small)(f:List Pr):bW n f=bW m f:=by
 unfold bW dP bY
 rw[h]
theorem Ax{n:List Bt}{f:List Pr}{m:Nat}(h:∀ p∈f,p.2.length<=m):(bW n f).length<=m:=by
 unfold bW dP
 cases e:(f.filter fun p=>bY p.1 n) with
 | nil=>exact Nat.zero_le _
 | cons p r=>
   have:p∈f:=(List.mem_filter.1 (show p∈f.filter fun p=>bY p.1 n by rw[e];simp)).1
   exact h p this
theorem CS(f:gm)(s:ay)(nm:List Bt)(w:World)(hf:f.ok w)(hz:fX f)(hl:f.l.length<=1000000)(hv:∀ p∈f.l,p.2.length<=60000):Calls Tryz.prog 56 [.agg #[f.v,s.v],Z nm].toArray w
  fun e w'=>e=.returned (.tuple #[Z (cH (bW nm f.l)).1,.bool (decide (((cH (bW nm f.l)).2:Int)=0))])/\Ext w w':=by
 have hvl:=Ax (n:=nm) hv
 have cg:=fun (M:List aL) (w':World) (hw':aa w [] M w')=>nC f s nm w' (hf.holds hw' rfl) hz hl
 rw[EU] at cg
 generalize bW nm f.l=v at hvl cg⊢
 have ca:=fun w'=>xW v w' Y609
 refine enter (n:=24) Tryz.func56 rfl rfl rfl (aa.start w []) ?_
 refine JC.seq (JC.region (JL.box (r:=[f.v,s.v]) rfl rfl rfl fun b2 _=>?_))
 repeat(first|refine JL.q (by first|exact Y509|exact Y587|(apply OQ.ai (vs:=[Z v]);exact oS;rfl;exact(fun w' _=>ca w'))|(apply OQ.ep (a:=((cH v).2:Int)) (b:=0);rfl;rfl;rfl)) rfl ?_|refine Y6 ?_)
 refine Y247 ?_
 skip
 exact Y259
theorem CT(f:gm)(s:ay)(nm:List Bt)(w:World)(hf:f.ok w)(hz:fX f)(hl:f.l.length<=1000000)(hv:∀ p∈f.l,p.2.length<=60000):Calls Tryz.prog 57 [.agg #[f.v,s.v],Z nm].toArray w
  fun e w'=>e=.returned (.tuple #[Z (gN (bW nm f.l)).1,.bool (gN (bW nm f.l)).2])/\Ext w w':=by
 have hvl:=Ax (n:=nm) hv
 have cg:=fun (M:List aL) (w':World) (hw':aa w [] M w')=>nC f s nm w' (hf.holds hw' rfl) hz hl
 rw[EU] at cg
 generalize bW nm f.l=v at hvl cg⊢
 refine enter (n:=35) Tryz.func57 rfl rfl rfl (aa.start w []) ?_
 refine JC.seq (JC.region (JL.box (r:=[f.v,s.v]) rfl rfl rfl fun b2 _=>?_))
 repeat(first|refine JL.q (by first|exact Y509|exact Y587) rfl ?_|refine Y6 ?_)
 refine JL.Bi (vs:=[Z v]) (S':=[]) (ι:={ y:wV // y.l=(mQ v).1 }) (fun y=>.tuple #[y.1.v,N (mQ v).2]) (fun y w2=>y.1.ok w2) [] Im rfl rfl (fun w' _=>(Lx v w' Y609).mono fun e w2 ⟨y,h1,h2,h3,h4⟩=>⟨⟨y,h4⟩,h1,h2,h3⟩) (.nil _) nofun ?_
 rintro⟨y,hy⟩ w1 hw1 oky
 have hx1:Ext w w1:=hw1.aH
 clear hw1 cg hf
 dsimp only at oky⊢
 cases g1:decide (((mQ v).2:Int)=0)
 · have hO:gN v=([],false):=by
    unfold gN
    rw[if_neg]
    rintro⟨h,_⟩
    exact of_decide_eq_false g1 Y609
   rw[hO]
   repeat(first|refine JL.q (by exact Y588) rfl ?_|refine JL.aM rfl rfl rfl rfl ?_|refine Y95 ?_)
   refine Y246 ?_
   refine Y3 ?_
   refine Y247 ?_
   refine Y250 ?_
   exact Y313
 cases g2:decide ((y.l.length:Int)=1)
 · have hO:gN v=([],false):=by
    unfold gN
    rw[if_neg]
    rintro⟨_,h⟩
    exact of_decide_eq_false g2 (by rw[hy];omega)
   rw[hO]
   repeat(first|refine JL.q (by first|exact Y588|exact Y589) rfl ?_|refine JL.bG rfl rfl ?_|refine Y225 ?_)
   refine Y246 ?_
   refine Y3 ?_
   refine Y247 ?_
   refine Y250 ?_
   exact Y313
 have hl1:y.l.length=1:=by have:=of_decide_eq_true g2;omega
 have hO:gN v=(y.l.headD [],mX (y.l.headD [])):=by
  unfold gN
  rw[if_pos ⟨by have:=of_decide_eq_true g1;omega,by rw[<- hy];exact hl1⟩,hy]
 rw[hO]
 obtain⟨bz,jz,eZ,lz,cz⟩:=oky.at Y609
 have vZ:y.v=.slice (some ⟨bz,jz,none⟩) y.l.length y.cap:=by rw[<- eZ];rfl
 have cz0:=cz 0 Y609
 rw[show y.l.getD 0 []=y.l.headD [] by cases y.l <;> rfl] at cz0
 have hp0:0<y.l.length:=by omega
 have cm:=fun w'=>vz (y.l.headD []) w'
 generalize y.l.headD []=id at cz0 cm
 rw[vZ]
 repeat(first|refine JL.q (by first|exact Y588|exact Y589) rfl ?_|refine JL.bG rfl rfl ?_|refine Y225 ?_)
 refine Y245 ?_
 refine Y38 ?_
 refine JC.quiet xb Y636 ?_
 repeat(first|refine JQ.q (by first|(apply OQ.dz;exact Tryz.underlying96;exact w8;rfl;rfl;exact hp0)|(apply OQ.aI;exact bS;rfl;exact lz;exact Y614;exact cz0)|(apply OQ.ai (vs:=[Z id]);exact rN;rfl;exact(fun w' _=>cm w'))|exact Y323|exact Y324) rfl ?_|refine JQ.nil ?_|refine JE.next ?_)
 refine Y247 ?_
 skip
 exact Y313
theorem CU{v:List Bt}(h:bQ.fE (bQ.bare v)=none):tg v=none:=by
 unfold tg wX
 rw[h]
theorem CV{v b:List Bt}(h:bQ.fE (bQ.bare v)=some b):tg v=if b.length<=3000 then some b else none:=by
 unfold tg wX
 rw[h]
theorem L4(f:gm)(s:ay)(w:World)(hf:f.ok w)(hz:fX f)(hl:f.l.length<=1000000)(hv:∀ p∈f.l,p.2.length<=60000):Calls Tryz.prog 58 [.agg #[f.v,s.v]].toArray w
  fun e w'=>∃ x:{ x:ay // iP x ((bQ.fE (bQ.bare (bW wY f.l))).getD []) },e=.returned (.tuple #[x.1.v,.bool (tg (bW wY f.l)).isSome])/\aa w [] x.1.an w':=by
 have hvl:=Ax (n:=wY) hv
 have cg:=fun (M:List aL) (w':World) (hw':aa w [] M w')=>nC f s oz w' (hf.holds hw' rfl) hz hl
 rw[EU,nK (show oz.map small=wY.map small by decide)] at cg
 generalize bW wY f.l=v at hvl cg⊢
 refine enter (n:=27) Tryz.func58 rfl rfl rfl (aa.start w []) ?_
 refine JC.seq (JC.region (JL.box (r:=[f.v,s.v]) rfl rfl rfl fun b2 _=>?_))
 repeat(first|refine JL.q (by first|exact Y509|(apply OQ.ai (vs:=[.agg #[f.v,s.v],Z oz]);exact iZ;rfl;exact(cg _))) rfl ?_|refine Y6 ?_)
 refine JL.SL Tryz.underlying9 Tryz.underlying22 Tryz.underlying5 rfl rfl fun b3 cap3=>?_
 rw[jy]
 have cr:∀ (M:List aL) (w':World),aa w [] (ay.an ⟨some ⟨b3,0,none⟩,cap3,v⟩++M) w'->Calls Tryz.prog 100 [ay.v ⟨some ⟨b3,0,none⟩,cap3,v⟩].toArray w' fun e w2=>∃ x:{ x:ay // iP x ((bQ.fE (bQ.bare v)).getD []) },e=.returned (.tuple #[x.1.v,N (mI (bQ.fE (bQ.bare v)))])/\aa w' [] x.1.an w2:=fun M w' hw'=>
  (yC ⟨some ⟨b3,0,none⟩,cap3,v⟩ w' (ay.bU hw' nofun) (by show v.length<=60000;omega)).mono fun e w2 ⟨x,h1,h2,h3⟩=>⟨⟨x,h2⟩,h1,h3⟩
 refine JL.bD (ι:={ x:ay // iP x ((bQ.fE (bQ.bare v)).getD []) }) (vs:=[ay.v ⟨some ⟨b3,0,none⟩,cap3,v⟩]) (fun x=>.tuple #[x.1.v,N (mI (bQ.fE (bQ.bare v)))]) (fun x=>x.1.an) ET rfl rfl (fun x=>x.1.bH) (cr _) ?_
 intro x
 refine JL.less (M':=x.1.an++[]) (bI (.nil _) _) ?_
 have hval:=x.2.val
 have hcr:bQ.fE (bQ.bare v)=none\/∃ b,bQ.fE (bQ.bare v)=some b:=by
  cases bQ.fE (bQ.bare v) with
  | none=>exact .inl rfl
  | some b=>exact .inr ⟨b,rfl⟩
 clear cr cg
 rcases hcr with hd|⟨b,hd⟩
 · rw[CU hd]
   have g1:decide (((mI (bQ.fE (bQ.bare v)):Nat):Int)=0)=false:=by rw[hd];rfl
   repeat(first|refine JL.q (by exact Y590) rfl ?_|refine JL.aM rfl rfl rfl rfl ?_|refine Y96 ?_)
   refine Y247 ?_
   skip
   exact Y314
 · rw[CV hd]
   have hval:x.1.l=b:=by rw[hval,hd];rfl
   have g1:decide (((mI (bQ.fE (bQ.bare v)):Nat):Int)=0)=true:=by rw[hd];rfl
   cases g2:decide ((x.1.l.length:Int)<=3000)
   · rw[if_neg (by have:=of_decide_eq_false g2;rw[<- hval];omega)]
     repeat(first|refine JL.q (by first|exact Y590|exact Y591) rfl ?_|refine JL.bG rfl rfl ?_|refine Y226 ?_)
     refine Y247 ?_
     skip
     exact Y314
   · rw[if_pos (by have:=of_decide_eq_true g2;rw[<- hval];omega)]
     repeat(first|refine JL.q (by first|exact Y590|exact Y591) rfl ?_|refine JL.bG rfl rfl ?_|refine Y226 ?_)
     refine Y247 ?_
     skip
     exact Y314
def QU(f:List Pr)(x:ay):List Value:=[Z (cH (bW C3 f)).1,Z (cH (bW C4 f)).1,Z (gN (bW Fe f)).1,Z (gN (bW Ff f)).1,.bool false,x.v,aB.v]
def Rg(f:List Pr):List Value:=qq (decide (((cH (bW C3 f)).2:Int)=0)) (decide (((cH (bW C4 f)).2:Int)=0)) (gN (bW Fe f)).2 (gN (bW Ff f)).2 (tg (bW wY f)).isSome
theorem L5(f:gm)(s:ay)(w:World)(hf:f.ok w)(hz:fX f)(hl:f.l.length<=1000000)(hv:∀ p∈f.l,p.2.length<=60000):Calls Tryz.prog 30 [.agg #[f.v,s.v]].toArray w
  fun e w'=>∃ x:{ x:ay // iP x ((bQ.fE (bQ.bare (bW wY f.l))).getD []) },e=.returned (.tuple #[.agg (QU f.l x.1).toArray,.agg (Rg f.l).toArray])/\aa w [] x.1.an w':=by
 have c1:=fun (M:List aL) (w':World) (hw':aa w [] M w')=>CS f s uy w' (hf.holds hw' rfl) hz hl hv
 have c2:=fun (M:List aL) (w':World) (hw':aa w [] M w')=>CS f s uz w' (hf.holds hw' rfl) hz hl hv
 have c3:=fun (M:List aL) (w':World) (hw':aa w [] M w')=>CT f s xF w' (hf.holds hw' rfl) hz hl hv
 have c4:=fun (M:List aL) (w':World) (hw':aa w [] M w')=>CT f s xG w' (hf.holds hw' rfl) hz hl hv
 have c5:=fun (M:List aL) (w':World) (hw':aa w [] M w')=>L4 f s w' (hf.holds hw' rfl) hz hl hv
 rw[nK (show uy.map small=C3.map small by decide)] at c1
 rw[nK (show uz.map small=C4.map small by decide)] at c2
 rw[nK (show xF.map small=Fe.map small by decide)] at c3
 rw[nK (show xG.map small=Ff.map small by decide)] at c4
 unfold QU Rg
 generalize (cH (bW C3 f.l)).1=a1 at c1⊢
 generalize decide (((cH (bW C3 f.l)).2:Int)=0)=r1 at c1⊢
 generalize (cH (bW C4 f.l)).1=a2 at c2⊢
 generalize decide (((cH (bW C4 f.l)).2:Int)=0)=r2 at c2⊢
 generalize (gN (bW Fe f.l)).1=a3 at c3⊢
 generalize (gN (bW Fe f.l)).2=r3 at c3⊢
 generalize (gN (bW Ff f.l)).1=a4 at c4⊢
 generalize (gN (bW Ff f.l)).2=r4 at c4⊢
 generalize (tg (bW wY f.l)).isSome=r5 at c5⊢
 generalize (bQ.fE (bQ.bare (bW wY f.l))).getD []=B at c5⊢
 refine enter (n:=41) Tryz.func30 rfl rfl rfl (aa.start w []) ?_
 refine JC.seq (JC.region (JL.box (r:=[f.v,s.v]) rfl rfl rfl fun b1 _=>?_))
 refine JL.alloc Q7 rfl fun b2 _=>?_
 refine JL.alloc Tq rfl fun b3 _=>?_
 repeat(first|refine JL.q (by first|exact Y522|(apply OQ.ai (vs:=[.agg #[f.v,s.v],Z uy]);exact yV;rfl;exact(c1 _))) rfl ?_|refine Y227 ?_)
 refine JL.aP (v:=Z a1) (r':=[Z a1,Z [],Z [],Z [],.bool false,aB.v,aB.v]) w8 rfl rfl rfl rfl (.there .here) (show 0<7 by decide) rfl ?_
 repeat(refine JL.q (by(apply OQ.xK;rfl;rfl;rfl;rfl;exact(show 0<5 by decide))) rfl ?_)
 refine JL.aP (v:=.bool r1) (r':=qq r1 false false false false) IJ rfl rfl rfl rfl .here (show 0<5 by decide) rfl ?_
 repeat(first|refine JL.q (by first|exact Y522|(apply OQ.ai (vs:=[.agg #[f.v,s.v],Z uz]);exact yV;rfl;exact(c2 _))) rfl ?_|refine Y227 ?_)
 refine JL.aP (v:=Z a2) (r':=[Z a1,Z a2,Z [],Z [],.bool false,aB.v,aB.v]) w8 rfl rfl rfl rfl (.there .here) (show 1<7 by decide) rfl ?_
 repeat(refine JL.q (by(apply OQ.xK;rfl;rfl;rfl;rfl;exact(show 1<5 by decide))) rfl ?_)
 refine JL.aP (v:=.bool r2) (r':=qq r1 r2 false false false) IJ rfl rfl rfl rfl .here (show 1<5 by decide) rfl ?_
 repeat(first|refine JL.q (by first|exact Y522|(apply OQ.ai (vs:=[.agg #[f.v,s.v],Z xF]);exact yW;rfl;exact(c3 _))) rfl ?_|refine Y227 ?_)
 refine JL.aP (v:=Z a3) (r':=[Z a1,Z a2,Z a3,Z [],.bool false,aB.v,aB.v]) w8 rfl rfl rfl rfl (.there .here) (show 2<7 by decide) rfl ?_
 repeat(refine JL.q (by(apply OQ.xK;rfl;rfl;rfl;rfl;exact(show 2<5 by decide))) rfl ?_)
 refine JL.aP (v:=.bool r3) (r':=qq r1 r2 r3 false false) IJ rfl rfl rfl rfl .here (show 2<5 by decide) rfl ?_
 repeat(first|refine JL.q (by first|exact Y522|(apply OQ.ai (vs:=[.agg #[f.v,s.v],Z xG]);exact yW;rfl;exact(c4 _))) rfl ?_|refine Y227 ?_)
 refine JL.aP (v:=Z a4) (r':=[Z a1,Z a2,Z a3,Z a4,.bool false,aB.v,aB.v]) w8 rfl rfl rfl rfl (.there .here) (show 3<7 by decide) rfl ?_
 repeat(refine JL.q (by(apply OQ.xK;rfl;rfl;rfl;rfl;exact(show 3<5 by decide))) rfl ?_)
 refine JL.aP (v:=.bool r4) (r':=qq r1 r2 r3 r4 false) IJ rfl rfl rfl rfl .here (show 3<5 by decide) rfl ?_
 repeat(first|refine JL.q (by exact Y522) rfl ?_|refine Y133 ?_)
 refine JL.bD (ι:={ x:ay // iP x B }) (vs:=[.agg #[f.v,s.v]]) (fun x=>.tuple #[x.1.v,.bool r5]) (fun x=>x.1.an) IG rfl rfl (fun x=>x.1.bH) (c5 _) ?_
 intro x
 refine JL.perm (M':=⟨b3,Row 53 (qq r1 r2 r3 r4 false),true⟩::⟨b2,Row 24 [Z a1,Z a2,Z a3,Z a4,.bool false,aB.v,aB.v],true⟩::(x.1.an++[⟨b1,Row 29 [f.v,s.v],true⟩])) ?_ (bA _ [_,_] _)
 refine Y302 ?_
 refine JL.aP (v:=x.1.v) (r':=[Z a1,Z a2,Z a3,Z a4,.bool false,x.1.v,aB.v]) O6 rfl rfl rfl rfl (.there .here) (show 5<7 by decide) rfl ?_
 repeat(refine JL.q (by(apply OQ.xK;rfl;rfl;rfl;rfl;exact(show 4<5 by decide))) rfl ?_)
 refine JL.aP (v:=.bool r5) (r':=qq r1 r2 r3 r4 r5) IJ rfl rfl rfl rfl .here (show 4<5 by decide) rfl ?_
 clear c1 c2 c3 c4 c5
 refine JL.less (M':=[⟨b3,Row 53 (qq r1 r2 r3 r4 r5),true⟩]++([⟨b2,Row 24 [Z a1,Z a2,Z a3,Z a4,.bool false,x.1.v,aB.v],true⟩]++(x.1.an++[]))) (.keep _ _ _ _ _ _ (fun _ h=>h) (.keep _ _ _ _ _ _ (fun _ h=>h) (bI (.nil _) _))) ?_
 refine Y97 ?_
 let vs:Nat->Nat->Value:=fun j _=>match j with
  | 0=>.agg ([Z a1,Z a2,Z a3,Z a4,.bool false,x.1.v,aB.v]:List Value).toArray
  | _=>.agg (qq r1 r2 r3 r4 r5).toArray
 let Ms:Nat->Nat->List aL:=fun j _=>match j with
  | 2=>[⟨b2,Row 24 [Z a1,Z a2,Z a3,Z a4,.bool false,x.1.v,aB.v],true⟩]
  | 3=>[⟨b3,Row 53 (qq r1 r2 r3 r4 r5),true⟩]
  | 4=>[⟨b3,Row 53 (qq r1 r2 r3 r4 r5),true⟩]
  | 5=>[⟨b2,Row 24 [Z a1,Z a2,Z a3,Z a4,.bool false,x.1.v,aB.v],true⟩]
  | 6=>x.1.an
  | _=>[]
 refine JC.nt (g:=⟨[(2,Pt b2 0),(3,Pt b3 0)],7,vs,Ms,(fun j=>match j with|2=>[(0,39)]|3=>[(1,40)]|_=>[]),(fun j=>match j with|0=>[5]|1=>[4]|2=>[5]|3=>[4]|_=>[]),(fun j=>match j with|2=>[5]|3=>[4]|_=>[]),fun _=>none,fun _=>[],fun _ _ _=>True⟩) [] [2,3,6] xb Y640 (fun _ _=>.nil) (aj.refl _) Y636 Y636 Y636 ?_ ?_
 · refine⟨?_,?_,?_,?_,trivial⟩
   · (intro x' EF MF Q kk;exact JL.q (OQ.aF (cs:=[Z a1,Z a2,Z a3,Z a4,.bool false,x.1.v,aB.v]) w9 oX rfl .here rfl Row.all) rfl (JL.nil (kk default nofun)))
   · (intro x' EF MF Q kk;exact JL.q (OQ.aF (cs:=qq r1 r2 r3 r4 r5) Q8 Nq rfl .here rfl Row.all) rfl (JL.nil (kk default nofun)))
   · (intro x' EF MF Q kk;exact JL.ax (cs:=[Z a1,Z a2,Z a3,Z a4,.bool false,x.1.v,aB.v]) oX rfl rfl rfl rfl .here rfl (JL.nil (kk default nofun)))
   · (intro x' EF MF Q kk;exact JL.ax (cs:=qq r1 r2 r3 r4 r5) Nq rfl rfl rfl rfl .here rfl (JL.nil (kk default nofun)))
 intro x' _
 show JE _ _ _ _ _ [(2,Pt b2 0),(3,Pt b3 0)] (⟨b2,Row 24 [Z a1,Z a2,Z a3,Z a4,.bool false,x.1.v,aB.v],true⟩::⟨b3,Row 53 (qq r1 r2 r3 r4 r5),true⟩::(x.1.an++[]))
 repeat(refine JE.next ?_)
 refine Y247 ?_
 skip
 exact JE.aV rfl (RV.aT (cs:=[Z a1,Z a2,Z a3,Z a4,.bool false,x.1.v,aB.v]) w9 oX rfl .here rfl Row.all) (RV.aT (cs:=qq r1 r2 r3 r4 r5) Q8 Nq rfl (.there .here) rfl Row.all) fun w' hw=>⟨x,rfl,hw.weak (.drop _ _ _ (.drop _ _ _ (bO _ _)))⟩
end
section
namespace Sl
def emp:Obj:=.cells #[] 0 (0,0)
def SF(S:List Nat)(u:World):Prop:=∀ b∈S,u.heap[b]?=some emp
theorem SF.cell{S:List Nat}{u:World}(h:SF S u){b j:Nat}{v:Value}(hc:u.cell? ⟨b,j,none⟩=some v):b ∉ S:=fun hb=>by
 have:=h b hb
 simp[World.cell?,this,emp] at hc
theorem SF.reads{S:List Nat}{u:World}(h:SF S u){ad:Option Addr}{cs:List Value}(hr:Reads u ad cs):cs≠[]->∀ a,ad=some a->a.block ∉ S:=fun hne a ha=>by
 cases cs with
 | nil=>exact absurd rfl hne
 | cons c cs=>
   obtain⟨b,j,h1,h2⟩:=hr 0 c rfl
   rw[h1] at ha
   cases ha
   exact h.cell h2
section
variable {P:Program} {n:Nat} {w0 w:World} {S:List Nat} {ops:Array Oper} {Q:Exit->Act->World->Prop} {l:List Oper} {E:Env} {M N:List aL}
theorem SF.ext{S:List Nat}{w0 u w:World}{X N:List aL}(h1:aa w0 [] N u)(hw:aa u S X w)(hS:∀ b∈S,w0.heap.size<=b):Ext w0 w:=pV.over h1.aH hw.aH hS
end
end Sl
end
section
open Sl aq Tok gZ zo
theorem Ay:aJ Tryz.prog 16:=⟨_,Tryz.func16,rfl,by kernel_rfl⟩
theorem qO:aJ Tryz.prog 11:=⟨_,Tryz.func11,rfl,by kernel_rfl⟩
theorem CW(a b:kG)(w:World)(ha:a.ok w)(hb:b.ok w)(h:a.en=b.en)(hl:a.bu.l.length<4611686018427387904)(hl2:a.ci.l.length<4611686018427387904):Calls Tryz.prog 16 [.agg a.cs.toArray,.agg b.cs.toArray].toArray w fun e w'=>e=.returned (.bool true)/\Ext w w':=by
 have c1:=fun (M:List aL) (w':World) (hw':aa w [] M w')=>nk a.bu b.bu w' (ha.bu.holds hw' rfl) (hb.bu.holds hw' rfl) hl
 have c2:=fun (M:List aL) (w':World) (hw':aa w [] M w')=>nk a.ci b.ci w' (ha.ci.holds hw' rfl) (hb.ci.holds hw' rfl) hl2
 rw[decide_eq_true (show a.bu.l=b.bu.l from congrArg jo.bu h)] at c1
 rw[decide_eq_true (show a.ci.l=b.ci.l from congrArg jo.ci h)] at c2
 have e1:decide (a.fr=b.fr)=true:=decide_eq_true (congrArg jo.fr h)
 have e2:decide (a.to=b.to)=true:=decide_eq_true (congrArg jo.to h)
 have e3:decide (a.id=b.id)=true:=decide_eq_true (congrArg jo.id h)
 have e4:decide (a.th=b.th)=true:=decide_eq_true (congrArg jo.th h)
 have e5:a.pl=b.pl:=congrArg jo.pl h
 refine enter (n:=52) Tryz.func16 rfl rfl rfl (aa.start w []) ?_
 refine JC.seq (JC.region (JL.box (r:=a.cs) rfl rfl rfl fun b2 _=>?_))
 refine JL.box (r:=b.cs) rfl rfl rfl fun b3 _=>?_
 repeat(first|refine JL.q (by first|(apply OQ.load;exact bS;rfl;exact(.there .here);exact(Row.cell (v:=Z a.fr) rfl))|(apply OQ.load;exact bS;rfl;exact(.there .here);exact(Row.cell (v:=Z a.to) rfl))|(apply OQ.load;exact bS;rfl;exact(.there .here);exact(Row.cell (v:=Z a.id) rfl))|(apply OQ.load;exact bS;rfl;exact(.there .here);exact(Row.cell (v:=Z a.th) rfl))|(apply OQ.load;exact BL;rfl;exact(.there .here);exact(Row.cell (v:=.bool a.pl) rfl))|(apply OQ.load;exact jr;rfl;exact(.there .here);exact(Row.cell (v:=a.bu.v) rfl))|(apply OQ.load;exact jr;rfl;exact(.there .here);exact(Row.cell (v:=a.ci.v) rfl))|(apply OQ.load;exact bS;rfl;exact .here;exact(Row.cell (v:=Z b.fr) rfl))|(apply OQ.load;exact bS;rfl;exact .here;exact(Row.cell (v:=Z b.to) rfl))|(apply OQ.load;exact bS;rfl;exact .here;exact(Row.cell (v:=Z b.id) rfl))|(apply OQ.load;exact bS;rfl;exact .here;exact(Row.cell (v:=Z b.th) rfl))|(apply OQ.load;exact BL;rfl;exact .here;exact(Row.cell (v:=.bool a.pl) (congrArg (fun x=>some (Value.bool x)) e5.symm)))|(apply OQ.load;exact jr;rfl;exact .here;exact(Row.cell (v:=b.bu.v) rfl))|(apply OQ.load;exact jr;rfl;exact .here;exact(Row.cell (v:=b.ci.v) rfl))|(apply OQ.fR (l:=a.fr) (r:=b.fr);rfl;rfl;exact e1)|(apply OQ.fR (l:=a.to) (r:=b.to);rfl;rfl;exact e2)|(apply OQ.fR (l:=a.id) (r:=b.id);rfl;rfl;exact e3)|(apply OQ.fR (l:=a.th) (r:=b.th);rfl;rfl;exact e4)|(apply OQ.SA;exact Tryz.underlying4;rfl;rfl)|(apply OQ.ai (vs:=[a.bu.v,b.bu.v]);exact qO;rfl;exact(c1 _))|(apply OQ.ai (vs:=[a.ci.v,b.ci.v]);exact qO;rfl;exact(c2 _))|exact Y330|exact Y323|exact Y324|exact Y377) rfl ?_|refine JC.seq ?_|refine JC.region ?_|refine JL.nil ?_|refine JE.next ?_|refine JL.bG rfl rfl ?_)
 refine Y247 ?_
 skip
 exact Y248
namespace Sl
section
variable {P:Program} {n:Nat} {E:Env} {C:World->Prop} {dst:Option Tmp} {t t' str ty:TypeId} {pos:String} {aft:Array Edge} {g:Option (Nat × Bool)} {x y:Operand}
theorem OQ.SG{i:TypeInfo}{a b c d:List Bt}{r:Bool}(hu:P.underlying t=some (.array 2 str))(hi:P.info? str=some i)(hs:P.underlying str=some .string)(hc:gD P str=true)(h1:P.cellsOf str=1)(hgd:P.eqGuardType P.depth t=false)(hx:ev E x=some (.agg #[Z a,Z b]))(hy:ev E y=some (.agg #[Z c,Z d]))(h:(decide (a=c)&&decide (b=d))=r) :
  OQ P n E C ⟨dst,.binOp .neq t x y t',ty,pos,aft,g⟩ (.bool (!r)):=
 OQ.run fun k hk w _=>by
  have e1:=hk.eval hx
  have e2:=hk.eval hy
  have h4:=fun w=>run_eqGuard_agg (P:=P) (w:=w) .neq t x y #[Z a,Z b] #[Z c,Z d] hgd
  have h5:=fun w=>run_neq_struct (P:=P) (w:=w) t #[Z a,Z b] #[Z c,Z d]
  have es:∀ (a b:List Bt) (w:World),(Op.equalIn 9999 str (.string (bP a)) (.string (bP b))).run P w=.ok (decide (a=b)) w:=fun a b w=>by
   rw[show(9999:Nat)=9998+1 from rfl,run_equalIn_string w 9998 str (bP a) (bP b) hs,tJ]
  have pa:∀ (x y:Value) w,(part str #[x,y] 0).run P w=.ok x w:=fun x y w=>by simp[part,iT hc]
  have pb:∀ (x y:Value) w,(part str #[x,y] 1).run P w=.ok y w:=fun x y w=>by simp[part,iT hc]
  have h3:(Op.equalIn 10000 t (.agg #[Z a,Z b]) (.agg #[Z c,Z d])).run P w=.ok r w:=by
   rw[show(10000:Nat)=9999+1 from rfl,run_equalIn_array w 9999 _ _ hu hi,show List.range 2=[0,1] from rfl,h1]
   subst h
   simp only[Op.eqItems,Nat.zero_mul,Nat.one_mul,Sem.run_bind,pa,pb,Result.andThen_ok,es]
   by_cases c1:a=c <;> by_cases c2:b=d <;> simp[c1,c2,pb,es]
  simp only[execOp,e1,e2,Sem.run_bind,h4,Result.andThen_ok,h5,h3]
  rfl
end
end Sl
theorem IK:aJ Tryz.prog 60:=⟨_,Tryz.func60,rfl,by kernel_rfl⟩
theorem EV:aJ Tryz.prog 106:=⟨_,Tryz.func106,rfl,by kernel_rfl⟩
theorem IL:aJ Tryz.prog 32:=⟨_,Tryz.func32,rfl,by kernel_rfl⟩
theorem mB:aJ Tryz.prog 105:=⟨_,Tryz.func105,rfl,by kernel_rfl⟩
theorem CX:aJ Tryz.prog 107:=⟨_,Tryz.func107,rfl,by kernel_rfl⟩
theorem SZ:kM Tryz.prog 142=true:=by kernel_rfl
theorem Rh:gX Tryz.prog 142=some 2:=by kernel_rfl
theorem Ua:zc Tryz.prog 142=some [Z [],Z []]:=by kernel_rfl
theorem Ub:Tryz.prog.cellsOf 9=1:=by kernel_rfl
theorem Uc:Tryz.prog.eqGuardType Tryz.prog.depth 142=false:=by kernel_rfl
theorem OQ.Gs{n:Nat}{E:Env}{C:World->Prop}{dst:Option Tmp}{ty:TypeId}{pos:String}{aft:Array Edge}{g:Option (Nat × Bool)}{x y:Operand}{a b:List Bt}(hx:ev E x=some (Z a))(hy:ev E y=some (Z b)):OQ Tryz.prog n E C ⟨dst,.build 142 #[(0,x),(1,y)],ty,pos,aft,g⟩ (.agg #[Z a,Z b]):=by
 refine OQ.run fun k hk w _=>?_
 have h1:=hk.eval hx
 have h2:=hk.eval hy
 have h3:=run_build (P:=Tryz.prog) w 142 #[(0,Z a),(1,Z b)] #[Z a,Z b] Y636
 simp[execOp,h1,h2,Sem.run_bind,h3]
def xm(c:Pr):Bool:=decide (c.1=C5)
theorem L6(n:List Bt):∀ l:List Pr,cJ l n=if mN (fun c=>decide (c.1=n)) l<l.length then(l.getD (mN (fun c=>decide (c.1=n)) l) ([],[])).2 else []
 | []=>rfl
 | p::l=>by
   have ih:=L6 n l
   rw[yx]
   by_cases h:p.1=n
   · have hi:mN (fun c=>decide (c.1=n)) (p::l)=0:=by simp[mN,List.takeWhile_cons,h]
     rw[hi,if_pos h,if_pos Y614]
     rfl
   · have hi:mN (fun c=>decide (c.1=n)) (p::l)=mN (fun c=>decide (c.1=n)) l+1:=by simp[mN,List.takeWhile_cons,h]
     rw[hi,if_neg h,ih,List.length_cons]
     by_cases h2:mN (fun c=>decide (c.1=n)) l<l.length
     · rw[if_pos h2,if_pos Y609,List.getD_cons_succ]
     · rw[if_neg h2,if_neg Y609]
theorem IM(c:Pr)(w:World):Calls Tryz.prog 106 [.agg (pc c).toArray].toArray w fun e w'=>e=.returned (.bool (xm c))/\Ext w w':=by
 refine enter (n:=6) Tryz.func106 rfl rfl rfl (aa.start w []) ?_
 refine JC.seq (JC.region (JL.box (r:=pc c) rfl rfl rfl fun b1 _=>?_))
 unfold xm
 repeat(first|refine JL.q (by first|exact Y468|(apply OQ.fR (l:=c.1) (r:=C5);rfl;rfl;rfl)) rfl ?_|refine Y84 ?_)
 refine Y247 ?_
 skip
 exact Y248
abbrev IN:Value:=.func (.func 106) #[] ([]:List Value).toArray
theorem Oh:KK Tryz.prog (fun _=>True) (fun _=>True) IN xm:=⟨106,[],rfl,EV,fun c w' _ _=>IM c w'⟩
theorem IP{C:World->Prop}{D:Pr->Prop}(s:gm)(fv:Value)(p:Pr->Bool)(w:World)(hs:s.ok w)(hF:KK Tryz.prog C D fv p)(hC:∀ w',Ext w w'->C w')(hD:∀ c∈s.l,D c)(hl:s.l.length<9223372036854775807) :
  Calls Tryz.prog 105 [s.v,fv].toArray w fun e w'=>e=.returned (.int .i64 (NV p s.l))/\Ext w w':=by
 refine enter (n:=19) Tryz.func105 rfl rfl rfl (aa.start w []) ?_
 refine Y202 ?_
 refine JC.loop (fun i:Nat=>[(0,s.v),(1,fv),(7,N s.l.length),(8,N i)]) (fun _=>[]) (fun i=>s.l.length-i) (fun i=>i<=s.l.length/\mN p s.l=i+mN p (s.l.drop i)) 0 ⟨Nat.zero_le _,by simp⟩ Y640 (aj.refl _) ?_
 rintro i ⟨hi,hp⟩
 refine Y22 ?_
 refine JC.cond rfl (fun h=>?_) (fun h=>?_)
 · have hi':i<s.l.length:=of_decide_eq_true h
   clear h hi
   obtain⟨ba,ja,eA,la,ca1,ca2⟩:=hs.at hi'
   have vA:s.v=.slice (some ⟨ba,ja,none⟩) s.l.length s.cap:=by rw[<- eA];rfl
   have cA:=pair_cells ca1 ca2
   have hDi:D (s.l.getD i ([],[])):=hD _ (lF hi')
   rw[og hi'] at hp
   generalize s.l.getD i ([],[])=c at hp cA hDi
   rw[vA]
   cases h1:p c
   · rw[Ai h1] at hp
     repeat(first|refine JL.q Y763 rfl ?_|refine Y93 ?_)
     refine Y245 ?_
     refine Y25 ?_
     rw[<- vA]
     exact Y257
   · rw[tW h1,Nat.add_zero] at hp
     have hv:NV p s.l=(i:Int):=by rw[tX Y609,hp]
     rw[hv]
     repeat(first|refine JL.q Y763 rfl ?_|refine Y93 ?_)
     refine Y246 ?_
     refine Y24 ?_
     refine Y247 ?_
     refine Y2 ?_
     exact Y248
 · have hi':¬ i<s.l.length:=of_decide_eq_false h
   clear h
   rw[List.drop_eq_nil_of_le Y609,F5] at hp
   rw[Aj Y609]
   refine Y11 ?_
   refine Y247 ?_
   skip
   exact Y248
theorem QV(l:List Bt):preB l kq=decide (l.take 10=kq):=by
 unfold preB
 rw[show kq.length=10 from rfl]
 by_cases h:l.take 10=kq
 · have hl:(l.take 10).length=10:=by rw[h];rfl
   rw[List.length_take] at hl
   rw[decide_eq_true h,decide_eq_true Y609]
   rfl
 · rw[decide_eq_false h,Bool.and_false]
theorem wO{p:Part}(h:¬ (cJ p.ps C5=eW/\p.parts.length=2/\(p.parts.getD 0 default).kind=eW/\(p.parts.getD 1 default).kind=fQ/\(p.parts.getD 0 default).body.take 10=kq)):fe p=none:=by
 unfold fe
 rw[if_neg h]
theorem L7{d:Nat}(p:Part)(cs:List Value)(w:World)(hp:dJ (d+2) w p cs)(hn:p.ps.length<9223372036854775807):Calls Tryz.prog 60 [.agg cs.toArray].toArray w
  fun e w'=>∃ s:{ s:ay // s.l=(fe p).getD [] },e=.returned (.tuple #[s.1.v,.bool (fe p).isSome])/\Ext w w'/\s.1.ok w':=by
 obtain⟨ps,body,ad,cap,bK,rfl,⟨okp,lp⟩,⟨okb,lb⟩,hcap,hr,hsl,hsub⟩:=hp
 have none_any:∀ {S:List Nat} {M:List aL} {w':World},aa w S M w'->S=[]->aB.ok w':=fun _ _=>dN _
 refine enter (n:=56) Tryz.func60 rfl rfl rfl (aa.start w []) ?_
 refine JC.seq (JC.region (JL.box (r:=[Z p.kind,ps.v,.int .i64 p.code,body.v,.slice ad p.parts.length cap]) rfl rfl rfl fun b1 _=>?_))
 have hpix:cJ p.ps C5=if mN xm p.ps<p.ps.length then(p.ps.getD (mN xm p.ps) ([],[])).2 else []:=L6 C5 p.ps
 have ci:=fun (M:List aL) (w':World) (hw':aa w [] M w')=>IP (C:=fun _=>True) (D:=fun _=>True) ps IN xm w' (okp.holds hw' rfl) Oh (fun _ _=>trivial) (fun _ _=>trivial) (by rw[lp];exact hn)
 rw[lp] at ci
 by_cases hx:mN xm p.ps<p.ps.length
 rotate_left
 · have hS:fe p=none:=wO (by
    rintro⟨h,_⟩
    rw[hpix,if_neg hx] at h
    exact absurd h Y610)
   rw[hS]
   rw[Aj hx] at ci
   have g1:decide ((-1:Int)<0)=true:=rfl
   repeat(first|refine JL.q (by first|exact Y399|(apply OQ.ai (vs:=[ps.v,IN]);exact mB;rfl;exact(ci _))|(apply OQ.fV (a:=(-1:Int)) (b:=0);rfl;rfl;exact g1)|exact Y330|exact Y323|exact Y324|exact Y377) rfl ?_|refine JC.seq ?_|refine JC.region ?_|refine JL.nil ?_|refine JE.next ?_|refine JL.aM rfl rfl rfl rfl ?_)
   refine Y246 ?_
   refine Y3 ?_
   refine Y247 ?_
   refine Y250 ?_
   exact Y315
 rw[if_pos hx] at hpix
 rw[tX hx] at ci
 have hx':mN xm p.ps<ps.l.length:=by rw[lp];exact hx
 obtain⟨bp,jp,eP,ltp,cp1,cp2⟩:=okp.at hx'
 have vP:ps.v=.slice (some ⟨bp,jp,none⟩) p.ps.length ps.cap:=by rw[<- eP,<- lp];rfl
 rw[lp] at cp1 cp2
 have g1:decide (((mN xm p.ps:Nat):Int)<0)=false:=decide_eq_false Y609
 have hlp:p.ps.length<9223372036854775807:=hn
 generalize mN xm p.ps=ix at ci cp1 cp2 hpix g1 hx
 generalize (p.ps.getD ix ([],[])).2=pv at cp2 hpix
 rw[vP] at ci⊢
 cases g2:decide (pv=eW)
 · have hS:fe p=none:=wO (by
    rintro⟨h,_⟩
    rw[hpix] at h
    exact of_decide_eq_false g2 h)
   rw[hS]
   repeat(first|refine JL.q (by first|exact Y593|exact Y594|exact Y595|exact Y596|exact Y597|exact Y598|exact Y330|exact Y331|exact Y323|exact Y324|exact Y377) rfl ?_|refine JC.seq ?_|refine JC.region ?_|refine JL.nil ?_|refine JE.next ?_|refine JL.bG rfl rfl ?_|refine JL.aM rfl rfl rfl rfl ?_)
   refine Y246 ?_
   refine Y3 ?_
   refine Y247 ?_
   refine Y250 ?_
   exact Y315
 cases g3:decide ((p.parts.length:Int)=2)
 · have hS:fe p=none:=wO (by
    rintro⟨_,h,_⟩
    exact of_decide_eq_false g3 Y609)
   rw[hS]
   repeat(first|refine JL.q Y764 rfl ?_|refine JL.bG rfl rfl ?_|refine Y228 ?_)
   refine Y246 ?_
   refine Y3 ?_
   refine Y247 ?_
   refine Y250 ?_
   exact Y315
 have h2:p.parts.length=2:=by have:=of_decide_eq_true g3;omega
 repeat(first|refine JL.q Y764 rfl ?_|refine JL.bG rfl rfl ?_|refine Y228 ?_)
 refine Y245 ?_
 refine Y38 ?_
 clear ci cp1 cp2
 obtain⟨bq,jq,rfl,ltq,hc0⟩:=zT hr hsub (show 0<bK.length by omega)
 obtain⟨bq',jq',eq',_,hc1⟩:=zT hr hsub (show 1<bK.length by omega)
 simp only[Option.some.injEq,Addr.mk.injEq,and_true] at eq'
 obtain⟨rfl,rfl⟩:=eq'
 obtain⟨ps0,bo0,ad0,cap0,subs0,e0,_,⟨okb0,lb0⟩,_⟩:=hsub 0 Y609
 obtain⟨ps1,bo1,ad1,cap1,subs1,e1,_,⟨okb1,lb1⟩,_⟩:=hsub 1 Y609
 rw[e0] at hc0
 rw[e1] at hc1
 have hS:fe p=if (p.parts.getD 0 default).kind=eW/\(p.parts.getD 1 default).kind=fQ/\(p.parts.getD 0 default).body.take 10=kq then some (p.parts.getD 1 default).body else none:=by
  unfold fe
  have hv:cJ p.ps C5=eW:=by rw[hpix];exact of_decide_eq_true g2
  by_cases hh:(p.parts.getD 0 default).kind=eW/\(p.parts.getD 1 default).kind=fQ/\(p.parts.getD 0 default).body.take 10=kq
  · rw[if_pos hh,if_pos ⟨hv,h2,hh⟩]
  · rw[if_neg hh,if_neg (fun k=>hh k.2.2)]
 rw[<- lb0,<- lb1] at hS
 generalize (p.parts.getD 0 default).kind=k0 at hc0 hS
 generalize (p.parts.getD 0 default).code=o0 at hc0
 generalize (p.parts.getD 0 default).parts.length=n0 at hc0
 generalize (p.parts.getD 1 default).kind=k1 at hc1 hS
 generalize (p.parts.getD 1 default).code=o1 at hc1
 generalize (p.parts.getD 1 default).parts.length=n1 at hc1
 have i0:0<p.parts.length:=by omega
 have i1:1<p.parts.length:=by omega
 let vs:Nat->Nat->Value:=fun j z=>match j with
  | 0=>Pt b1 4
  | 1=>.slice (some ⟨bq,jq,none⟩) p.parts.length cap
  | 2=>.pointer (some ⟨bq,jq+0*5,none⟩)
  | 3=>.agg ([Z k0,ps0.v,.int .i64 o0,bo0.v,.slice ad0 n0 cap0]:List Value).toArray
  | 4=>Pt b1 4
  | 5=>.slice (some ⟨bq,jq,none⟩) p.parts.length cap
  | 6=>.pointer (some ⟨bq,jq+1*5,none⟩)
  | 7=>.agg ([Z k1,ps1.v,.int .i64 o1,bo1.v,.slice ad1 n1 cap1]:List Value).toArray
  | 8=>Pt z 0
  | 9=>Pt z 0
  | _=>N 0
 let Ms:Nat->Nat->List aL:=fun j z=>match j with
  | 8=>[⟨z,Row 59 pz,true⟩]
  | 9=>[⟨z,Row 59 pz,true⟩]
  | 10=>[⟨z,Row 59 [Z k0,ps0.v,.int .i64 o0,bo0.v,.slice ad0 n0 cap0],true⟩]
  | 11=>[⟨z,Row 59 [Z k1,ps1.v,.int .i64 o1,bo1.v,.slice ad1 n1 cap1],true⟩]
  | 12=>[⟨b1,Row 59 [Z p.kind,.slice (some ⟨bp,jp,none⟩) p.ps.length ps.cap,.int .i64 p.code,body.v,.slice (some ⟨bq,jq,none⟩) p.parts.length cap],true⟩]
  | _=>[]
 refine JC.nt (g:=⟨[(1,Pt b1 0)],13,vs,Ms,(fun j=>match j with|1=>[(0,29)]|2=>[(1,30)]|3=>[(2,31)]|5=>[(4,33)]|6=>[(5,34)]|7=>[(6,35)]|10=>[(8,5),(3,32)]|11=>[(9,6),(7,36)]|_=>[]),(fun j=>match j with|1=>[12]|5=>[12]|10=>[8]|11=>[9]|_=>[]),(fun j=>match j with|10=>[8]|11=>[9]|_=>[]),(fun j=>match j with|10=>some 8|11=>some 9|_=>none),fun _=>[],fun _ a b=>a=b⟩) [(8,5),(9,6)] [10,11] xb Y640 (fun _ _=>.nil) (aj.refl _) Y636 Y636 Y636 ?_ ?_
 · refine⟨?_,?_,?_,?_,?_,?_,?_,?_,?_,?_,?_,?_,trivial⟩
   · (intro x' EF MF Q kk;exact JL.q (OQ.ov (o:=4) rfl rfl rfl Y610 rfl rfl) rfl (JL.nil (kk default nofun)))
   · (intro x' EF MF Q kk;exact JL.q (OQ.load jt rfl .here (Row.cell (v:=.slice (some ⟨bq,jq,none⟩) p.parts.length cap) rfl)) rfl (JL.nil (kk default nofun)))
   · (intro x' EF MF Q kk;exact JL.q (OQ.iD (i:=0) Tryz.underlying57 iE rfl rfl i0) rfl (JL.nil (kk default nofun)))
   · (intro x' EF MF Q kk;exact JL.q (OQ.bE (cs:=[Z k0,ps0.v,.int .i64 o0,bo0.v,.slice ad0 n0 cap0]) gx rfl iE ltq Y614 hc0) rfl (JL.nil (kk default nofun)))
   · (intro x' EF MF Q kk;exact JL.q (OQ.ov (o:=4) rfl rfl rfl Y610 rfl rfl) rfl (JL.nil (kk default nofun)))
   · (intro x' EF MF Q kk;exact JL.q (OQ.load jt rfl .here (Row.cell (v:=.slice (some ⟨bq,jq,none⟩) p.parts.length cap) rfl)) rfl (JL.nil (kk default nofun)))
   · (intro x' EF MF Q kk;exact JL.q (OQ.iD (i:=1) Tryz.underlying57 iE rfl rfl i1) rfl (JL.nil (kk default nofun)))
   · (intro x' EF MF Q kk;exact JL.q (OQ.bE (cs:=[Z k1,ps1.v,.int .i64 o1,bo1.v,.slice ad1 n1 cap1]) gx rfl iE ltq Y614 hc1) rfl (JL.nil (kk default nofun)))
   · (intro x' EF MF Q kk;exact JL.alloc (r:=pz) tr rfl fun b5 _=>JL.nil (kk b5 nofun))
   · (intro x' EF MF Q kk;exact JL.alloc (r:=pz) tr rfl fun b5 _=>JL.nil (kk b5 nofun))
   · (intro x' EF MF Q kk;exact JL.ax (cs:=[Z k0,ps0.v,.int .i64 o0,bo0.v,.slice ad0 n0 cap0]) iE rfl rfl rfl rfl .here rfl (JL.nil (kk (x' 8) (fun k h=>by cases h;rfl))))
   · (intro x' EF MF Q kk;exact JL.ax (cs:=[Z k1,ps1.v,.int .i64 o1,bo1.v,.slice ad1 n1 cap1]) iE rfl rfl rfl rfl .here rfl (JL.nil (kk (x' 9) (fun k h=>by cases h;rfl))))
 intro x' hx2
 have z10:x' 10=x' 8:=hx2 10 8 Y610 rfl
 have z11:x' 11=x' 9:=hx2 11 9 Y610 rfl
 show JE _ _ _ _ _ [(5,Pt (x' 8) 0),(6,Pt (x' 9) 0),(1,Pt b1 0)] [⟨x' 10,Row 59 [Z k0,ps0.v,.int .i64 o0,bo0.v,.slice ad0 n0 cap0],true⟩,⟨x' 11,Row 59 [Z k1,ps1.v,.int .i64 o1,bo1.v,.slice ad1 n1 cap1],true⟩]
 rw[z10,z11]
 clear z10 z11 hx2
 generalize x' 8=b5
 generalize x' 9=b6
 clear x' vs Ms
 repeat(first|refine JL.q (by first|(apply OQ.load;exact bS;rfl;exact .here;exact(Row.cell (v:=Z k0) rfl))|(apply OQ.load;exact bS;rfl;exact(.there .here);exact(Row.cell (v:=Z k1) rfl))|(apply OQ.Gs (a:=k0) (b:=k1);rfl;rfl)|(apply OQ.Gs (a:=eW) (b:=fQ);rfl;rfl)|exact Y377) rfl ?_|refine JC.seq ?_|refine JC.region ?_|refine JE.next ?_)
 refine JL.alloc Ua rfl fun b7 _=>?_
 refine JL.alloc Ua rfl fun b8 _=>?_
 refine JL.ax (cs:=[Z k0,Z k1]) Rh rfl rfl rfl rfl (.there .here) rfl ?_
 refine JL.ax (cs:=[Z eW,Z fQ]) Rh rfl rfl rfl rfl .here rfl ?_
 cases g4:(decide (k0=eW)&&decide (k1=fQ))
 · have hN:fe p=none:=by
    rw[hS,if_neg]
    rintro⟨h,h',_⟩
    rw[decide_eq_true h,decide_eq_true h'] at g4
    cases g4
   rw[hN]
   repeat(first|refine JL.q (by first|exact Y600|exact Y601|exact Y602) rfl ?_|refine JL.aM rfl rfl rfl rfl ?_|refine Y73 ?_)
   refine Y246 ?_
   refine Y3 ?_
   refine Y247 ?_
   refine Y250 ?_
   exact Y315
 have hk:k0=eW/\k1=fQ:=by simpa only[Bool.and_eq_true,decide_eq_true_eq] using g4
 repeat(first|refine JL.q (by first|exact Y600|exact Y601|exact Y602|(apply OQ.load;exact lO;rfl;exact(.there (.there .here));exact(Row.cell (v:=bo0.v) rfl))) rfl ?_|refine JL.bG rfl rfl ?_|refine Y222 ?_)
 refine JL.zz (xs:=kq.map fun c=>.const (U8 c)) (vs:=kq.map U8) Tryz.underlying22 dV rfl rfl rfl rfl (fun v hv=>by obtain⟨c,_,rfl⟩:=List.mem_map.1 hv;rfl) rfl Y610 Y610 rfl fun b9 _=>?_
 repeat(refine JL.bG rfl rfl ?_)
 refine Y310 ?_
 have ch:=fun (M:List aL) (w':World) (hw':aa w [] (⟨b9,Mn 5 (kq.map U8),true⟩::M) w')=>Nv bo0 ⟨some ⟨b9,0,none⟩,10,kq⟩ w' (okb0.holds hw' rfl) ⟨show 10<=10 by decide,by
  obtain⟨o,ho,hA⟩:=hw'.get .here
  exact Reads.block ho (Mn.all _ hA)⟩
 rw[QV] at ch
 cases g5:decide (bo0.l.take 10=kq)
 · rw[g5] at ch
   have hN:fe p=none:=by
    rw[hS,if_neg]
    rintro⟨_,_,h⟩
    exact of_decide_eq_false g5 h
   rw[hN]
   repeat(first|refine JL.q (by exact Y603) rfl ?_|refine JL.bG rfl rfl ?_|refine Y229 ?_)
   refine Y246 ?_
   refine Y3 ?_
   refine Y247 ?_
   refine Y250 ?_
   exact Y315
 rw[g5] at ch
 have hY:fe p=some bo1.l:=by rw[hS,if_pos ⟨hk.1,hk.2,of_decide_eq_true g5⟩]
 rw[hY]
 repeat(first|refine JL.q (by exact Y603) rfl ?_|refine JL.bG rfl rfl ?_|refine Y229 ?_)
 refine Y245 ?_
 repeat(first|refine JL.q (by first|(apply OQ.load;exact lO;rfl;exact(.there (.there (.there (.there .here))));exact(Row.cell (v:=bo1.v) rfl))|exact Y324|exact Y377) rfl ?_|refine JC.seq ?_|refine JC.region ?_|refine JC.skip ?_|refine JL.nil ?_|refine JE.next ?_)
 refine Y247 ?_
 skip
 exact JE.aV rfl (RV.tmp rfl) (RV.tmp rfl) fun w' hw=>⟨⟨bo1,rfl⟩,rfl,hw.aH,okb1.holds hw rfl⟩
end
section
open Sl aq Tok gZ zo
theorem wP:aJ Tryz.prog 14:=⟨_,Tryz.func14,rfl,by kernel_rfl⟩
theorem Az:aJ Tryz.prog 17:=⟨_,Tryz.func17,rfl,by kernel_rfl⟩
theorem AA:aJ Tryz.prog 31:=⟨_,Tryz.func31,rfl,by kernel_rfl⟩
theorem AB:aJ Tryz.prog 22:=⟨_,Tryz.func22,rfl,by kernel_rfl⟩
theorem Oi{d:Nat}(p:Part)(cs:List Value)(w:World)(hp:dJ (d+2) w p cs)(hn:p.ps.length<9223372036854775807):Calls Tryz.prog 32 [.agg cs.toArray].toArray w
  fun e w'=>∃ s:{ s:ay // s.l=(oG p).getD [] },e=.returned (.tuple #[s.1.v,.bool (oG p).isSome])/\Ext w w'/\s.1.ok w':=by
 have ch:=fun (M:List aL) (w':World) (hw':aa w [] M w')=>L7 p cs w' (hp.ext hw'.aH) hn
 obtain⟨ps,body,ad,cap,bK,rfl,⟨okp,lp⟩,⟨okb,lb⟩,hcap,hr,hsl,hsub⟩:=hp
 refine enter (n:=16) Tryz.func32 rfl rfl rfl (aa.start w []) ?_
 refine JC.seq (JC.region (JL.box (r:=[Z p.kind,ps.v,.int .i64 p.code,body.v,.slice ad p.parts.length cap]) rfl rfl rfl fun b1 _=>?_))
 cases g1:decide (p.kind=mL)
 rotate_left
 · have hS:oG p=some p.body:=by
    unfold oG
    rw[if_pos (of_decide_eq_true g1)]
   rw[hS]
   refine Y230 ?_
   refine Y246 ?_
   repeat(first|refine JL.q (by exact Y547) rfl ?_|refine Y84 ?_)
   refine Y247 ?_
   refine Y2 ?_
   exact JE.aV rfl (RV.tmp rfl) (RV.tmp rfl) fun w' hw=>⟨⟨body,lb⟩,rfl,hw.aH,okb.holds hw rfl⟩
 cases g2:decide (p.kind=eE)
 · have hS:oG p=none:=by
    unfold oG
    rw[if_neg (of_decide_eq_false g1),if_neg (of_decide_eq_false g2)]
   rw[hS]
   refine Y230 ?_
   refine Y245 ?_
   repeat(first|refine JL.q Y765 rfl ?_|refine Y20 ?_)
   refine Y245 ?_
   refine Y175 ?_
   refine Y247 ?_
   skip
   exact Y315
 have hS:oG p=fe p:=by
  unfold oG
  rw[if_neg (of_decide_eq_false g1),if_pos (of_decide_eq_true g2)]
 rw[hS]
 refine Y230 ?_
 refine Y245 ?_
 repeat(first|refine JL.q Y765 rfl ?_|refine Y20 ?_)
 refine Y246 ?_
 repeat(first|refine JL.q (by exact Y540) rfl ?_|refine JC.seq ?_|refine JC.region ?_)
 refine JL.Bi (vs:=[.agg #[Z p.kind,ps.v,.int .i64 p.code,body.v,.slice ad p.parts.length cap]]) (S':=[]) (ι:={ s:ay // s.l=(fe p).getD [] }) (fun y=>.tuple #[y.1.v,.bool (fe p).isSome]) (fun y w2=>y.1.ok w2) [] IK rfl rfl (fun w' hw'=>(ch _ w' hw').mono fun e w2 ⟨y,h1,h2,h3⟩=>⟨y,h1,h2,h3⟩) (.nil _) nofun ?_
 intro y w1 hw1 oky
 have hx1:Ext w w1:=hw1.aH
 clear hw1
 refine Y172 ?_
 refine Y247 ?_
 refine Y2 ?_
 exact JE.aV rfl (RV.tmp rfl) (RV.tmp rfl) fun w' hw=>⟨y,rfl,hx1.trans hw.aH,oky.holds hw rfl⟩
def Oj:Except Nat jo->jo
 | .ok e=>e
 | .error _=>⟨[],[],[],[],false,[],[]⟩
def mC:kG:=⟨[],[],[],[],false,aB,aB⟩
theorem uf(w:World):mC.ok w:=⟨dN w,dN w⟩
theorem OQ.qP{n:Nat}{E:Env}{C:World->Prop}{dst:Option Tmp}{ty:TypeId}{pos:String}{aft:Array Edge}{g:Option (Nat × Bool)}:OQ Tryz.prog n E C ⟨dst,.build 24 #[],ty,pos,aft,g⟩ (.agg mC.cs.toArray):=by
 refine OQ.run fun k hk w _=>?_
 have h3:=run_build (P:=Tryz.prog) w 24 #[] mC.cs.toArray Y636
 simp[execOp,Sem.run_bind,h3]
theorem CY{s:ay}{w1 w2:World}{S M:List Nat}{X:List aL}(h:s.ok w1)(hw:aa w1 S X w2)(hS:∀ b∈S,∃ (r:List Value) (e:TypeId) (fr:Nat × Nat),w1.heap[b]?=some (.cells r.toArray e fr)/\∀ c:Bt,U8 c ∉ r):s.ok w2:=by
 refine⟨h.len,hw.reads h.reads fun hne a ha hin=>?_⟩
 obtain⟨r,e,fr,h1,h2⟩:=hS _ hin
 have hl:0<s.l.length:=by
  cases hl:s.l with
  | nil=>exact absurd (by rw[hl];rfl) hne
  | cons c t=>simp
 obtain⟨b,j,e1,c1⟩:=h.reads 0 (U8 (s.l.getD 0 0)) (dF U8 0 hl)
 rw[e1] at ha
 cases ha
 have h1:w1.heap[b]?=some (.cells r.toArray e fr):=h1
 simp only[World.cell?,h1] at c1
 have c2:r[j+0]?=some (U8 (s.l.getD 0 0)):=by simpa using c1
 exact h2 _ (List.mem_of_getElem? c2)
theorem Ok(f:List Pr):(decide (((cH (bW C3 f)).2:Int)=0)&&(decide (((cH (bW C4 f)).2:Int)=0)&&((gN (bW Fe f)).2&&((gN (bW Ff f)).2&&(tg (bW wY f)).isSome))))=(MK f).isSome:=by
 have i1:decide (((cH (bW C3 f)).2:Int)=0)=decide ((cH (bW C3 f)).2=0):=decide_eq_decide.2 Y609
 have i2:decide (((cH (bW C4 f)).2:Int)=0)=decide ((cH (bW C4 f)).2=0):=decide_eq_decide.2 Y609
 rw[i1,i2]
 unfold MK
 by_cases h:(cH (bW C3 f)).2=0/\(cH (bW C4 f)).2=0/\(gN (bW Fe f)).2=true/\(gN (bW Ff f)).2=true
 · rw[if_pos h,decide_eq_true h.1,decide_eq_true h.2.1,h.2.2.1,h.2.2.2]
   cases tg (bW wY f) <;> rfl
 · rw[if_neg h]
   by_cases h1:(cH (bW C3 f)).2=0
   · by_cases h2:(cH (bW C4 f)).2=0
     · cases h3:(gN (bW Fe f)).2
       · simp
       · cases h4:(gN (bW Ff f)).2
         · simp
         · exact absurd ⟨h1,h2,h3,h4⟩ h
     · rw[decide_eq_false h2];simp
   · rw[decide_eq_false h1];simp
theorem Ol{f:List Pr}{v:jo}(h:MK f=some v):v=⟨(cH (bW C3 f)).1,(cH (bW C4 f)).1,(gN (bW Fe f)).1,(gN (bW Ff f)).1,false,(bQ.fE (bQ.bare (bW wY f))).getD [],[]⟩:=by
 unfold MK at h
 split at h
 · split at h
   · cases h
   · rename_i b hb
     cases h
     have hd:(bQ.fE (bQ.bare (bW wY f))).getD []=b:=by
      cases hd:bQ.fE (bQ.bare (bW wY f)) with
      | none=>rw[CU hd] at hb;cases hb
      | some b'=>
        rw[CV hd] at hb
        split at hb
        · cases hb;rfl
        · cases hb
     rw[hd]
 · cases h
theorem L8{k:Nat}{f:List Pr}{b:List Bt}{p:Part}(h:dK gv.Qd k f b=.ok p):p.ps=(e7 f).2.1:=by
 rw[pE,qA] at h
 split at h
 · cases h
 · split at h
   · unfold vS at h
     split at h
     · cases h
     · cases h;rfl
   · unfold sV at h
     split at h
     · cases h
     · split at h
       · cases h
       · cases h;rfl
theorem QW{f:List Pr}{b:List Bt}{v:jo}{p:Part}(h1:MK f=some v)(h2:dK gv.Qd 8 f b=.ok p):wZ gv.Qd f b=match oG p with
  | none=>.error 3
  | some c=>if 1049600<c.length then .error 4 else .ok { v with pl:=decide (p.kind=mL),ci:=c }:=by
 unfold wZ
 rw[h1]
 dsimp only
 rw[h2]
 rfl
theorem yX(f:gm)(s:ay)(w:World)(hE:fz w)(hR:jj w)(hf:f.ok w)(hs:s.ok w)(hz:fX f)(hl:f.l.length<=1000000)(hb:s.l.length<=60000)(hv:∀ p∈f.l,p.2.length<=60000):Calls Tryz.prog 14 [.agg #[f.v,s.v]].toArray w
  fun e w'=>∃ x:{ x:kG // x.en=Oj (wZ gv.Qd f.l s.l) },e=.returned (.tuple #[.agg x.1.cs.toArray,N (dG (wZ gv.Qd f.l s.l))])/\Ext w w'/\x.1.ok w':=by
 have ch:=fun (M:List aL) (w':World) (hw':aa w [] M w')=>L5 f s w' (hf.holds hw' rfl) hz hl hv
 have cr:=fun (M:List aL) (w':World) (hw':aa w [] M w')=>EB f s w' (hE.holds hw') (hf.holds hw' rfl) (hs.holds hw' rfl) hz hl hb (fun p hp _=>by have:=hv p hp;omega)
 have hfind:=Ok f.l
 have htl:=(Gj (f:=f.l) (m:=60000) (fun p hp _=>hv p hp)).1
 refine enter (n:=47) Tryz.func14 rfl rfl rfl (aa.start w []) ?_
 refine JC.seq (JC.region (JL.box (r:=[f.v,s.v]) rfl rfl rfl fun b1 _=>?_))
 refine JL.alloc Q7 rfl fun b2 hb2=>?_
 refine Y195 ?_
 refine JL.bD (ι:={ x:ay // iP x ((bQ.fE (bQ.bare (bW wY f.l))).getD []) }) (vs:=[.agg #[f.v,s.v]]) (fun x=>.tuple #[.agg (QU f.l x.1).toArray,.agg (Rg f.l).toArray]) (fun x=>x.1.an) II rfl rfl (fun x=>x.1.bH) (ch _) ?_
 intro x
 have hxl:=x.2.val
 have hxn:=x.2.none
 refine JL.perm (M':=⟨b2,Row 24 mC.cs,true⟩::⟨b1,Row 29 [f.v,s.v],true⟩::(x.1.an++[])) ?_ (bA _ [_,_] _)
 refine Y285 ?_
 refine JL.alloc Q7 rfl fun b4 hb4=>?_
 refine JL.alloc Tq rfl fun b5 _=>?_
 refine JL.ax (cs:=QU f.l x.1) oX rfl rfl rfl rfl (.there .here) rfl ?_
 refine JL.ax (cs:=Rg f.l) Nq rfl rfl rfl rfl .here rfl ?_
 repeat(first|refine JL.q (by first|(apply OQ.aF (cs:=Rg f.l);exact Q8;exact Nq;rfl;exact .here;rfl;exact Row.all)|exact Y571|(apply OQ.RX;rfl;rfl;exact hfind)) rfl ?_|refine Y133 ?_)
 clear ch
 cases hh:MK f.l with
 | none=>
   have hW:wZ gv.Qd f.l s.l=.error 3:=by
    unfold wZ
    rw[hh]
   rw[hW]
   refine Y246 ?_
   refine Y231 ?_
   refine Y316 ?_
   refine Y39 ?_
   refine Y247 ?_
   refine Y250 ?_
   exact JE.aV rfl (RV.aT (cs:=mC.cs) w9 oX rfl (.there (.there .here)) rfl Row.all) (RV.tmp rfl) fun w' hw=>⟨⟨mC,rfl⟩,rfl,hw.aH,uf _⟩
 | some v=>
   have hvv:=Ol hh
   refine Y245 ?_
   repeat(first|refine JL.q (by(apply OQ.aF (cs:=[f.v,s.v]);exact c7;exact aZ;rfl;exact(.there (.there (.there .here)));rfl;exact Row.all)) rfl ?_|refine Y197 ?_)
   have hne:=fun e=>ny Gi 8 f.l s.l e
   have hrP:=fun (p:Part) (h:dK gv.Qd 8 f.l s.l=.ok p)=>QW hh h
   have hrE:∀ k,dK gv.Qd 8 f.l s.l=.error k->wZ gv.Qd f.l s.l=.error k:=fun k h=>by
    unfold wZ
    rw[hh]
    dsimp only
    rw[h]
   have hps:=fun (p:Part) (h:dK gv.Qd 8 f.l s.l=.ok p)=>L8 h
   refine JL.bD (ι:=PA 9 (dK gv.Qd 8 f.l s.l)) (vs:=[.agg #[f.v,s.v]]) (fun x=>.tuple #[.agg x.cs.toArray,N (dG (dK gv.Qd 8 f.l s.l))]) (fun x=>x.M) AA rfl rfl (fun x=>x.wr) (cr _) ?_
   clear cr
   intro y
   have yis:=y.is
   have ylen:=y.len
   have yone:=y.one
   obtain⟨ycs,yM,_,_,ywr,_⟩:=y
   dsimp only at yis ylen yone⊢
   generalize dK gv.Qd 8 f.l s.l=R at hne hrP hrE hps yis⊢
   refine JL.perm (M':=⟨b5,Row 53 (Rg f.l),true⟩::⟨b4,Row 24 (QU f.l x.1),true⟩::⟨b2,Row 24 mC.cs,true⟩::(yM++(⟨b1,Row 29 [f.v,s.v],true⟩::(x.1.an++[])))) ?_ (bA _ [_,_,_] _)
   refine Y285 ?_
   refine JL.alloc (r:=pz) ?_ ?_ fun b6 hb6=>?_
   exact tr
   rfl
   refine JL.ax (cs:=ycs) iE rfl rfl ylen yone .here rfl ?_
   have hcp:(∃ e,R=.error e)\/(∃ p,R=.ok p):=by
    cases R with
    | error e=>exact .inl ⟨e,rfl⟩
    | ok q=>exact .inr ⟨q,rfl⟩
   rcases hcp with⟨k,hp⟩|⟨p,hp⟩
   · have hk:dG R=k:=by rw[hp];rfl
     rw[hk,hrE k hp]
     have hk0:=hne k hp
     have g0:decide ((k:Int)=0)=false:=decide_eq_false Y609
     repeat(first|refine JL.q (by exact Y604) rfl ?_|refine Y0 ?_)
     refine Y246 ?_
     repeat(first|refine JL.q (by first|(apply OQ.qP)|exact Y323) rfl ?_|refine JC.seq ?_|refine JC.region ?_)
     refine JL.ax (cs:=mC.cs) oX rfl rfl rfl rfl (.there (.there (.there .here))) rfl ?_
     refine Y39 ?_
     refine Y247 ?_
     refine Y250 ?_
     exact JE.aV rfl (RV.aT (cs:=mC.cs) w9 oX rfl (.there (.there (.there .here))) rfl Row.all) (RV.tmp rfl) fun w' hw=>⟨⟨mC,rfl⟩,rfl,hw.aH,uf _⟩
   · have hk:dG R=0:=by rw[hp];rfl
     rw[hk,hrP p hp]
     have hpl:p.ps.length<9223372036854775807:=by rw[hps p hp];omega
     have hPE:=yis p hp
     have g0:decide (((0:Nat):Int)=0)=true:=rfl
     repeat(first|refine JL.q (by exact Y605) rfl ?_|refine Y0 ?_)
     refine Y245 ?_
     repeat(first|refine JL.q (by(apply OQ.aF (cs:=ycs);exact gx;exact iE;rfl;exact .here;exact ylen;exact Row.all)) rfl ?_|refine Y197 ?_)
     refine JL.Bi (vs:=[.agg ycs.toArray]) (S':=[b6,b4,b2]) (ι:={ s:ay // s.l=(oG p).getD [] }) (fun y=>.tuple #[y.1.v,.bool (oG p).isSome]) (fun y w2=>y.1.ok w2) [⟨b6,Row 59 ycs,true⟩,⟨b4,Row 24 (QU f.l x.1),true⟩,⟨b2,Row 24 mC.cs,true⟩] IL rfl rfl (fun w' hw'=>(Oi (d:=7) p ycs w' (hPE.is w [] w' (Sl.aa.weak hw' (.drop _ _ _ (.drop _ _ _ (.drop _ _ _ (.drop _ _ _ (bO _ _))))))) hpl).mono fun e w2 ⟨y,h1,h2,h3⟩=>⟨y,h1,h2,h3⟩) (.keep _ _ _ _ _ _ (fun _ h=>h) (.drop _ _ _ (.keep _ _ _ _ _ _ (fun _ h=>h) (.keep _ _ _ _ _ _ (fun _ h=>h) (.nil _))))) (fun e he _=>by
      simp only[List.mem_cons,List.not_mem_nil,or_false] at he⊢
      rcases he with rfl|rfl|rfl
      · exact .inl rfl
      · exact .inr (.inl rfl)
      · exact .inr (.inr rfl)) ?_
     intro q w1 hw1 okq
     have hx1:Ext w w1:=hw1.aH
     have hip:=hPE.is w [] w1 (Sl.aa.weak hw1 (.drop _ _ _ (.drop _ _ _ (.drop _ _ _ (.drop _ _ _ (bO _ _))))))
     have okx:x.1.ok w1:=ay.bU (M:=[]) (Sl.aa.weak hw1 (.drop _ _ _ (.drop _ _ _ (.drop _ _ _ (.drop _ _ _ (aS _ (.drop _ _ _ (aj.refl _)))))))) hxn
     obtain⟨ps,body,ad,cap,bK,rfl,_⟩:=hip
     have hSr:∀ b∈[b6,b4,b2],∃ (r:List Value) (e:TypeId) (fr:Nat × Nat),w1.heap[b]?=some (.cells r.toArray e fr)/\∀ c:Bt,U8 c ∉ r:=by
      obtain⟨o6,p6,q6⟩:=hw1.get (b:=b6) .here
      obtain⟨o4,p4,q4⟩:=hw1.get (b:=b4) (.there (.there .here))
      obtain⟨o2,p2,q2⟩:=hw1.get (b:=b2) (.there (.there (.there .here)))
      intro b hb
      simp only[List.mem_cons,List.not_mem_nil,or_false] at hb
      rcases hb with rfl|rfl|rfl
      · refine⟨_,_,_,by rw[p6];exact congrArg some q6,fun c hc=>?_⟩
        simp only[List.mem_cons,List.not_mem_nil,or_false] at hc
        rcases hc with h|h|h|h|h <;> cases h
      · refine⟨_,_,_,by rw[p4];exact congrArg some q4,fun c hc=>?_⟩
        simp only[QU,List.mem_cons,List.not_mem_nil,or_false] at hc
        rcases hc with h|h|h|h|h|h|h <;> cases h
      · refine⟨_,_,_,by rw[p2];exact congrArg some q2,fun c hc=>?_⟩
        simp only[mC,kG.cs,List.mem_cons,List.not_mem_nil,or_false] at hc
        rcases hc with h|h|h|h|h|h|h <;> cases h
     have hSb:∀ b∈[b6,b4,b2],w.heap.size<=b:=fun b hb=>by
      simp only[List.mem_cons,List.not_mem_nil,or_false] at hb
      rcases hb with rfl|rfl|rfl
      · exact hb6
      · exact hb4
      · exact hb2
     clear hw1 yis hPE hps hrE hrP hne
     obtain⟨q,hq⟩:=q
     dsimp only at okq hq⊢
     cases hc:oG p with
     | none=>
       refine Y153 ?_
       refine Y246 ?_
       refine Y231 ?_
       refine Y316 ?_
       refine Y39 ?_
       refine Y247 ?_
       refine Y250 ?_
       exact Y317
     | some c=>
       rw[hc] at hq
       have hq:q.l=c:=hq
       dsimp only
       cases g3:decide ((1049600:Int)<(q.l.length:Int))
       rotate_left
       · rw[if_pos (by have:=of_decide_eq_true g3;rw[hq] at this;omega)]
         refine Y153 ?_
         refine Y245 ?_
         repeat(first|refine JL.q (by exact Y606) rfl ?_|refine Y232 ?_)
         refine Y246 ?_
         refine Y231 ?_
         refine Y316 ?_
         refine Y39 ?_
         refine Y247 ?_
         refine Y250 ?_
         exact Y317
       rw[if_neg (by have:=of_decide_eq_false g3;rw[hq] at this;omega)]
       refine Y153 ?_
       refine Y245 ?_
       repeat(first|refine JL.q (by exact Y606) rfl ?_|refine Y232 ?_)
       refine Y245 ?_
       let e1:kG:=⟨(cH (bW C3 f.l)).1,(cH (bW C4 f.l)).1,(gN (bW Fe f.l)).1,(gN (bW Ff f.l)).1,decide (p.kind=mL),x.1,aB⟩
       let e2:kG:=⟨(cH (bW C3 f.l)).1,(cH (bW C4 f.l)).1,(gN (bW Fe f.l)).1,(gN (bW Ff f.l)).1,decide (p.kind=mL),x.1,q⟩
       repeat(first|refine JL.q (by first|(apply OQ.load;exact bS;rfl;exact .here;exact(Row.cell (v:=Z p.kind) rfl))|(apply OQ.fR (l:=p.kind) (r:=mL);rfl;rfl;rfl)) rfl ?_|refine Y190 ?_)
       refine JL.aP (v:=.bool (decide (p.kind=mL))) (r':=e1.cs) IJ rfl rfl rfl rfl (.there .here) (show 4<7 by decide) rfl ?_
       refine Y303 ?_
       refine JL.aP (v:=q.v) (r':=e2.cs) O6 rfl rfl rfl rfl (.there .here) (show 6<7 by decide) rfl ?_
       repeat(first|refine JL.q (by(apply OQ.aF (cs:=e2.cs);exact w9;exact oX;rfl;exact(.there .here);rfl;exact Row.all)) rfl ?_|refine Y133 ?_)
       refine JL.ax (cs:=e2.cs) oX rfl rfl rfl rfl (.there (.there .here)) rfl ?_
       refine Y39 ?_
       refine Y247 ?_
       skip
       refine JE.aV rfl (RV.aT (cs:=e2.cs) w9 oX rfl (.there (.there .here)) rfl Row.all) (RV.tmp rfl) fun w' hw=>⟨⟨e2,?_⟩,rfl,pV.over hx1 hw.aH hSb,⟨CY (M:=[]) okx hw hSr,CY (M:=[]) okq hw hSr⟩⟩
       show e2.en=_
       rw[hvv]
       show(⟨_,_,_,_,_,x.1.l,q.l⟩:jo)=⟨_,_,_,_,_,_,c⟩
       rw[hq,hxl]
def Om:Except Nat jo->Bool
 | .error _=>false
 | .ok e=>!e.pl
def QX:Except Nat (List Pr × List Bt)->Bool
 | .error _=>false
 | .ok x=>Om (wZ gv.Qd x.1 x.2)
def On(b:List Bt):Bool:=QX (ir b)
theorem QY{f:List Pr}{b:List Bt}{k:Nat}(h:wZ gv.Qd f b=.error k):k≠0:=by
 unfold wZ at h
 split at h
 · cases h;decide
 · split at h
   · rename_i k' hk
     cases h
     exact ny Gi 8 _ _ _ hk
   · split at h
     · cases h;decide
     · split at h
       · cases h;decide
       · cases h
theorem Ma(s:ay)(w:World)(hE:fz w)(hR:jj w)(hs:s.ok w)(hl:s.l.length<=60000):Calls Tryz.prog 17 [s.v].toArray w fun e w'=>e=.returned (.bool (On s.l))/\Ext w w':=by
 have cl:=fun (M:List aL) (w':World) (hw':aa w [] M w')=>yB s w' (hs.holds hw' rfl) Y609
 rw[show qE s.l=ir s.l from rfl] at cl
 have hlow:=fun f b=>yu (m:=s.l) (fs:=f) (R:=b)
 have hne:=fun e=>vV (m:=s.l) (e:=e)
 unfold On
 generalize ir s.l=R at cl hlow hne⊢
 refine enter (n:=25) Tryz.func17 rfl rfl rfl (aa.start w []) ?_
 refine Y24 ?_
 refine JL.bD (ι:=L9 R) (vs:=[s.v]) (fun y=>.tuple #[.agg #[y.f.v,y.s.v],N (nu R)]) (fun y=>y.s.an++y.f.an) AB rfl rfl (fun y=>y.wr) (cl _) ?_
 intro y
 refine Y285 ?_
 refine JL.alloc iB rfl fun b3 _=>?_
 refine Y298 ?_
 have hcr:(∃ e,R=.error e)\/(∃ q,R=.ok q):=by
  cases R with
  | error e=>exact .inl ⟨e,rfl⟩
  | ok q=>exact .inr ⟨q,rfl⟩
 rcases hcr with⟨k,hr⟩|⟨⟨f',b'⟩,hr⟩
 · have hk:nu R=k:=by rw[hr];rfl
   have he:=hne k hr
   rw[hk]
   have g0:decide ((k:Int)=0)=false:=decide_eq_false Y609
   have hz:QX R=false:=by rw[hr];rfl
   rw[hz]
   repeat(first|refine JL.q (by exact Y604) rfl ?_|refine Y0 ?_)
   refine Y246 ?_
   refine Y3 ?_
   refine Y247 ?_
   refine Y250 ?_
   exact Y248
 · have hk:nu R=0:=by rw[hr];rfl
   rw[hk]
   obtain⟨lb,lf,lp⟩:=hlow f' b' hr
   have hyf:y.f.l=f':=by rw[y.hf,hr];rfl
   have hys:y.s.l=b':=by rw[y.hs,hr];rfl
   have hz:QX R=Om (wZ gv.Qd f' b'):=by rw[hr];rfl
   rw[hz]
   have g0:decide (((0:Nat):Int)=0)=true:=rfl
   repeat(first|refine JL.q (by exact Y605) rfl ?_|refine Y0 ?_)
   refine Y245 ?_
   refine Y221 ?_
   have cp:∀ w',aa w [] (⟨b3,Row 29 [y.f.v,y.s.v],true⟩::((y.s.an++y.f.an)++[])) w'->Calls Tryz.prog 14 [.agg #[y.f.v,y.s.v]].toArray w' fun e w2=>∃ x:{ x:kG // x.en=Oj (wZ gv.Qd f' b') },e=.returned (.tuple #[.agg x.1.cs.toArray,N (dG (wZ gv.Qd f' b'))])/\Ext w' w2/\x.1.ok w2:=fun w' hw'=>by
    have h1:aa w [] (y.s.an++(y.f.an++[])) w':=by
     rw[<- List.append_assoc]
     exact Y299
    have:=yX y.f y.s w' (hE.holds hw') (hR.holds hw') (gm.bU (Sl.aa.weak h1 (aS _ (aj.refl _))) y.nf) (ay.bU h1 y.ns) (fun p hp=>by rw[hyf] at hp;have:=lp p hp;omega) (by rw[hyf];omega) (by rw[hys];omega) (fun p hp=>by rw[hyf] at hp;have:=lp p hp;omega)
    rw[hyf,hys] at this
    exact this
   refine JL.Bi (vs:=[.agg #[y.f.v,y.s.v]]) (S':=[]) (ι:={ x:kG // x.en=Oj (wZ gv.Qd f' b') }) (fun x=>.tuple #[.agg x.1.cs.toArray,N (dG (wZ gv.Qd f' b'))]) (fun _ _=>True) [] wP rfl rfl (fun w' hw'=>(cp w' hw').mono fun e w2 ⟨x,h1,h2,_⟩=>⟨x,h1,h2,trivial⟩) (.nil _) nofun ?_
   rintro⟨x,hx⟩ w1 hw1 _
   have hx1:Ext w w1:=hw1.aH
   clear hw1 cp cl
   dsimp only
   have hne2:=fun k=>QY (f:=f') (b:=b') (k:=k)
   have hpl:x.pl=(Oj (wZ gv.Qd f' b')).pl:=congrArg jo.pl hx
   clear hx
   generalize wZ gv.Qd f' b'=V at hpl hne2⊢
   refine Y285 ?_
   refine JL.alloc Q7 rfl fun b5 _=>?_
   refine JL.ax (cs:=x.cs) oX rfl rfl rfl rfl .here rfl ?_
   cases V with
   | error k=>
     have hk0:=hne2 k rfl
     have g1:decide (((dG (.error k:Except Nat jo):Nat):Int)=0)=false:=decide_eq_false (by show ¬ (k:Int)=0;omega)
     repeat(first|refine JL.q (by(apply OQ.ep (a:=((dG (.error k:Except Nat jo):Nat):Int)) (b:=0);rfl;rfl;exact g1)) rfl ?_|refine JL.aM rfl rfl rfl rfl ?_|refine Y170 ?_)
     refine Y247 ?_
     skip
     exact Y318
   | ok v=>
     have hpl:x.pl=v.pl:=hpl
     have g1:decide (((dG (.ok v:Except Nat jo):Nat):Int)=0)=true:=rfl
     have hs:Om (.ok v)=!x.pl:=by rw[hpl];rfl
     rw[hs]
     repeat(first|refine JL.q (by first|(apply OQ.ep (a:=((dG (.ok v:Except Nat jo):Nat):Int)) (b:=0);rfl;rfl;exact g1)|(apply OQ.load;exact BL;rfl;exact .here;exact(Row.cell (v:=.bool x.pl) rfl))|exact Y329|exact Y330|exact Y323|exact Y324|exact Y377) rfl ?_|refine JC.seq ?_|refine JC.region ?_|refine JL.nil ?_|refine JE.next ?_|refine JL.bG rfl rfl ?_)
     refine Y247 ?_
     skip
     exact Y318
end
end Go.Proofs.YtdabhneehconeaaGreatDoor
