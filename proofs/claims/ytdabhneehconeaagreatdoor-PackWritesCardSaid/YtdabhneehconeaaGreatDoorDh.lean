/-
  Of no statement by itself: the texts MibG, MibT, MibH, TkH, TokL, TkI, MibU, MibV, Slja, MimE, MibW, MimO, MibX, PkC, MibY, PkD in one.
  Conditions: each theorem's own.
-/
import Derived.Test.YtdabhneehconeaaGreatDoorDg
set_option linter.unusedSimpArgs false
set_option linter.unusedVariables false
set_option maxRecDepth 10000
set_option maxHeartbeats 64000000
open Go.Proofs.YtdabhneehconeaaGreatDoor.YY
namespace Go.Proofs.YtdabhneehconeaaGreatDoor
section
open Sl aq gZ Tok
theorem Cu:aJ Tryz.prog 102:=⟨_,Tryz.func102,rfl,by kernel_rfl⟩
theorem wF:aJ Tryz.prog 59:=⟨_,Tryz.func59,rfl,by kernel_rfl⟩
def nG{α:Type}:Except Nat α->Nat
 | .ok _=>0
 | .error k=>k
structure PL (d:Nat) (r:Except Nat (List Part)) where
 q:Acc
 bK:List (List Value)
 Ms:List (List aL)
 hq:q=none->bK=[]
 is:∀ L,r=.ok L->bK.length=L.length/\Ms.length=L.length/\∀ i,i<bK.length->kI d (L.getD i default) (bK.getD i []) (Ms.getD i [])
 wr:∀ M∈Ms,∀ e∈M,e.wr=true
def PL.v{d:Nat}{r:Except Nat (List Part)}(z:PL d r):Value:=aD z.q z.bK.length
def PL.an{d:Nat}{r:Except Nat (List Part)}(z:PL d r):List aL:=mJ 59 5 z.q z.bK++z.Ms.flatten
theorem PL.Sz{d:Nat}{r:Except Nat (List Part)}(z:PL d r):∀ e∈z.an,e.wr=true:=fun e he=>by
 rcases List.mem_append.1 he with h|h
 · exact F1 _ _ _ _ e h
 · obtain⟨M,hM,hm⟩:=List.mem_flatten.1 h
   exact z.wr M hM e hm
def PL.err{d e:Nat}:PL d (.error e):=⟨none,[],[],fun _=>rfl,nofun,nofun⟩
theorem Gh:EI Tryz.prog 59 (.agg pz.toArray) 5 96:=by unfold EI;kernel_rfl
def ua(k others:Nat):Prop:=∀ (f:gm) (s:ay) (w:World),fz w->f.ok w->s.ok w->fX f->f.l.length<=1000000->s.l.length<=60000->(∀ p∈f.l,bY p.1 xC=true\/bY p.1 wT=true->p.2.length<=999999)->
 Calls Tryz.prog 59 [.agg #[f.v,s.v],N others].toArray w fun e w'=>∃ x:PA (k+1) (dK gv.Qd k f.l s.l),e=.returned (.tuple #[.agg x.cs.toArray,N (dG (dK gv.Qd k f.l s.l))])/\aa w [] x.M w'
def kn:Nat->Option (List aq.By->Except Nat Part)
 | 0=>none
 | k+1=>some (tf (dK gv.Qd k))
theorem pE(k:Nat):dK gv.Qd k=mD gv.Qd (kn k):=by cases k <;> rfl
theorem Gi:∀ (b:List aq.By) (e:Nat),gv.Qd b=.error e->e≠0:=by
 intro b e h
 unfold gv.Qd at h
 split at h
 · cases h;decide
 · cases h
theorem pF{α:Type}{l:List α}{x d:α}{j:Nat}(h:j<l.length):(l++[x]).getD j d=l.getD j d:=by
 rw[List.getD_eq_getElem?_getD,List.getD_eq_getElem?_getD,List.getElem?_append_left h]
theorem pG{α:Type}{l:List α}{x d:α}:(l++[x]).getD l.length d=x:=by
 rw[List.getD_eq_getElem?_getD,List.getElem?_append_right (Nat.le_refl _),Nat.sub_self]
 rfl
theorem bA(A B C:List aL):(A++(B++C)).Perm (B++(A++C)):=by
 rw[<- List.append_assoc,<- List.append_assoc]
 exact List.Perm.append_right _ List.perm_append_comm
theorem Cv:aJ Tryz.prog 22:=⟨_,Tryz.func22,rfl,by kernel_rfl⟩
structure TG where
 i:Nat
 q:Acc
 bK:List (List Value)
 Ms:List (List aL)
theorem Ez(k others:Nat)(hko:k+others=8)(ih:∀ k',k=k'+1->ua k' (others+1))(s:ay)(bd:List Bt)(w:World)(hE:fz w)(hs:s.ok w)(hl:s.l.length<=60000)(hb:bd.length<9223372036854775808):Calls Tryz.prog 102 [s.v,Z bd,N others].toArray w
  fun e w'=>∃ z:PL k (dS (kn k) s.l bd),e=.returned (.tuple #[z.v,N (nG (dS (kn k) s.l bd))])/\aa w [] z.an w':=by
 refine enter (n:=60) Tryz.func102 rfl rfl rfl (aa.start w []) ?_
 have cb:=fun w'=>vk bd w' Y609
 cases hB:cG bd
 · rw[hB] at cb
   have hP:dS (kn k) s.l bd=.error 3:=by unfold dS;rw[if_pos hB]
   rw[hP]
   repeat(first|refine JL.q (by exact Y451) rfl ?_|refine Y42 ?_)
   refine Y246 ?_
   refine Y3 ?_
   refine Y247 ?_
   refine Y250 ?_
   exact Y297
 rw[hB] at cb
 repeat(first|refine JL.q (by exact Y451) rfl ?_|refine Y42 ?_)
 refine Y245 ?_
 cases k with
 | zero=>
   have hP:dS (kn 0) s.l bd=.error 5:=by unfold dS;rw[if_neg Y742];rfl
   rw[hP]
   have h8:decide ((8:Int)<=(others:Int))=true:=decide_eq_true Y609
   refine Y191 ?_
   refine Y246 ?_
   refine Y3 ?_
   refine Y247 ?_
   refine Y250 ?_
   exact Y297
 | succ k=>
 have ih:=ih k rfl
 have h8:decide ((8:Int)<=(others:Int))=false:=decide_eq_false Y609
 have hP:dS (kn (k+1)) s.l bd=if (de s.l bd).2≠0 then .error (de s.l bd).2 else fc (tf (dK gv.Qd k)) (de s.l bd).1:=by unfold dS;rw[if_neg Y742];rfl
 have hle:=NL (b:=s.l) (bd:=bd)
 have h70:bd.length<=70:=by
  unfold cG at hB
  rw[Bool.and_eq_true,Bool.and_eq_true] at hB
  exact of_decide_eq_true hB.2.2
 have cs:=fun (M:List aL) (w':World) (hw':aa w [] M w')=>vR s bd w' (hs.holds hw' rfl) Y609 Y609
 have hc0:(de s.l bd).2=0\/(de s.l bd).2≠0:=by omega
 have hnl:(de s.l bd).1.length<=100000:=by
  have h0:=lM s.l []
  have h1:=qx (fun x=>aX bd x.1 != 1) (di s.l)
  unfold de
  rw[if_neg Y742]
  cases ho:fD bd ((di s.l).dropWhile fun x=>aX bd x.1 != 1) [] with
  | none=>exact Nat.zero_le _
  | some out=>
    obtain⟨h2,_⟩:=vJ bd _ _ [] out (Nat.le_refl _) ho
    have:(di s.l).length<=s.l.length+1:=h0.2
    have e0:([]:List (List aq.By)).length=0:=rfl
    show out.length<=_
    omega
 generalize (de s.l bd).1=ys at cs hle hP hnl
 generalize (de s.l bd).2=kc at cs hP hc0
 rw[hP]
 clear hP hB cb
 refine Y191 ?_
 refine Y245 ?_
 refine Y94 ?_
 refine JL.bD (ι:=IX ys) (vs:=[s.v,Z bd]) (fun z=>.tuple #[z.v,N kc]) (fun z=>z.an) qy rfl rfl (fun z=>z.wr) (cs _) ?_
 intro sp
 rcases hc0 with rfl|hk0
 rotate_left
 · have hne:decide ((kc:Int)=0)=false:=decide_eq_false Y609
   rw[if_pos hk0]
   repeat(first|refine JL.q Y743 rfl ?_|refine Y6 ?_)
   refine Y246 ?_
   refine Y24 ?_
   refine Y247 ?_
   refine Y250 ?_
   exact Y297
 rw[if_neg Y610]
 have h00:decide (((0:Nat):Int)=0)=true:=rfl
 refine Y192 ?_
 refine Y245 ?_
 have hrl:sp.rs.length=ys.length:=by rw[<- List.length_map (f:=ay.l),sp.hrs]
 have hmv:(sp.rs.map ay.v).length=ys.length:=by rw[List.length_map,hrl]
 have hspv:sp.v=aD sp.q ys.length:=by unfold IX.v;rw[hmv]
 have hq0:sp.q=none->ys.length=0:=fun h=>by rw[<- hrl,sp.hq h];rfl
 rw[hspv]
 repeat(first|refine JL.q (by(apply OQ.N7 (q:=sp.q) (k:=ys.length);exact Tryz.underlying93;rfl;exact hq0)) rfl ?_|refine Y93 ?_)
 refine JC.loop (fun z:TG=>[(2,N others),(10,aD z.q z.bK.length),(30,aD sp.q ys.length),(31,N ys.length),(32,N z.i)]) (fun z=>mJ 59 5 z.q z.bK++(z.Ms.flatten++(sp.an++[]))) (fun z=>ys.length-z.i)
  (fun z=>z.i<=ys.length/\(z.q=none->z.bK=[])/\(∀ M∈z.Ms,∀ e∈M,e.wr=true)/\∃ L,fc (tf (dK gv.Qd k)) (ys.take z.i)=.ok L/\z.i=L.length/\z.bK.length=L.length/\z.Ms.length=L.length/\∀ j,j<z.bK.length->kI (k+1) (L.getD j default) (z.bK.getD j []) (z.Ms.getD j [])) ⟨0,none,[],[]⟩
  ⟨Nat.zero_le _,fun _=>rfl,nofun,[],rfl,rfl,rfl,rfl,nofun⟩ Y640 (aj.refl _) ?_
 rintro⟨i,q,bK,Ms⟩ ⟨hi,hq,hwr,L,hL,hiL,hsl,hml,hsub⟩
 dsimp only at hi hq hwr hL hiL hsl hml hsub⊢
 refine Y22 ?_
 refine JC.cond rfl (fun h=>?_) (fun h=>?_)
 · have hi':i<ys.length:=of_decide_eq_true h
   clear h
   have hne:sp.q≠none:=fun h=>by have:=hq0 h;omega
   obtain⟨⟨bq,cq⟩,hqs⟩:∃ p,sp.q=some p:=Option.ne_none_iff_exists'.1 hne
   have hlt:i<sp.rs.length:=by omega
   have hxl:(sp.rs.getD i aB).l=ys.getD i []:=by
    have h1:(sp.rs.map ay.l)[i]?=ys[i]?:=by rw[sp.hrs]
    rw[List.getElem?_map,List.getElem?_eq_getElem hlt,List.getElem?_eq_getElem hi'] at h1
    rw[List.getD_eq_getElem?_getD,List.getD_eq_getElem?_getD,List.getElem?_eq_getElem hlt,List.getElem?_eq_getElem hi']
    exact Option.some.inj h1
   have hxm:sp.rs.getD i aB∈sp.rs:=by
    rw[List.getD_eq_getElem?_getD,List.getElem?_eq_getElem hlt]
    exact List.getElem_mem hlt
   have hent:sp.an=⟨bq,Sl.Own 22 1 (sp.rs.map ay.v).length cq (sp.rs.map ay.v),true⟩::bh sp.rs:=by
    unfold IX.an
    rw[hqs]
    rfl
   have hcell:∀ o,Sl.Own 22 1 (sp.rs.map ay.v).length cq (sp.rs.map ay.v) o->cellAt o i=some (sp.rs.getD i aB).v:=fun o ho=>by
    have:=uN (Sl.Own.cells o ho) (k:=i) (dF ay.v aB hlt)
    rwa [Nat.zero_add] at this
   have hOwn:Has (mJ 59 5 q bK++(Ms.flatten++(sp.an++[]))) bq (Sl.Own 22 1 (sp.rs.map ay.v).length cq (sp.rs.map ay.v)) true:=dA _ (dA _ (fj (by rw[hent];exact .here)))
   have okx:∀ w',aa w [] (mJ 59 5 q bK++(Ms.flatten++(sp.an++[]))) w'->(sp.rs.getD i aB).ok w':=fun w' hw'=>by
    have h1:aa w [] sp.an w':=Sl.aa.weak hw' (aS _ (aS _ (yt _)))
    rw[hent] at h1
    exact p8 (A:=[_]) h1 sp.h0 _ hxm
   have hdrop:=drop_at ([]:List aq.By) hi'
   have hyl:ys.getD i []∈ys:=by
    rw[List.getD_eq_getElem?_getD,List.getElem?_eq_getElem hi']
    exact List.getElem_mem hi'
   have hx2:=hle _ hyl
   have htake:ys=ys.take i++ys.getD i []::ys.drop (i+1):=by rw[<- hdrop,List.take_append_drop]
   have htk:ys.take (i+1)=ys.take i++[ys.getD i []]:=by
    rw[List.take_add_one,List.getElem?_eq_getElem hi',List.getD_eq_getElem?_getD,List.getElem?_eq_getElem hi']
    rfl
   have cl:=fun w' hw'=>yB (sp.rs.getD i aB) w' (okx w' hw') Y744
   rw[hxl] at cl
   have hv30:aD sp.q ys.length=.slice (some ⟨bq,0,none⟩) ys.length cq:=by rw[hqs];rfl
   generalize sp.rs.getD i aB=x at hcell cl
   generalize ys.getD i []=m at cl htake htk hx2
   clear okx hxm hxl hyl hdrop hqs hne hlt
   rw[hv30]
   have hRL:qE m=ir m:=rfl
   rw[hRL] at cl
   repeat(first|refine JL.q (by first|(apply OQ.pX (i:=i);exact Tryz.underlying93;exact mH;rfl;rfl;exact hi')|(apply OQ.load;exact xg;rfl;exact hOwn;exact hcell)) rfl ?_|refine Y93 ?_)
   refine JL.bD (ι:=L9 (ir m)) (vs:=[x.v]) (fun y=>.tuple #[.agg #[y.f.v,y.s.v],N (nu (ir m))]) (fun y=>y.s.an++y.f.an) Cv rfl rfl (fun y=>y.wr) cl ?_
   intro y
   refine Y285 ?_
   refine JL.alloc iB rfl fun b13 _=>?_
   refine Y298 ?_
   have hcr:(∃ e,ir m=.error e)\/(∃ q,ir m=.ok q):=by
    cases ir m with
    | error e=>exact .inl ⟨e,rfl⟩
    | ok q=>exact .inr ⟨q,rfl⟩
   rcases hcr with⟨e,hr⟩|⟨⟨f',b'⟩,hr⟩
   · have hk:nu (ir m)=e:=by rw[hr];rfl
     rw[hk]
     have he:=vV hr
     have hM:fc (tf (dK gv.Qd k)) ys=.error e:=by
      rw[htake]
      exact vU hL (by unfold tf;rw[hr])
     have hne:decide ((e:Int)=0)=false:=decide_eq_false Y609
     rw[hM]
     refine Y193 ?_
     refine Y246 ?_
     refine Y24 ?_
     refine Y247 ?_
     refine Y2 ?_
     exact Y297
   · have hk:nu (ir m)=0:=by rw[hr];rfl
     rw[hk]
     obtain⟨lb,lf,lp⟩:=yu hr
     have hyf:y.f.l=f':=by rw[y.hf,hr];rfl
     have hys:y.s.l=b':=by rw[y.hs,hr];rfl
     have h00:decide (((0:Nat):Int)=0)=true:=rfl
     refine Y194 ?_
     refine Y245 ?_
     have hsm:fX y.f:=fun p hp=>by
      rw[hyf] at hp
      have:=lp p hp
      omega
     have cr:∀ w',aa w [] (⟨b13,Row 29 [y.f.v,y.s.v],true⟩::((y.s.an++y.f.an)++(mJ 59 5 q bK++(Ms.flatten++(sp.an++[]))))) w'->Calls Tryz.prog 59 [.agg #[y.f.v,y.s.v],N (others+1)].toArray w' fun e w2=>∃ x:PA (k+1) (dK gv.Qd k f' b'),e=.returned (.tuple #[.agg x.cs.toArray,N (dG (dK gv.Qd k f' b'))])/\aa w' [] x.M w2:=fun w' hw'=>by
      have h1:aa w [] (y.s.an++(y.f.an++(mJ 59 5 q bK++(Ms.flatten++(sp.an++[]))))) w':=by
       rw[<- List.append_assoc]
       exact Y299
      have oks:y.s.ok w':=ay.bU h1 y.ns
      have okf:y.f.ok w':=gm.bU (Sl.aa.weak h1 (aS _ (aj.refl _))) y.nf
      have:=ih y.f y.s w' (hE.holds hw') okf oks hsm (by rw[hyf];omega) (by rw[hys];omega) (fun p hp _=>by rw[hyf] at hp;have:=lp p hp;omega)
      rw[hyf,hys] at this
      exact this
     repeat(first|refine JL.q (by first|(apply OQ.aF (cs:=[y.f.v,y.s.v]);exact c7;exact aZ;rfl;exact .here;rfl;exact Row.all)|exact Y323|exact Y337) rfl ?_|refine JC.seq ?_|refine JC.region ?_|refine JC.skip ?_|refine JE.next ?_)
     refine JL.bD (ι:=PA (k+1) (dK gv.Qd k f' b')) (vs:=[.agg #[y.f.v,y.s.v],N (others+1)]) (fun x=>.tuple #[.agg x.cs.toArray,N (dG (dK gv.Qd k f' b'))]) (fun x=>x.M) wF rfl rfl (fun x=>x.wr) cr ?_
     intro x2
     refine JL.less (M':=x2.M++(mJ 59 5 q bK++(Ms.flatten++(sp.an++[])))) (bI (.drop _ _ _ (aS _ (aj.refl _))) _) ?_
     refine Y285 ?_
     refine JL.alloc (r:=pz) ?_ ?_ fun b15 _=>?_
     exact tr
     rfl
     refine JL.ax (cs:=x2.cs) iE rfl rfl x2.len x2.one .here rfl ?_
     have hcp:(∃ e,dK gv.Qd k f' b'=.error e)\/(∃ p,dK gv.Qd k f' b'=.ok p):=by
      cases dK gv.Qd k f' b' with
      | error e=>exact .inl ⟨e,rfl⟩
      | ok q=>exact .inr ⟨q,rfl⟩
     rcases hcp with⟨e,hp⟩|⟨p,hp⟩
     · have hk2:dG (dK gv.Qd k f' b')=e:=by rw[hp];rfl
       rw[hk2]
       have he:=ny Gi k f' b' e hp
       have hM:fc (tf (dK gv.Qd k)) ys=.error e:=by
        rw[htake]
        exact vU hL (by unfold tf;rw[hr];exact hp)
       have hne:decide ((e:Int)=0)=false:=decide_eq_false Y609
       rw[hM]
       refine Y193 ?_
       refine Y246 ?_
       refine Y24 ?_
       refine Y247 ?_
       refine Y2 ?_
       exact Y297
     · have hk2:dG (dK gv.Qd k f' b')=0:=by rw[hp];rfl
       rw[hk2]
       have hPE:=x2.is p hp
       refine Y194 ?_
       refine Y245 ?_
       repeat(first|refine JL.q (by(apply OQ.aF (cs:=x2.cs);exact gx;exact iE;rfl;exact .here;exact x2.len;exact Row.all)) rfl ?_|refine Y104 ?_)
       refine JL.w4 (cs:=x2.cs) Tryz.underlying57 Gh rfl Y610 Y610 rfl x2.len rfl fun bl _=>?_
       refine JL.less (M':=⟨bl,Row 59 x2.cs,true⟩::(x2.M++(mJ 59 5 q bK++(Ms.flatten++(sp.an++[]))))) (.keep _ _ _ _ _ _ (fun _ h=>h) (.drop _ _ _ (aj.refl _))) ?_
       refine JL.perm (M':=⟨bl,Row 59 x2.cs,true⟩::(mJ 59 5 q bK++(x2.M++(Ms.flatten++(sp.an++[]))))) ?_ (List.Perm.cons _ (bA _ _ _))
       refine JL.F2 (c:=x2.cs) (L:=bK) q Tryz.underlying57 Gh hq rfl rfl x2.len (fun v hv=>List.all_eq_true.1 x2.one v hv) rfl Y610 Y609 Y609 rfl fun b' cap'=>?_
       rw[<- hv30]
       refine Y18 ?_
       refine JE.perm (M':=mJ 59 5 (some (b',cap')) (bK++[x2.cs])++((Ms++[x2.M]).flatten++(sp.an++[]))) (List.Perm.append_left _ ?_) ?_
       · rw[List.flatten_append,List.append_assoc]
         show(x2.M++_).Perm (Ms.flatten++((x2.M++[])++_))
         rw[List.append_nil x2.M]
         exact bA _ _ _
       refine JE.again (i:=TG.mk i q bK Ms) (TG.mk (i+1) (some (b',cap')) (bK++[x2.cs]) (Ms++[x2.M])) ⟨hi',nofun,fun M hM=>?_,L++[p],?_,?_,?_,?_,fun j hj=>?_⟩ (by show ys.length-(i+1)<ys.length-i;omega) Y640 (aj.refl _)
       · rcases List.mem_append.1 hM with h|h
         · exact hwr M h
         · rw[List.mem_singleton.1 h];exact x2.wr
       · show fc _ (ys.take (i+1))=_
         rw[htk]
         exact yw hL (by unfold tf;rw[hr];exact hp)
       · show i+1=_
         rw[List.length_append,List.length_singleton];omega
       · show(bK++[x2.cs]).length=_
         rw[List.length_append,List.length_append,hsl];rfl
       · show(Ms++[x2.M]).length=_
         rw[List.length_append,List.length_append,hml];rfl
       · have hj:j<(bK++[x2.cs]).length:=hj
         rw[List.length_append,List.length_singleton] at hj
         show kI (k+1) ((L++[p]).getD j default) ((bK++[x2.cs]).getD j []) ((Ms++[x2.M]).getD j [])
         by_cases e:j<bK.length
         · rw[pF Y609,pF e,pF Y609]
           exact hsub j e
         · obtain rfl:j=bK.length:=by omega
           rw[pG]
           rw[show(L++[p]).getD bK.length default=p by rw[hsl];exact pG,show(Ms++[x2.M]).getD bK.length []=x2.M by rw[hsl,<- hml];exact pG]
           exact hPE
 · have hi':¬ i<ys.length:=of_decide_eq_false h
   obtain rfl:i=ys.length:=by omega
   rw[List.take_length] at hL
   rw[hL]
   refine Y107 ?_
   refine Y247 ?_
   exact JE.aV rfl (RV.tmp rfl) (RV.tmp rfl) fun w' hw=>⟨⟨q,bK,Ms,hq,fun L' h=>by cases h;exact⟨hsl,hml,hsub⟩,hwr⟩,rfl,hw.weak (bI (bO _ _) _)⟩
end
section
namespace gZ
open aq Tok
theorem N9:∀ (n:Nat) (r:List By) (q:Bool) (x:List By),r.length<=n->∀ y∈dL r q x,y.length<=r.length+x.length:=by
 intro n
 induction n with
 | zero=>
   intro r q x hr y hy
   obtain rfl:r=[]:=List.eq_nil_of_length_eq_zero Y609
   rw[Ag] at hy
   rw[List.mem_singleton.1 hy]
   omega
 | succ n ih=>
   intro r q x hr y hy
   cases r with
   | nil=>
     rw[Ag] at hy
     rw[List.mem_singleton.1 hy]
     omega
   | cons c r=>
     simp only[List.length_cons] at hr
     by_cases h:q=true/\c=92
     · obtain⟨rfl,rfl⟩:=h
       cases r with
       | nil=>
         rw[B6] at hy
         rw[List.mem_singleton.1 hy]
         simp
         omega
       | cons c2 r=>
         rw[F3] at hy
         have:=ih r true _ (by simp only[List.length_cons] at hr;omega) y hy
         simp only[List.length_append,List.length_cons,List.length_nil] at this⊢
         omega
     · rw[yy c r q x h] at hy
       split at hy
       · have:=ih r _ _ Y609 y hy
         simp only[List.length_append,List.length_cons,List.length_nil] at this⊢
         omega
       · split at hy
         · rcases List.mem_cons.1 hy with rfl|hy
           · simp only[List.length_cons];omega
           · have:=ih r _ _ Y609 y hy
             simp only[List.length_nil,List.length_cons] at this⊢
             omega
         · have:=ih r _ _ Y609 y hy
           simp only[List.length_append,List.length_cons,List.length_nil] at this⊢
           omega
theorem Oa:∀ (n:Nat) (r o:List By),r.length<=n->(gV r o).1.length<=r.length+o.length:=by
 intro n
 induction n with
 | zero=>
   intro r o h
   obtain rfl:r=[]:=List.eq_nil_of_length_eq_zero Y609
   rw[gV.eq_def]
   simp
 | succ n ih=>
   intro r o h
   cases r with
   | nil=>rw[gV.eq_def];simp
   | cons c r=>
     simp only[List.length_cons] at h
     rw[gV.eq_def]
     dsimp only
     split
     · simp only[List.length_cons];omega
     · split
       · cases r with
         | nil=>simp only[List.length_cons];omega
         | cons c2 r=>
           have:=ih r (o++[c2]) Y623
           simp only[List.length_append,List.length_cons,List.length_nil] at this⊢
           omega
       · have:=ih r (o++[c]) Y609
         simp only[List.length_append,List.length_cons,List.length_nil] at this⊢
         omega
theorem wG{s:List By}{p:fP}(h:gz s=some p):p.2.length<=s.length:=by
 have h1:=Bh (s.drop (fst 61 s+1))
 rw[List.length_drop] at h1
 unfold gz at h
 split at h
 · cases h
 · split at h
   · cases h
   · split at h
     · cases h
       show(trim _).length<=_
       omega
     · split at h
       · cases h
       · split at h
         · cases h
           have:=Oa _ (trim (s.drop (fst 61 s+1))).tail [] (Nat.le_refl _)
           rw[List.length_tail] at this
           simp only[List.length_nil] at this
           show(gV _ _).1.length<=_
           omega
         · cases h
theorem LB{l:List (List By)}{r:List fP}(h:l.mapM gz=some r):r.length=l.length/\∀ p∈r,∃ s∈l,gz s=some p:=by
 induction l generalizing r with
 | nil=>cases h;exact⟨rfl,nofun⟩
 | cons s l ih=>
   rw[List.mapM_cons] at h
   cases e1:gz s with
   | none=>rw[e1] at h;cases h
   | some p=>
     rw[e1] at h
     cases e2:l.mapM gz with
     | none=>rw[e2] at h;cases h
     | some r'=>
       rw[e2] at h
       cases h
       obtain⟨h1,h2⟩:=ih e2
       refine⟨by simp[h1],fun q hq=>?_⟩
       rcases List.mem_cons.1 hq with rfl|hq
       · exact⟨s,by simp,e1⟩
       · obtain⟨t,ht,e⟩:=h2 q hq
         exact⟨t,by simp[ht],e⟩
theorem EA(v:List By):(eo v).2.1.length<=v.length+1/\∀ p∈(eo v).2.1,p.2.length<=v.length:=by
 have hb:=kV v
 unfold eo
 split
 · unfold nP
   split
   · exact⟨Nat.zero_le _,nofun⟩
   · have h1:=KV _ (dW v).1 false [] (Nat.le_refl _)
     have h2:=N9 _ (dW v).1 false [] (Nat.le_refl _)
     split
     · exact⟨Nat.zero_le _,nofun⟩
     · next l hl=>
       obtain⟨k1,k2⟩:=LB hl
       have e:(pN (dW v).1).length<=(dW v).1.length+1:=h1
       rw[List.length_tail] at k1
       refine⟨by show l.length<=_;omega,fun p hp=>?_⟩
       obtain⟨s,hs,e⟩:=k2 p hp
       have:=wG e
       have:=h2 s (List.mem_of_mem_tail hs)
       simp only[List.length_nil] at this
       omega
 · exact⟨Nat.zero_le _,nofun⟩
theorem uc{l:List fP}{m:Nat}(h:∀ p∈l,p.2.length<=m)(n:List By):(cJ l n).length<=m:=by
 unfold cJ
 cases e:l.find? fun p=>decide (p.1=n) with
 | none=>exact Nat.zero_le _
 | some p=>exact h p (List.mem_of_find?_eq_some e)
theorem Gj{f:List fP}{m:Nat}(h:∀ p∈f,bY p.1 xC=true->p.2.length<=m):(e7 f).2.1.length<=m+1/\(cJ (e7 f).2.1 fF).length<=m:=by
 have hA:∀ v∈dP xC f,v.length<=m:=fun v hv=>by
  unfold dP at hv
  obtain⟨p,hp,rfl⟩:=List.mem_map.1 hv
  obtain⟨h1,h2⟩:=List.mem_filter.1 hp
  exact h p h1 h2
 unfold e7
 cases e:dP xC f with
 | nil=>exact⟨Nat.zero_le _,Nat.zero_le _⟩
 | cons v l=>
   have hv:=hA v (by rw[e];exact List.mem_cons_self)
   obtain⟨h1,h2⟩:=EA v
   exact⟨by show(eo v).2.1.length<=_;omega,uc (fun p hp=>Nat.le_trans (h2 p hp) hv) fF⟩
end gZ
end
section
open Sl aq gZ Tok
theorem jt:gD Tryz.prog 57=true:=by kernel_rfl
theorem TH:gX Tryz.prog 57=some 1:=by kernel_rfl
def LC:List aL:=[⟨0,fun _=>False,true⟩]
theorem kI.bad{d:Nat}{p:Part}:kI d p pz LC where
 len:=rfl
 one:=rfl
 wr:=fun e he=>by rw[List.mem_singleton.1 he]
 is:=fun w0 S w' hw=>by
  obtain⟨o,_,hA⟩:=hw.get (b:=0) (A:=fun _=>False) (wr:=true) .here
  exact hA.elim
instance {d:Nat} {r:Except Nat (List Part)}:Inhabited (PL d r):=⟨⟨some (0,0),(match r with|.ok L=>L|.error _=>[]).map fun _=>pz,(match r with|.ok L=>L|.error _=>[]).map fun _=>LC,nofun,fun L h=>by
 subst h
 refine⟨by simp,by simp,fun i hi=>?_⟩
 have hi:i<L.length:=by simpa using hi
 have e1:(L.map fun _=>pz).getD i []=pz:=by rw[List.getD_eq_getElem?_getD,List.getElem?_map,List.getElem?_eq_getElem hi];rfl
 have e2:(L.map fun _=>LC).getD i []=LC:=by rw[List.getD_eq_getElem?_getD,List.getElem?_map,List.getElem?_eq_getElem hi];rfl
 show kI d _ ((L.map fun _=>pz).getD i []) ((L.map fun _=>LC).getD i [])
 rw[e1,e2]
 exact kI.bad,fun M hM e he=>by
 obtain⟨_,_,rfl⟩:=List.mem_map.1 hM
 rw[List.mem_singleton.1 he]⟩⟩
theorem yN(k others:Nat)(hko:k+others=8)(ih:∀ k',k=k'+1->ua k' (others+1)):ua k others:=by
 intro f s w hE hf hs hz hl hb hv
 have hvt:∀ p∈f.l,bY p.1 xC=true->p.2.length<=999999:=fun p hp h=>hv p hp (.inl h)
 have hve:∀ p∈f.l,bY p.1 wT=true->p.2.length<=999999:=fun p hp h=>hv p hp (.inr h)
 obtain⟨tl1,tl2⟩:=Gj hvt
 have hne:=fun e=>ny Gi k f.l s.l e
 rw[pE,qA] at hne
 rw[pE,qA]
 have cb:=fun (M:List aL) (w':World) (hw':aa w [] M w')=>Io f s w' (hf.holds hw' rfl) hz hl hvt
 have cy:=fun (M:List aL) (w':World) (hw':aa w [] M w')=>Iq f s w' (hE.holds hw') (hf.holds hw' rfl) (hs.holds hw' rfl) hz hl hb hve
 refine enter (n:=42) Tryz.func59 rfl rfl rfl (aa.start w []) ?_
 refine JC.seq (JC.region (JL.box (r:=[f.v,s.v]) rfl rfl rfl fun b2 _=>?_))
 refine JL.alloc (r:=pz) ?_ ?_ fun b4 _=>?_
 exact tr
 rfl
 refine Y195 ?_
 refine JL.bD (ι:=G2 (e7 f.l).2.1) (vs:=[.agg #[f.v,s.v]]) (fun y=>.tuple #[.agg ([Z (e7 f.l).1,y.z.v,.int .i64 0,aB.v,.slice none 0 0]:List Value).toArray,N (e7 f.l).2.2]) (fun y=>y.z.an) Eu rfl rfl (fun y=>y.z.bH) (cb _) ?_
 intro y
 have hyl:=y.h
 have hyn:y.z.l.length<9223372036854775807:=by rw[hyl];omega
 generalize e7 f.l=T at *
 refine JL.perm (M':=[⟨b4,Row 59 pz,true⟩,⟨b2,Row 29 [f.v,s.v],true⟩]++y.z.an) ?_ List.perm_append_comm
 refine Y285 ?_
 refine JL.alloc (r:=pz) ?_ ?_ fun b6 _=>?_
 exact tr
 rfl
 refine JL.ax (cs:=[Z T.1,y.z.v,.int .i64 0,aB.v,.slice none 0 0]) iE rfl rfl rfl rfl .here rfl ?_
 by_cases hk:T.2.2≠0
 · rw[if_pos hk]
   have h0:decide ((T.2.2:Int)=0)=false:=decide_eq_false Y609
   repeat(first|refine JL.q (by exact Y519) rfl ?_|refine Y0 ?_)
   refine Y246 ?_
   refine JC.seq (JC.region (JL.q OQ.wg rfl ?_))
   refine JL.q (OQ.move rfl) rfl ?_
   refine Y300 ?_
   refine Y39 ?_
   refine Y247 ?_
   refine Y250 ?_
   exact Y301
 have hk0:T.2.2=0:=by omega
 have h0:decide ((T.2.2:Int)=0)=true:=decide_eq_true Y609
 rw[if_neg hk] at hne⊢
 have ch:=fun w'=>BK T.1 y.z.v (.int .i64 0) aB.v (.slice none 0 0) rfl w'
 repeat(first|refine JL.q (by exact Y519) rfl ?_|refine Y0 ?_)
 refine Y245 ?_
 cases hm:fo T.1
 · rw[hm] at ch
   rw[hm,if_neg Y610] at hne
   rw[if_neg Y610]
   repeat(first|refine JL.q (by first|exact Y520|exact Y521) rfl ?_|refine Y196 ?_)
   refine Y245 ?_
   repeat(first|refine JL.q (by exact Y522) rfl ?_|refine JC.region ?_)
   refine JL.bD (ι:=RB f.l s.l) (vs:=[.agg #[f.v,s.v]]) (fun r=>.tuple #[.int .i64 r.c,r.x.v,N r.k]) (fun r=>r.x.an) Ev rfl rfl (fun r=>r.x.bH) (cy _) ?_
   intro r
   refine JL.perm (M':=[⟨b6,Row 59 [Z T.1,y.z.v,.int .i64 0,aB.v,.slice none 0 0],true⟩,⟨b4,Row 59 pz,true⟩,⟨b2,Row 29 [f.v,s.v],true⟩]++(r.x.an++y.z.an)) ?_ (bA _ [_,_,_] _)
   refine Y302 ?_
   refine JL.aP (v:=.int .i64 r.c) (r':=[Z T.1,y.z.v,.int .i64 r.c,aB.v,.slice none 0 0]) FZ rfl rfl rfl rfl .here Y614 rfl ?_
   refine Y303 ?_
   refine JL.aP (v:=r.x.v) (r':=[Z T.1,y.z.v,.int .i64 r.c,r.x.v,.slice none 0 0]) mH rfl rfl rfl rfl .here Y614 rfl ?_
   have hri:=r.is
   by_cases hrk:r.k=0
   · obtain⟨c',hcc,yb,hyb,hc1,hx1⟩:∃ c',kL (xD f.l)=some c'/\∃ yb,jY gv.Qd c' s.l=.ok yb/\r.c=c'/\r.x.l=yb:=by
      cases hC:kL (xD f.l) with
      | none=>rw[hC] at hri;have:r.k=3:=hri;omega
      | some c'=>
        rw[hC] at hri
        dsimp only at hri
        cases hb2:jY gv.Qd c' s.l with
        | error e=>rw[hb2] at hri;exact absurd (hri.1▸hrk) hri.2
        | ok yb=>rw[hb2] at hri;exact⟨c',rfl,yb,hb2,hri.2.1,hri.2.2⟩
     have hsp:sV gv.Qd (kL (xD f.l)) s.l T.1 T.2.1=.ok (.mk T.1 T.2.1 c' yb []):=by
      unfold sV
      rw[hcc]
      dsimp only
      rw[hyb]
     rw[hsp]
     have hk0':decide ((r.k:Int)=0)=true:=decide_eq_true Y609
     repeat(first|refine JL.q (by exact Y523) rfl ?_|refine Y0 ?_)
     refine Y245 ?_
     repeat(first|refine JL.q (by(apply OQ.aF (cs:=[Z T.1,y.z.v,.int .i64 r.c,r.x.v,.slice none 0 0]);exact gx;exact iE;rfl;exact .here;rfl;exact Row.all)) rfl ?_|refine Y197 ?_)
     refine JL.ax (cs:=[Z T.1,y.z.v,.int .i64 r.c,r.x.v,.slice none 0 0]) iE rfl rfl rfl rfl (.there .here) rfl ?_
     refine Y39 ?_
     refine Y247 ?_
     refine JE.aV rfl (RV.aT gx iE rfl (.there .here) rfl Row.all) (RV.tmp rfl) fun w' hw=>?_
     have hPE:=D3 (k:=T.1) (ps:=y.z) (c:=r.c) (x:=r.x) y.n r.nn
     rw[hyl,hc1,hx1] at hPE
     refine⟨⟨[Z T.1,y.z.v,.int .i64 c',r.x.v,.slice none 0 0],r.x.an++y.z.an,rfl,rfl,hPE.wr,fun p hp=>by cases hp;exact⟨rfl,rfl,hPE.wr,fun w0 S w' hw'=>(hPE.is w0 S w' hw').mono Y609⟩⟩,by rw[hc1];rfl,hw.weak (.drop _ _ _ (.drop _ _ _ (.drop _ _ _ (aj.refl _))))⟩
   · have hsp:sV gv.Qd (kL (xD f.l)) s.l T.1 T.2.1=.error r.k:=by
      unfold sV
      cases hC:kL (xD f.l) with
      | none=>rw[hC] at hri;have:r.k=3:=hri;rw[this]
      | some c'=>
        rw[hC] at hri
        dsimp only at hri⊢
        cases hb2:jY gv.Qd c' s.l with
        | error e=>rw[hb2] at hri;rw[hri.1]
        | ok yb=>rw[hb2] at hri;exact absurd hri.1 hrk
     rw[hsp]
     have hk0':decide ((r.k:Int)=0)=false:=decide_eq_false Y609
     repeat(first|refine JL.q (by exact Y523) rfl ?_|refine Y0 ?_)
     refine Y246 ?_
     refine JC.seq (JC.region (JL.q OQ.wg rfl ?_))
     refine JL.q (OQ.move rfl) rfl ?_
     refine Y300 ?_
     refine Y39 ?_
     refine Y247 ?_
     refine Y250 ?_
     exact Y301
 · rw[hm] at ch
   rw[hm,if_pos rfl] at hne
   rw[if_pos rfl]
   repeat(first|refine JL.q (by first|exact Y520|exact Y521) rfl ?_|refine Y196 ?_)
   refine Y246 ?_
   have cp:=fun (M:List aL) (w':World) (hw':aa w [] M w')=>Ez k others hko ih s (cJ T.2.1 fF) w' (hE.holds hw') (hs.holds hw' rfl) hb Y609
   have co:=fun (w':World) (hw':y.z.ok w')=>FD T.1 y.z (.int .i64 0) aB.v (.slice none 0 0) w' hw' hyn
   rw[hyl] at co
   refine JC.perm (M':=⟨b2,Row 29 [f.v,s.v],true⟩::(⟨b6,Row 59 [Z T.1,y.z.v,.int .i64 0,aB.v,.slice none 0 0],true⟩::⟨b4,Row 59 pz,true⟩::y.z.an)) ?_ (List.perm_middle (l₁:=[_,_]))
   let vs:Nat->PL k (dS (kn k) s.l (cJ T.2.1 fF))->Value:=fun j z=>match j with
    | 0=>Pt b2 1
    | 1=>s.v
    | 2=>.agg ([Z T.1,y.z.v,.int .i64 0,aB.v,.slice none 0 0]:List Value).toArray
    | 3=>Z (cJ T.2.1 fF)
    | 4=>N others
    | 5=>.tuple #[z.v,N (nG (dS (kn k) s.l (cJ T.2.1 fF)))]
    | 6=>.tuple #[z.v,N (nG (dS (kn k) s.l (cJ T.2.1 fF)))]
    | 7=>z.v
    | 8=>N (nG (dS (kn k) s.l (cJ T.2.1 fF)))
    | 9=>Pt b6 4
    | _=>N (nG (dS (kn k) s.l (cJ T.2.1 fF)))
   let Ms:Nat->PL k (dS (kn k) s.l (cJ T.2.1 fF))->List aL:=fun j z=>match j with
    | 5=>z.an
    | 10=>[⟨b6,Row 59 [Z T.1,y.z.v,.int .i64 0,aB.v,z.v],true⟩]
    | 12=>[⟨b2,Row 29 [f.v,s.v],true⟩]
    | 13=>[⟨b6,Row 59 [Z T.1,y.z.v,.int .i64 0,aB.v,.slice none 0 0],true⟩]
    | 14=>⟨b4,Row 59 pz,true⟩::y.z.an
    | _=>[]
   refine JC.nt (g:=⟨[(2,Pt b2 0),(4,Pt b4 0),(6,Pt b6 0),(1,N others)],15,vs,Ms,(fun j=>match j with|1=>[(0,20)]|3=>[(2,22)]|5=>[(1,21),(3,23),(4,24)]|6=>[(5,25)]|7=>[(6,19)]|8=>[(6,19)]|10=>[(9,28),(7,26)]|11=>[(8,27)]|_=>[]),(fun j=>match j with|1=>[12]|2=>[13]|3=>[14]|10=>[13]|_=>[]),(fun j=>match j with|10=>[13]|_=>[]),(fun j=>match j with|6=>some 5|7=>some 6|10=>some 7|_=>none),fun _=>[],fun _ a b=>a=b⟩) [(11,7)] [10,14,12,5] FY Y640 (fun _ _=>.nil) (kH (by show _::_::((_::y.z.an)++[])=_;rw[List.append_nil])) Y636 Y636 Y636 ?_ ?_
   · refine⟨?_,?_,?_,?_,?_,?_,?_,?_,?_,?_,?_,?_,trivial⟩
     · (intro x EF MF Q kk;exact JL.q (OQ.ov (o:=1) rfl rfl rfl Y610 rfl rfl) rfl (JL.nil (kk default nofun)))
     · (intro x EF MF Q kk;exact JL.q (OQ.load lO rfl .here (Row.cell (v:=s.v) rfl)) rfl (JL.nil (kk default nofun)))
     · (intro x EF MF Q kk;exact JL.q (OQ.aF (cs:=[Z T.1,y.z.v,.int .i64 0,aB.v,.slice none 0 0]) gx iE rfl .here rfl Row.all) rfl (JL.nil (kk default nofun)))
     · (intro x EF MF Q kk;exact JL.q (OQ.ai (vs:=[.agg #[Z T.1,y.z.v,.int .i64 0,aB.v,.slice none 0 0]]) lJ rfl (fun w' hw'=>co w' (gm.bU (M:=[]++MF) (by
         have h1:aa w [] (((⟨b4,Row 59 pz,true⟩::y.z.an)++[])++MF) w':=hw'
         rw[List.append_assoc] at h1
         exact Sl.aa.weak h1 (.drop _ _ _ (aj.refl _))) y.n))) rfl (JL.nil (kk default nofun)))
     · (intro x EF MF Q kk;exact JL.q (OQ.move rfl) rfl (JL.nil (kk default nofun)))
     · (intro x EF MF Q kk;exact JL.bD (ι:=PL k (dS (kn k) s.l (cJ T.2.1 fF))) (vs:=[s.v,Z (cJ T.2.1 fF),N others]) (fun z=>.tuple #[z.v,N (nG (dS (kn k) s.l (cJ T.2.1 fF)))]) (fun z=>z.an) Cu rfl rfl (fun z=>z.Sz) (cp _) fun z=>JL.nil (kk z nofun))
     · (intro x EF MF Q kk;exact JL.q (OQ.move rfl) rfl (JL.nil (kk (x 5) (fun k h=>by cases h;rfl))))
     · (intro x EF MF Q kk;exact JL.q (OQ.extract rfl rfl) rfl (JL.nil (kk (x 6) (fun k h=>by cases h;rfl))))
     · (intro x EF MF Q kk;exact JL.q (OQ.extract rfl rfl) rfl (JL.nil (kk default nofun)))
     · (intro x EF MF Q kk;exact JL.q (OQ.ov (o:=4) rfl rfl rfl Y610 rfl rfl) rfl (JL.nil (kk default nofun)))
     · (intro x EF MF Q kk;exact JL.aP (v:=(x 7).v) (r':=[Z T.1,y.z.v,.int .i64 0,aB.v,(x 7).v]) TH rfl rfl (iI _ _) (fZ _ _) .here Y614 rfl (JL.nil (kk (x 7) (fun k h=>by cases h;rfl))))
     · (intro x EF MF Q kk;exact JL.q (OQ.assign rfl) rfl (JL.nil (kk default nofun)))
   intro x hx
   have z6:x 6=x 5:=hx 6 5 Y610 rfl
   have z7:x 7=x 6:=hx 7 6 Y610 rfl
   have z10:x 10=x 7:=hx 10 7 Y610 rfl
   have hz10:x 10=x 5:=z10.trans (z7.trans z6)
   show JE _ _ _ _ _ [(7,N (nG (dS (kn k) s.l (cJ T.2.1 fF)))),(2,Pt b2 0),(4,Pt b4 0),(6,Pt b6 0),(1,N others)] ([⟨b6,Row 59 [Z T.1,y.z.v,.int .i64 0,aB.v,(x 10).v],true⟩]++((⟨b4,Row 59 pz,true⟩::y.z.an)++([⟨b2,Row 29 [f.v,s.v],true⟩]++((x 5).an++[]))))
   rw[hz10]
   clear hz10 z10 z7 z6 hx
   generalize x 5=z
   clear x vs Ms cp co
   refine JE.perm (M':=⟨b6,Row 59 [Z T.1,y.z.v,.int .i64 0,aB.v,z.v],true⟩::⟨b4,Row 59 pz,true⟩::⟨b2,Row 29 [f.v,s.v],true⟩::(y.z.an++(z.an++[]))) (.cons _ (.cons _ List.perm_middle)) ?_
   refine JE.next ?_
   have hcp:(∃ e,dS (kn k) s.l (cJ T.2.1 fF)=.error e)\/(∃ L,dS (kn k) s.l (cJ T.2.1 fF)=.ok L):=by
    cases dS (kn k) s.l (cJ T.2.1 fF) with
    | error e=>exact .inl ⟨e,rfl⟩
    | ok L=>exact .inr ⟨L,rfl⟩
   rcases hcp with⟨e,hp⟩|⟨L,hp⟩
   · have hcl:nG (dS (kn k) s.l (cJ T.2.1 fF))=e:=by rw[hp];rfl
     rw[hcl]
     rw[hp] at hne
     have he:=hne e rfl
     have hsp:vS (dS (kn k) s.l (cJ T.2.1 fF)) T.1 T.2.1=.error e:=by rw[hp];rfl
     rw[hsp]
     have hk0':decide ((e:Int)=0)=false:=decide_eq_false Y609
     repeat(first|refine JL.q (by(apply OQ.fh (a:=(e:Int)) (b:=0);rfl;rfl;exact hk0')) rfl ?_|refine Y36 ?_)
     refine Y246 ?_
     refine JC.seq (JC.region (JL.q OQ.wg rfl ?_))
     refine JL.q (OQ.move rfl) rfl ?_
     refine Y300 ?_
     refine Y39 ?_
     refine Y247 ?_
     refine Y250 ?_
     exact Y301
   · have hcl:nG (dS (kn k) s.l (cJ T.2.1 fF))=0:=by rw[hp];rfl
     rw[hcl]
     obtain⟨i1,i2,i3⟩:=z.is L hp
     have hzv:z.v=aD z.q L.length:=by unfold PL.v;rw[i1]
     have hsp:vS (dS (kn k) s.l (cJ T.2.1 fF)) T.1 T.2.1=.ok (.mk T.1 T.2.1 0 [] L):=by rw[hp];rfl
     rw[hsp]
     have h00:decide (((0:Nat):Int)=0)=true:=rfl
     rw[hzv]
     repeat(first|refine JL.q (by exact Y524) rfl ?_|refine Y36 ?_)
     refine Y245 ?_
     repeat(first|refine JL.q (by(apply OQ.aF (cs:=[Z T.1,y.z.v,.int .i64 0,aB.v,aD z.q L.length]);exact gx;exact iE;rfl;exact .here;rfl;exact Row.all)) rfl ?_|refine Y197 ?_)
     have hPE:=D5 (d:=k) (k:=T.1) (ps:=y.z) (L:=L) (bK:=z.bK) (Ms:=z.Ms) (q:=z.q) y.n z.hq i1 i2 i3
     rw[hyl] at hPE
     refine JL.ax (cs:=[Z T.1,y.z.v,.int .i64 0,aB.v,aD z.q L.length]) iE rfl rfl rfl hPE.one (.there .here) rfl ?_
     refine Y39 ?_
     refine Y247 ?_
     refine JE.aV rfl (RV.aT gx iE rfl (.there .here) rfl Row.all) (RV.tmp rfl) fun w' hw=>?_
     refine⟨⟨[Z T.1,y.z.v,.int .i64 0,aB.v,aD z.q L.length],mJ 59 5 z.q z.bK++(y.z.an++z.Ms.flatten),rfl,hPE.one,hPE.wr,fun p hp=>by cases hp;exact hPE⟩,rfl,?_⟩
     have h1:aa w [] (y.z.an++(z.an++[])) w':=hw.weak (.drop _ _ _ (.drop _ _ _ (.drop _ _ _ (aj.refl _))))
     rw[List.append_nil] at h1
     exact h1.perm (bA _ _ _)
theorem Iu:∀ (k others:Nat),k+others=8->ua k others:=by
 intro k
 induction k with
 | zero=>exact fun others h=>yN 0 others h nofun
 | succ k ih=>exact fun others h=>yN (k+1) others h fun k' e=>by cases e;exact ih (others+1) Y609
theorem EB(f:gm)(s:ay)(w:World)(hE:fz w)(hf:f.ok w)(hs:s.ok w)(hz:fX f)(hl:f.l.length<=1000000)(hb:s.l.length<=60000)(hv:∀ p∈f.l,bY p.1 xC=true\/bY p.1 wT=true->p.2.length<=999999):Calls Tryz.prog 31 [.agg #[f.v,s.v]].toArray w
  fun e w'=>∃ x:PA 9 (dK gv.Qd 8 f.l s.l),e=.returned (.tuple #[.agg x.cs.toArray,N (dG (dK gv.Qd 8 f.l s.l))])/\aa w [] x.M w':=by
 refine enter (n:=8) Tryz.func31 rfl rfl rfl (aa.start w []) ?_
 refine JC.seq (JC.region (JL.box (r:=[f.v,s.v]) rfl rfl rfl fun b1 _=>?_))
 refine JL.alloc (r:=pz) ?_ ?_ fun b2 _=>?_
 exact tr
 rfl
 refine Y195 ?_
 refine JL.bD (ι:=PA 9 (dK gv.Qd 8 f.l s.l)) (vs:=[.agg #[f.v,s.v],N 0]) (fun x=>.tuple #[.agg x.cs.toArray,N (dG (dK gv.Qd 8 f.l s.l))]) (fun x=>x.M) wF rfl rfl (fun x=>x.wr) (fun w' hw'=>Iu 8 0 rfl f s w' (hE.holds hw') (hf.holds hw' rfl) (hs.holds hw' rfl) hz hl hb hv) ?_
 intro x
 refine JL.perm (M':=[⟨b2,Row 59 pz,true⟩,⟨b1,Row 29 [f.v,s.v],true⟩]++x.M) ?_ List.perm_append_comm
 repeat(refine JL.q (by exact Y426) rfl ?_)
 refine JL.ax (cs:=x.cs) iE rfl rfl x.len x.one .here rfl ?_
 refine Y39 ?_
 refine Y247 ?_
 exact JE.aV rfl (RV.aT gx iE rfl .here x.len Row.all) (RV.tmp rfl) fun w' hw=>⟨x,rfl,hw.weak (.drop _ _ _ (.drop _ _ _ (aj.refl _)))⟩
end
section
open Sl aq Tok
theorem xl:aJ Tryz.prog 132:=⟨_,Tryz.func132,rfl,by kernel_rfl⟩
def tu(v:List aq.By):List aq.By:=if cY v then v else [34]++esc v++[34]
theorem Cw(v:List aq.By):(esc v).length<=2*v.length:=by
 induction v with
 | nil=>decide
 | cons c v ih=>
   have e:esc (c::v)=(if c=34\/c=92 then [92,c] else [c])++esc v:=by unfold esc;rw[List.flatMap_cons]
   rw[e,List.length_append,List.length_cons]
   split
   · simp only[List.length_cons,List.length_nil];omega
   · simp only[List.length_cons,List.length_nil];omega
theorem LD(v:List aq.By):(tu v).length<=2*v.length+2:=by
 have:=Cw v
 unfold tu
 split
 · omega
 · simp only[List.length_append,List.length_cons,List.length_nil];omega
theorem LF(v:List aq.By){i:Nat}(h:i<v.length):esc (v.take (i+1))=esc (v.take i)++(if v.getD i 0=34\/v.getD i 0=92 then [92,v.getD i 0] else [v.getD i 0]):=by
 rw[List.take_add_one,List.getElem?_eq_getElem h,Option.toList_some]
 unfold esc
 rw[List.flatMap_append,List.flatMap_singleton]
 rw[List.getD_eq_getElem?_getD,List.getElem?_eq_getElem h]
 rfl
structure Ob where
 i:Nat
 b:Nat
 cap:Nat
theorem As(b cap:Nat)(X v:List Bt)(w:World){o:Obj}(ho:w.heap[b]?=some o)(hA:dM 5 X.length cap (X.map U8) o)(hX:X.length<=1000000000)(hv:v.length<=2000000):Calls Tryz.prog 132 [.slice (some ⟨b,0,none⟩) X.length cap,Z v].toArray w fun e w'=>∃ q:Nat × Nat,e=.returned (.slice (some ⟨q.1,0,none⟩) (X++tu v).length q.2)/\aa w [b] [⟨q.1,dM 5 (X++tu v).length q.2 ((X++tu v).map U8),true⟩] w':=by
 refine enter (n:=43) Tryz.func132 rfl rfl rfl (aa.one ho hA) ?_
 have cM:∀ (d:Nat) (w0 w':World) (S:List Nat) (M:List aL),aa w0 S (⟨d,Row 9 [Z fW],true⟩::M) w'->Calls Tryz.prog 186 [Z v,kQ d].toArray w' fun e w''=>e=.returned (.bool (cY v))/\Ext w' w'':=fun d w0 w' S M hw'=>by
  have:=Br v (kQ d) (C6 fW) w' (iw hw' .here) Y609
  rw[GX] at this
  exact this
 refine Y24 ?_
 refine JL.bD (ι:=Nat) (vs:=[Z fW]) kQ (fun b=>[⟨b,Row 9 [Z fW],true⟩]) dO rfl rfl (fun b e he=>by rw[List.mem_singleton.1 he]) (fun w' _=>dZ fW w') fun d=>?_
 unfold tu
 cases hs:cY v
 case true=>
  rw[if_pos rfl]
  rw[hs] at cM
  repeat(first|refine JL.q (by exact Y525) rfl ?_|refine JL.nil ?_|refine JE.next ?_)
  refine Y246 ?_
  refine Y61 ?_
  refine JL.iH (v:=Z v) (m:=v.length) (xs:=X.map U8) (news:=v.map U8) (fun b' cap'=>[⟨d,Row 9 [Z fW],true⟩,⟨b',dM 5 (X.length+v.length) cap' (X.map U8++v.map U8),true⟩]) Tryz.underlying22 dV rfl rfl (fun _ _=>jC Tryz.underlying9) Y642 Y609 rfl fun b' cap'=>?_
  refine Y39 ?_
  refine Y247 ?_
  refine Y250 ?_
  refine JE.aK rfl (RV.tmp rfl) fun w' hw=>⟨(b',cap'),?_,?_⟩
  · rw[List.length_append]
  · rw[List.length_append,List.map_append]
    exact hw.weak (.drop _ _ _ (aj.refl _))
 rw[if_neg Y610]
 rw[hs] at cM
 repeat(first|refine JL.q (by exact Y525) rfl ?_|refine JL.nil ?_|refine JE.next ?_)
 refine Y245 ?_
 refine Y94 ?_
 refine JL.ji (v:=U8 34) (xs:=X.map U8) (fun b' cap'=>[⟨d,Row 9 [Z fW],true⟩,⟨b',dM 5 (X.length+1) cap' (X.map U8++[U8 34]),true⟩]) Tryz.underlying22 dV rfl rfl rfl (fun _=>rfl) Y642 Y609 rfl rfl fun bl b1 cap1=>?_
 refine Y21 ?_
 have hel:∀ i,(esc (v.take i)).length<=4000000:=fun i=>by
  have:=Cw (v.take i)
  rw[List.length_take] at this
  omega
 refine JC.loop (fun z:Ob=>[(0,.slice (some ⟨z.b,0,none⟩) (X++[34]++esc (v.take z.i)).length z.cap),(1,Z v),(16,N v.length),(17,N z.i)]) (fun z=>[⟨z.b,dM 5 (X++[34]++esc (v.take z.i)).length z.cap ((X++[34]++esc (v.take z.i)).map U8),true⟩]) (fun z=>v.length-z.i) (fun z=>z.i<=v.length) ⟨0,b1,cap1⟩ (Nat.zero_le _) ?_ ?_ ?_
 · show af _ [(0,.slice (some ⟨b1,0,none⟩) (X++[34]++esc (v.take 0)).length cap1),(1,Z v),(16,N v.length),(17,N 0)]
   rw[List.take_zero,show esc []=[] from rfl,List.append_nil,List.length_append,List.length_singleton]
   exact Y269
 · show aj [⟨b1,dM 5 (X++[34]++esc (v.take 0)).length cap1 ((X++[34]++esc (v.take 0)).map U8),true⟩] _
   rw[List.take_zero,show esc []=[] from rfl,List.append_nil,List.length_append,List.length_singleton,List.map_append]
   exact .drop _ _ _ (aj.refl _)
 rintro⟨i,b2,cap2⟩ hi
 dsimp only at hi⊢
 have hll:(X++[34]++esc (v.take i)).length<=X.length+4000001:=by
  have:=hel i
  simp only[List.length_append,List.length_singleton]
  omega
 refine Y22 ?_
 refine JC.cond rfl (fun h=>?_) (fun h=>?_)
 · have hi':i<v.length:=of_decide_eq_true h
   clear h hi
   have hst:=LF v hi'
   have i0:=fun {n:Nat} {E:Env} {C:World->Prop} {dst:Option Tmp} {ty:TypeId} {pos:String} {aft:Array Edge} {g:Option (Nat × Bool)} {x y:Operand}=>dI hi' (n:=n) (E:=E) (C:=C) (dst:=dst) (ty:=ty) (pos:=pos) (aft:=aft) (g:=g) (x:=x) (y:=y)
   generalize v.getD i 0=c at hst i0
   cases h34:decide (c=34) <;> cases h92:decide (c=92)
   · have hst2:esc (v.take (i+1))=esc (v.take i)++[c]:=by rw[hst,if_neg (fun k=>k.elim (of_decide_eq_false h34) (of_decide_eq_false h92))]
     have heq:X++[34]++esc (v.take (i+1))=(X++[34]++esc (v.take i))++[c]:=by rw[hst2];simp
     repeat(first|refine JL.q Y745 rfl ?_|refine JL.bG rfl rfl ?_|refine Y198 ?_)
     refine Y245 ?_
     generalize X++[34]++esc (v.take i)=O at hll heq⊢
     repeat(first|refine JL.q Y673 rfl ?_|refine Y104 ?_)
     refine JL.ji (v:=U8 c) (xs:=O.map U8) (fun b' cap'=>[⟨b',dM 5 (O.length+1) cap' (O.map U8++[U8 c]),true⟩]) Tryz.underlying22 dV rfl rfl rfl (fun _=>rfl) Y642 Y609 rfl rfl fun bl b4 cap4=>?_
     refine Y18 ?_
     refine JE.again (i:=Ob.mk i b2 cap2) (Ob.mk (i+1) b4 cap4) hi' Y661 ?_ (.keep _ _ _ _ _ _ (fun o' h=>?_) (.nil _))
     · dsimp only;rw[heq,List.length_append];exact Y640
     · dsimp only;rw[heq,List.length_append,List.map_append];exact h
   · have hst2:esc (v.take (i+1))=esc (v.take i)++[92]++[c]:=by rw[hst,if_pos (by exact .inr (of_decide_eq_true h92))];simp
     have heq:X++[34]++esc (v.take (i+1))=(X++[34]++esc (v.take i))++[92]++[c]:=by rw[hst2];simp
     repeat(first|refine JL.q Y745 rfl ?_|refine JL.bG rfl rfl ?_|refine Y198 ?_)
     refine Y246 ?_
     generalize X++[34]++esc (v.take i)=O at hll heq⊢
     refine Y17 ?_
     refine JL.ji (v:=U8 92) (xs:=O.map U8) (fun b' cap'=>[⟨b',dM 5 (O.length+1) cap' (O.map U8++[U8 92]),true⟩]) Tryz.underlying22 dV rfl rfl rfl (fun _=>rfl) Y642 Y609 rfl rfl fun bl b3 cap3=>?_
     refine Y199 ?_
     refine JL.ji (v:=U8 c) (xs:=O.map U8++[U8 92]) (fun b' cap'=>[⟨b',dM 5 (O.length+1+1) cap' (O.map U8++[U8 92]++[U8 c]),true⟩]) Tryz.underlying22 dV rfl rfl rfl (fun _=>rfl) Y642 Y609 rfl rfl fun bl b4 cap4=>?_
     refine Y18 ?_
     refine JE.again (i:=Ob.mk i b2 cap2) (Ob.mk (i+1) b4 cap4) hi' Y661 ?_ (.keep _ _ _ _ _ _ (fun o' h=>?_) (.nil _))
     · dsimp only;rw[heq,List.length_append,List.length_append];exact Y640
     · dsimp only;rw[heq,List.length_append,List.length_append,List.map_append,List.map_append];exact h
   · have hst2:esc (v.take (i+1))=esc (v.take i)++[92]++[c]:=by rw[hst,if_pos (by exact .inl (of_decide_eq_true h34))];simp
     have heq:X++[34]++esc (v.take (i+1))=(X++[34]++esc (v.take i))++[92]++[c]:=by rw[hst2];simp
     repeat(first|refine JL.q (by first|(apply i0;rfl;rfl)|exact Y526) rfl ?_|refine JL.aM rfl rfl rfl rfl ?_|refine Y200 ?_)
     refine Y246 ?_
     generalize X++[34]++esc (v.take i)=O at hll heq⊢
     refine Y17 ?_
     refine JL.ji (v:=U8 92) (xs:=O.map U8) (fun b' cap'=>[⟨b',dM 5 (O.length+1) cap' (O.map U8++[U8 92]),true⟩]) Tryz.underlying22 dV rfl rfl rfl (fun _=>rfl) Y642 Y609 rfl rfl fun bl b3 cap3=>?_
     refine Y199 ?_
     refine JL.ji (v:=U8 c) (xs:=O.map U8++[U8 92]) (fun b' cap'=>[⟨b',dM 5 (O.length+1+1) cap' (O.map U8++[U8 92]++[U8 c]),true⟩]) Tryz.underlying22 dV rfl rfl rfl (fun _=>rfl) Y642 Y609 rfl rfl fun bl b4 cap4=>?_
     refine Y18 ?_
     refine JE.again (i:=Ob.mk i b2 cap2) (Ob.mk (i+1) b4 cap4) hi' Y661 ?_ (.keep _ _ _ _ _ _ (fun o' h=>?_) (.nil _))
     · dsimp only;rw[heq,List.length_append,List.length_append];exact Y640
     · dsimp only;rw[heq,List.length_append,List.length_append,List.map_append,List.map_append];exact h
   · have hst2:esc (v.take (i+1))=esc (v.take i)++[92]++[c]:=by rw[hst,if_pos (by exact .inl (of_decide_eq_true h34))];simp
     have heq:X++[34]++esc (v.take (i+1))=(X++[34]++esc (v.take i))++[92]++[c]:=by rw[hst2];simp
     repeat(first|refine JL.q (by first|(apply i0;rfl;rfl)|exact Y526) rfl ?_|refine JL.aM rfl rfl rfl rfl ?_|refine Y200 ?_)
     refine Y246 ?_
     generalize X++[34]++esc (v.take i)=O at hll heq⊢
     refine Y17 ?_
     refine JL.ji (v:=U8 92) (xs:=O.map U8) (fun b' cap'=>[⟨b',dM 5 (O.length+1) cap' (O.map U8++[U8 92]),true⟩]) Tryz.underlying22 dV rfl rfl rfl (fun _=>rfl) Y642 Y609 rfl rfl fun bl b3 cap3=>?_
     refine Y199 ?_
     refine JL.ji (v:=U8 c) (xs:=O.map U8++[U8 92]) (fun b' cap'=>[⟨b',dM 5 (O.length+1+1) cap' (O.map U8++[U8 92]++[U8 c]),true⟩]) Tryz.underlying22 dV rfl rfl rfl (fun _=>rfl) Y642 Y609 rfl rfl fun bl b4 cap4=>?_
     refine Y18 ?_
     refine JE.again (i:=Ob.mk i b2 cap2) (Ob.mk (i+1) b4 cap4) hi' Y661 ?_ (.keep _ _ _ _ _ _ (fun o' h=>?_) (.nil _))
     · dsimp only;rw[heq,List.length_append,List.length_append];exact Y640
     · dsimp only;rw[heq,List.length_append,List.length_append,List.map_append,List.map_append];exact h
 · have hi':¬ i<v.length:=of_decide_eq_false h
   obtain rfl:i=v.length:=by omega
   rw[List.take_length] at hll⊢
   generalize esc v=ev at hll⊢
   refine Y59 ?_
   refine JL.ji (v:=U8 34) (xs:=(X++[34]++ev).map U8) (fun b' cap'=>[⟨b',dM 5 ((X++[34]++ev).length+1) cap' ((X++[34]++ev).map U8++[U8 34]),true⟩]) Tryz.underlying22 dV rfl rfl rfl (fun _=>rfl) Y642 Y609 rfl rfl fun bl b' cap'=>?_
   refine Y39 ?_
   refine Y247 ?_
   refine JE.aK rfl (RV.tmp rfl) fun w' hw=>⟨(b',cap'),?_,?_⟩
   · dsimp only
     rw[show X++([34]++ev++[34])=X++[34]++ev++[34] by simp,List.length_append (bs:=[34])]
     rfl
   · dsimp only
     rw[show X++([34]++ev++[34])=X++[34]++ev++[34] by simp,List.length_append (bs:=[34]),List.map_append (l₂:=[34])]
     exact hw
structure SY:Prop where
 atom:∀ (s:List Bt) (w:World),s.length<1000000->Calls Tryz.prog 130 [Z s].toArray w fun e w'=>e=.returned (.bool (dh s))/\Ext w w'
 bare:∀ (s:List Bt) (w:World),s.length<140000000->Calls Tryz.prog 121 [Z s].toArray w fun e w'=>e=.returned (.tuple #[Z (dW s).1,N (dW s).2])/\Ext w w'
 addr:∀ (s:List Bt) (w:World),s.length<1000000->Calls Tryz.prog 79 [Z s].toArray w fun e w'=>e=.returned (.tuple #[Z (cH s).1,N (cH s).2])/\Ext w w'
 ids:∀ (s:List Bt) (w:World),s.length<1000000->Calls Tryz.prog 99 [Z s].toArray w fun e w'=>∃ y:wV,e=.returned (.tuple #[y.v,N (mQ s).2])/\Ext w w'/\y.ok w'/\y.l=(mQ s).1
 params:∀ (s:List Bt) (w:World),s.length<1000000->Calls Tryz.prog 153 [Z s].toArray w fun e w'=>∃ y:gm,e=.returned (.tuple #[Z (eo s).1,y.v,N (eo s).2.2])/\Ext w w'/\y.ok w'/\y.l=(eo s).2.1
 write:∀ (k:List Bt) (a:gm) (w:World),a.ok w->k.length<=2000000->a.l.length<=20->(∀ p∈a.l,p.1.length<=2000000/\p.2.length<=2000000)->Calls Tryz.prog 83 [Z k,a.v].toArray w fun e w'=>e=.returned (.tuple #[Z (if dQ k a.l then dj k a.l else []),N (if dQ k a.l then 0 else 3)])/\Ext w w'
theorem OQ.SA{P:Program}{n:Nat}{E:Env}{C:World->Prop}{dst:Option Tmp}{t t' ty:TypeId}{pos:String}{aft:Array Edge}{g:Option (Nat × Bool)}{x y:Operand}{a:Bool}(hu:P.underlying t=some .bool)(hx:ev E x=some (.bool a))(hy:ev E y=some (.bool a)):OQ P n E C ⟨dst,.binOp .eql t x y t',ty,pos,aft,g⟩ (.bool true):=OQ.to (OQ.Ug hu hx hy) Y614
namespace Sl
end Sl
theorem s8:aJ Tryz.prog 83:=⟨_,Tryz.func83,rfl,by kernel_rfl⟩
theorem Iv(k:List aq.By)(l:List (List aq.By × List aq.By)):dQ k l=(l.all (fun p=>dh p.1&&decide (p.1.map small=p.1)&&p.2.all fB)&&gy k&&decide (k.map small=k)):=rfl
theorem LG(p:List aq.By × List aq.By):jR p=[59,32]++p.1++[61]++tu p.2:=rfl
structure TI where
 i:Nat
 b:Nat
 cap:Nat
theorem EC(k:List Bt)(a:gm)(w:World)(ha:a.ok w)(hkl:k.length<=2000000)(hal:a.l.length<=20)(hpl:∀ p∈a.l,p.1.length<=2000000/\p.2.length<=2000000):Calls Tryz.prog 83 [Z k,a.v].toArray w fun e w'=>e=.returned (.tuple #[Z (if dQ k a.l then dj k a.l else []),N (if dQ k a.l then 0 else 3)])/\Ext w w':=by
 refine enter (n:=57) Tryz.func83 rfl rfl rfl (aa.start w []) ?_
 have cK:=fun w'=>wD k w' Y609
 have cN:=fun w'=>yI k w' Y609
 rw[Iv]
 cases h1:gy k
 · rw[h1] at cK
   rw[Bool.and_false,Bool.false_and,if_neg Y610,if_neg Y610]
   repeat(first|refine JL.q (by first|exact Y527|exact Y329|exact Y330|exact Y323|exact Y324) rfl ?_|refine JC.seq ?_|refine JC.region ?_|refine JL.nil ?_|refine JE.next ?_|refine JL.aM rfl rfl rfl rfl ?_)
   refine Y246 ?_
   refine Y3 ?_
   refine Y247 ?_
   refine Y250 ?_
   exact Y259
 rw[h1] at cK
 cases h2:decide (k.map small=k)
 · rw[h2] at cN
   rw[Bool.and_false,if_neg Y610,if_neg Y610]
   repeat(first|refine JL.q (by first|exact Y527|exact Y528) rfl ?_|refine JL.bG rfl rfl ?_|refine Y201 ?_)
   refine Y246 ?_
   refine Y3 ?_
   refine Y247 ?_
   refine Y250 ?_
   exact Y259
 rw[h2] at cN
 rw[Bool.and_true,Bool.and_true]
 repeat(first|refine JL.q (by first|exact Y527|exact Y528) rfl ?_|refine JL.bG rfl rfl ?_|refine Y201 ?_)
 refine Y245 ?_
 refine Y94 ?_
 refine JL.SN (r:=k) Tryz.underlying9 rfl Tryz.underlying22 Tryz.underlying5 rfl rfl fun b0 cap0 _=>?_
 refine Y202 ?_
 let g:Pr->Bool:=fun p=>dh p.1&&decide (p.1.map small=p.1)&&p.2.all fB
 let O:Nat->List Bt:=fun i=>k++(a.l.take i).flatMap jR
 have hO:∀ i,i<a.l.length->O (i+1)=O i++jR (a.l.getD i ([],[])):=by
  intro i hi
  show k++(a.l.take (i+1)).flatMap jR=k++(a.l.take i).flatMap jR++_
  rw[List.take_add_one,List.getElem?_eq_getElem hi,Option.toList_some,List.flatMap_append,List.flatMap_singleton,List.getD_eq_getElem?_getD,List.getElem?_eq_getElem hi,List.append_assoc]
  rfl
 refine JC.loop (fun z:TI=>[(6,.slice (some ⟨z.b,0,none⟩) (O z.i).length z.cap),(19,a.v),(20,N a.l.length),(21,N z.i)]) (fun z=>[⟨z.b,dM 5 (O z.i).length z.cap ((O z.i).map U8),true⟩]) (fun z=>a.l.length-z.i) (fun z=>z.i<=a.l.length/\(a.l.take z.i).all g=true/\(O z.i).length<=2000000+6000010*z.i) ⟨0,b0,cap0⟩ ⟨Nat.zero_le _,rfl,?_⟩ ?_ ?_ ?_
 · show(k++[]).length<=_
   rw[List.append_nil]
   exact hkl
 · show af _ [(6,.slice (some ⟨b0,0,none⟩) (k++[]).length cap0),(19,a.v),(20,N a.l.length),(21,N 0)]
   rw[List.append_nil]
   exact Y269
 · show aj [⟨b0,dM 5 (k++[]).length cap0 ((k++[]).map U8),true⟩] _
   rw[List.append_nil]
   exact aj.refl _
 rintro⟨i,b1,cap1⟩ ⟨hi,hg,hlen⟩
 dsimp only at hi hg hlen⊢
 refine Y22 ?_
 refine JC.cond rfl (fun h=>?_) (fun h=>?_)
 · have hi':i<a.l.length:=of_decide_eq_true h
   clear h hi
   obtain⟨bx,jx,eX,lx,cx1,cx2⟩:=ha.at hi'
   have cx:=pair_cells cx1 cx2
   have vx:a.v=.slice (some ⟨bx,jx,none⟩) a.l.length a.cap:=by rw[<- eX];rfl
   have hO1:=hO i hi'
   have hall:=eK g a.l ([],[]) hi'
   have hbad:=gY g a.l ([],[]) hi'
   rw[hg,Bool.true_and] at hall
   have hmem:a.l.getD i ([],[])∈a.l:=by
    rw[List.getD_eq_getElem?_getD,List.getElem?_eq_getElem hi']
    exact List.getElem_mem hi'
   obtain⟨n1,n2⟩:=hpl _ hmem
   rw[LG] at hO1
   generalize a.l.getD i ([],[])=p at cx hO1 hall hbad n1 n2
   clear hmem cx1 cx2 eX
   obtain⟨n,v⟩:=p
   dsimp only at cx hO1 n1 n2
   have cA:=fun w'=>nZ n w' Y609
   have cB:=fun w'=>yI n w' Y609
   have cV:=fun w'=>Gd v w' Y609
   have hvl:=LD v
   have hg1:g (n,v)=(dh n&&decide (n.map small=n)&&v.all fB):=rfl
   rw[hg1] at hall hbad
   generalize O i=P at hlen hO1⊢
   generalize hPe:O (i+1)=P' at hO1
   rw[vx]
   repeat(first|refine JL.q (by first|exact Y374|(apply OQ.bE (cs:=pc (n,v));exact BF;rfl;exact lH;exact lx;exact Y614;exact cx)) rfl ?_|refine Y90 ?_)
   refine JL.alloc Nh rfl fun b8 _=>?_
   refine JL.ax (cs:=pc (n,v)) lH rfl rfl rfl rfl .here rfl ?_
   cases d1:dh n
   · have hb:=hbad (by rw[d1];rfl)
     rw[if_neg Y612,if_neg Y612]
     rw[d1] at cA
     repeat(first|refine JL.q (by first|exact Y529|exact Y530|exact Y329|exact Y330|exact Y323|exact Y377) rfl ?_|refine JC.seq ?_|refine JC.region ?_|refine JL.nil ?_|refine JE.next ?_|refine JL.aM rfl rfl rfl rfl ?_)
     refine Y246 ?_
     refine Y3 ?_
     refine Y247 ?_
     refine Y2 ?_
     exact Y259
   cases d2:decide (n.map small=n)
   · have hb:=hbad (by rw[d1,d2];rfl)
     rw[if_neg Y612,if_neg Y612]
     rw[d1] at cA
     rw[d2] at cB
     repeat(first|refine JL.q (by first|exact Y529|exact Y530|exact Y531|exact Y329|exact Y330|exact Y331|exact Y323|exact Y377) rfl ?_|refine JC.seq ?_|refine JC.region ?_|refine JL.nil ?_|refine JE.next ?_|refine JL.bG rfl rfl ?_|refine JL.aM rfl rfl rfl rfl ?_)
     refine Y246 ?_
     refine Y3 ?_
     refine Y247 ?_
     refine Y2 ?_
     exact Y259
   cases d3:v.all fB
   · have hb:=hbad (by rw[d1,d2,d3];rfl)
     rw[if_neg Y612,if_neg Y612]
     rw[d1] at cA
     rw[d2] at cB
     rw[d3] at cV
     repeat(first|refine JL.q Y746 rfl ?_|refine JL.bG rfl rfl ?_|refine Y203 ?_)
     refine Y246 ?_
     refine Y3 ?_
     refine Y247 ?_
     refine Y2 ?_
     exact Y259
   rw[d1] at cA
   rw[d2] at cB
   rw[d3] at cV
   rw[d1,d2,d3] at hall
   repeat(first|refine JL.q Y746 rfl ?_|refine JL.bG rfl rfl ?_|refine Y203 ?_)
   refine Y245 ?_
   refine Y94 ?_
   refine JL.iH (v:=Z [59,32]) (m:=2) (xs:=P.map U8) (news:=([59,32]:List Bt).map U8) (fun b' cap'=>[⟨b8,Row 63 (pc (n,v)),true⟩,⟨b',dM 5 (P.length+2) cap' (P.map U8++([59,32]:List Bt).map U8),true⟩]) Tryz.underlying22 dV rfl rfl (fun _ _=>jC Tryz.underlying9) Y642 Y609 rfl fun b2 cap2=>?_
   repeat(first|refine JL.q (by exact Y529) rfl ?_|refine Y144 ?_)
   refine JL.iH (v:=Z n) (m:=n.length) (xs:=P.map U8++([59,32]:List Bt).map U8) (news:=n.map U8) (fun b' cap'=>[⟨b8,Row 63 (pc (n,v)),true⟩,⟨b',dM 5 (P.length+2+n.length) cap' (P.map U8++([59,32]:List Bt).map U8++n.map U8),true⟩]) Tryz.underlying22 dV rfl rfl (fun _ _=>jC Tryz.underlying9) Y642 Y609 rfl fun b3 cap3=>?_
   refine Y24 ?_
   refine JL.ji (v:=U8 61) (xs:=P.map U8++([59,32]:List Bt).map U8++n.map U8) (fun b' cap'=>[⟨b8,Row 63 (pc (n,v)),true⟩,⟨b',dM 5 (P.length+2+n.length+1) cap' (P.map U8++([59,32]:List Bt).map U8++n.map U8++[U8 61]),true⟩]) Tryz.underlying22 dV rfl rfl rfl (fun _=>rfl) Y642 Y609 rfl rfl fun bl b4 cap4=>?_
   repeat(first|refine JL.q (by first|exact Y532|exact Y323|exact Y324|exact Y377) rfl ?_|refine JC.region ?_|refine JL.nil ?_|refine JE.next ?_)
   obtain⟨Y,hY⟩:∃ Y,Y=P++[59,32]++n++[61]:=⟨_,rfl⟩
   have hYl:Y.length=P.length+2+n.length+1:=by rw[hY];simp only[List.length_append,List.length_cons,List.length_nil]
   have hYm:Y.map U8=P.map U8++([59,32]:List Bt).map U8++n.map U8++[U8 61]:=by rw[hY];simp
   have hP':P'=Y++tu v:=by rw[hO1,hY];simp
   rw[<- hYl,<- hYm]
   refine JL.call (ι:=Nat × Nat) (vs:=[.slice (some ⟨b4,0,none⟩) Y.length cap4,Z v]) (fun q=>.slice (some ⟨q.1,0,none⟩) (Y++tu v).length q.2) (fun q=>[⟨b8,Row 63 (pc (n,v)),true⟩,⟨q.1,dM 5 (Y++tu v).length q.2 ((Y++tu v).map U8),true⟩]) xl rfl rfl ?_ ?_
   · intro w' hw'
     obtain⟨o,ho,hA⟩:=hw'.get (b:=b4) (wr:=true) (A:=dM 5 Y.length cap4 (Y.map U8)) Y697
     refine(As b4 cap4 Y v w' ho hA Y609 n2).mono ?_
     rintro e w2 ⟨q,rfl,h2⟩
     exact Y288
   rintro⟨b5,cap5⟩
   dsimp only
   have hYv:(Y++tu v).length<=2000000+6000010*(i+1):=by
    rw[List.length_append]
    omega
   rw[<- hP'] at hYv⊢
   refine Y18 ?_
   refine JE.again (i:=TI.mk i b1 cap1) (TI.mk (i+1) b5 cap5) ⟨hi',hall,?_⟩ Y661 ?_ ?_
   · dsimp only
     rw[hPe]
     exact hYv
   · dsimp only
     rw[hPe]
     exact Y269
   · dsimp only
     rw[hPe]
     exact .drop _ _ _ (aj.refl _)
 · have hi':¬ i<a.l.length:=of_decide_eq_false h
   obtain rfl:i=a.l.length:=by omega
   rw[List.take_length] at hg
   rw[if_pos hg,if_pos hg]
   have hOO:O a.l.length=dj k a.l:=by show k++(a.l.take a.l.length).flatMap jR=_;rw[List.take_length];rfl
   rw[hOO] at hlen⊢
   repeat(first|refine JL.q (by(apply OQ.wU (s:=⟨some ⟨b1,0,none⟩,cap1,dj k a.l⟩);exact Tryz.underlying22;exact Tryz.underlying5;exact Tryz.underlying9;rfl;exact(fun w' hw'=>FA hw' .here))) rfl ?_|refine Y19 ?_)
   refine Y247 ?_
   exact Y259
end
section
open Sl aq gZ Tok
theorem ED:aJ Tryz.prog 87:=⟨_,Tryz.func87,rfl,by kernel_rfl⟩
theorem Cx:aJ Tryz.prog 138:=⟨_,Tryz.func138,rfl,by kernel_rfl⟩
theorem OQ.O1{P:Program}{n:Nat}{E:Env}{w0:World}{S:List Nat}{M:List aL}{dst:Option Tmp}{ty:TypeId}{pos:String}{aft:Array Edge}{g:Option (Nat × Bool)}{x:Operand}{f:FuncId}{xs:List Operand}{vs:List Value}{v:Value}{ats:Array TypeId}(hg:aJ P f)(hf:ev E x=some (.func (.func f) #[] #[]))(hx:pK E xs=some vs)(hc:∀ w,aa w0 S M w->Calls P f vs.toArray w fun e w'=>e=.returned v/\Ext w w') :
  OQ P n E (aa w0 S M) ⟨dst,.call ⟨.value x,xs.toArray,ats⟩,ty,pos,aft,g⟩ v:=by
 refine⟨fun a hk w hw=>?_⟩
 unfold Oper.quietAt
 rw[oK (caps:=[]) hg hk hf hx w,List.append_nil]
 exact⟨rfl,(hc w hw).mono fun e w' ⟨k1,k2⟩=>⟨k1,hw.ext k2⟩⟩
theorem Iw(Qe:List aq.By->List aq.By)(k:List Bt)(v1 v4:Value)(c:Int)(x:ay)(w:World)(hv1:v1.cells=#[v1])(hx:x.ok w)(hl:x.l.length<=4000)(hc:c=0\/c=1):Calls Tryz.prog 87 [.agg #[Z k,v1,.int .i64 c,x.v,v4]].toArray w
  fun e w'=>∃ y:{ y:ay // iP y (gd Qe c x.l) },e=.returned y.1.v/\aa w [] y.1.an w':=by
 refine enter (n:=18) Tryz.func87 rfl rfl rfl (aa.start w []) ?_
 refine JC.seq (JC.region (JL.box (r:=[Z k,v1,.int .i64 c,x.v,v4]) rfl rfl rfl fun b _=>?_))
 rcases hc with rfl|rfl
 · have d1:decide ((0:Int)=1)=false:=rfl
   have d2:decide ((0:Int)=2)=false:=rfl
   repeat(first|refine JL.q (by first|(apply OQ.load;exact Km;rfl;exact .here;exact(Row.cell (v:=.int .i64 0) rfl))|(apply OQ.ep (a:=0) (b:=1);rfl;rfl;exact d1)) rfl ?_|refine Y204 ?_)
   refine Y245 ?_
   repeat(first|refine JL.q Y740 rfl ?_|refine Y20 ?_)
   refine Y245 ?_
   repeat(first|refine JL.q (by first|exact Y534|exact Y377) rfl ?_|refine JC.seq ?_|refine JC.region ?_|refine JC.skip ?_|refine JE.next ?_|refine JE.ah ?_)
   refine JL.bD (ι:={ q:Acc // q=none->x.l=[] }) (vs:=[x.v]) (fun q=>aD q.1 x.l.length) (fun q=>bw 5 q.1 (x.l.map U8)) j5 rfl rfl (fun q=>kz _ _ _) (fun w' hw'=>(n9 x w' (hx.holds hw' rfl) Y609).mono fun e w2 ⟨q,h1,h2,h3⟩=>⟨⟨q,h2⟩,h1,h3⟩) ?_
   rintro⟨q,hq⟩
   dsimp only
   refine Y39 ?_
   refine Y247 ?_
   refine JE.aK rfl (RV.tmp rfl) fun w' hw=>⟨⟨eO q x.l,⟨mb hq,jN⟩⟩,by rw[iV],(Sl.aa.weak hw (bO _ _)).weak (iW q x.l)⟩
 · have d1:decide ((1:Int)=1)=true:=rfl
   repeat(first|refine JL.q (by first|(apply OQ.load;exact Km;rfl;exact .here;exact(Row.cell (v:=.int .i64 1) rfl))|(apply OQ.ep (a:=1) (b:=1);rfl;rfl;exact d1)) rfl ?_|refine Y204 ?_)
   refine Y246 ?_
   repeat(first|refine JL.q (by exact Y534) rfl ?_|refine Y205 ?_)
   refine JL.bD (ι:={ y:ay // iP y (bQ.e6 x.l) }) (vs:=[x.v]) (fun y=>y.1.v) (fun y=>y.1.an) Ch rfl rfl (fun y=>y.1.bH) (fun w' hw'=>(Eg x w' (hx.holds hw' rfl) Y609).mono fun e w2 ⟨y,h1,h2,h3⟩=>⟨⟨y,h2⟩,h1,h3⟩) ?_
   rintro y
   refine Y39 ?_
   refine Y247 ?_
   refine Y2 ?_
   refine JE.aK rfl (RV.tmp rfl) fun w' hw=>⟨y,rfl,Sl.aa.weak hw (bO _ _)⟩
theorem si{s:tK}:s.ls.length=s.rs.length:=List.length_map _
theorem At{s:tK}{i:Nat}(h:i<s.rs.length):s.ls.getD i []=(s.rs.getD i aB).l:=by
 show(s.rs.map ay.l).getD i []=_
 rw[List.getD_eq_getElem?_getD,List.getD_eq_getElem?_getD,List.getElem?_map,List.getElem?_eq_getElem h]
 rfl
theorem Au{α:Type}[Inhabited α]{a b:List α}{i:Nat}(d:α)(ha:i<a.length)(hb:i<b.length)(h:a.take i=b.take i)(e:a.getD i d=b.getD i d):a.take (i+1)=b.take (i+1):=by
 rw[List.getD_eq_getElem?_getD,List.getD_eq_getElem?_getD,List.getElem?_eq_getElem ha,List.getElem?_eq_getElem hb] at e
 rw[List.take_add_one,List.take_add_one,h,List.getElem?_eq_getElem ha,List.getElem?_eq_getElem hb]
 have e:a[i]=b[i]:=e
 rw[e]
theorem Oc(A B:tK)(w:World)(hA:A.ok w)(hB:B.ok w)(hl:A.rs.length<9223372036854775807)(hl2:B.rs.length<9223372036854775807):Calls Tryz.prog 138 [A.v,B.v,.func (.func 139) #[] #[]].toArray w fun e w'=>e=.returned (.bool (decide (A.ls=B.ls)))/\Ext w w':=by
 refine enter (n:=32) Tryz.func138 rfl rfl rfl (aa.start w []) ?_
 cases h0:decide ((A.rs.length:Int)=(B.rs.length:Int))
 · have hF:decide (A.ls=B.ls)=false:=decide_eq_false fun e=>by
    have:=congrArg List.length e
    rw[si,si] at this
    have:=of_decide_eq_false h0
    omega
   rw[hF]
   repeat(first|refine JL.q Y669 rfl ?_|refine Y103 ?_)
   refine Y246 ?_
   refine Y3 ?_
   refine Y247 ?_
   refine Y250 ?_
   exact Y248
 have hlen:A.rs.length=B.rs.length:=by have:=of_decide_eq_true h0;omega
 repeat(first|refine JL.q Y669 rfl ?_|refine Y103 ?_)
 refine Y245 ?_
 repeat(first|refine JL.q (by first|exact Y323|exact Y378) rfl ?_|refine JC.seq ?_|refine JC.region ?_|refine JC.block ?_|refine JC.skip ?_|refine JL.nil ?_|refine JE.next ?_)
 refine JC.loop (fun i:Nat=>[(1,B.v),(2,.func (.func 139) #[] #[]),(15,A.v),(16,N A.rs.length),(17,N i)]) (fun _=>[]) (fun i=>A.rs.length-i) (fun i=>i<=A.rs.length/\A.ls.take i=B.ls.take i) 0 ⟨Nat.zero_le _,rfl⟩ Y640 (aj.refl _) ?_
 rintro i ⟨hi,heq⟩
 refine Y22 ?_
 refine JC.cond rfl (fun h=>?_) (fun h=>?_)
 · have hi':i<A.rs.length:=of_decide_eq_true h
   clear h hi
   obtain⟨ba,ja,eA,la,ca,oka⟩:=hA.at hi'
   obtain⟨bb,jb,eB,lb,cb,okb⟩:=hB.at (show i<B.rs.length by omega)
   have vA:A.v=.slice (some ⟨ba,ja,none⟩) A.rs.length A.cap:=by rw[<- eA];rfl
   have vB:B.v=.slice (some ⟨bb,jb,none⟩) B.rs.length B.cap:=by rw[<- eB];rfl
   have hstep:=Au (a:=A.ls) (b:=B.ls) (i:=i) ([]:List Bt) (by rw[si];omega) (by rw[si];omega) heq
   rw[At hi',At (show i<B.rs.length by omega)] at hstep
   have hne:(A.rs.getD i aB).l≠(B.rs.getD i aB).l->A.ls≠B.ls:=fun h e=>h (by rw[<- At hi',<- At (show i<B.rs.length by omega),e])
   generalize A.rs.getD i aB=a at ca oka hstep hne
   generalize B.rs.getD i aB=b at cb okb hstep hne
   have ce:=fun (M:List aL) (w':World) (hw':aa w [] M w')=>rO a b w' (oka.holds hw' rfl) (okb.holds hw' rfl)
   rw[vA,vB]
   cases hb:decide (a.l=b.l)
   · rw[hb] at ce
     rw[decide_eq_false (hne (of_decide_eq_false hb))]
     repeat(first|refine JL.q Y747 rfl ?_|refine Y52 ?_)
     refine Y246 ?_
     refine Y3 ?_
     refine Y247 ?_
     refine Y2 ?_
     exact Y248
   · rw[hb] at ce
     repeat(first|refine JL.q Y747 rfl ?_|refine Y52 ?_)
     refine Y245 ?_
     refine Y25 ?_
     rw[<- vA,<- vB]
     exact JE.again (i:=i) (i+1) ⟨hi',hstep (of_decide_eq_true hb)⟩ Y609 Y640 (aj.refl _)
 · have hi':¬ i<A.rs.length:=of_decide_eq_false h
   obtain rfl:i=A.rs.length:=by omega
   have hT:A.ls=B.ls:=by
    have h1:A.ls.take A.rs.length=A.ls:=by rw[<- si,List.take_length]
    have h2:B.ls.take A.rs.length=B.ls:=by rw[hlen,<- si,List.take_length]
    rw[<- h1,heq,h2]
   rw[decide_eq_true hT]
   refine Y11 ?_
   exact Y244
namespace gZ
def mK(Qe:List By->List By):Nat->Option (Part->Except Nat (List fP × List By))
 | 0=>none
 | k+1=>some (cu Qe k)
theorem nH(Qe:List By->List By)(k:Nat)(p:Part):cu Qe k p=mW Qe (mK Qe k) p.kind p.ps p.code p.body p.parts:=by cases k <;> rfl
def fO(sub:Option (Part->Except Nat (List fP × List By)))(p:Part):Except Nat (List By):=
 if p.parts=[]\/cG (cJ p.ps fF)=false\/p.code≠0\/p.body≠[] then .error 3
 else match sub with
  | none=>.error 5
  | some g=>match fc g p.parts with
    | .error e=>.error e
    | .ok xs=>
      if de (jn (cJ p.ps fF) (xs.map fun x=>bt x.1 x.2) []) (cJ p.ps fF)=(xs.map (fun x=>bt x.1 x.2),0) then .ok (jn (cJ p.ps fF) (xs.map fun x=>bt x.1 x.2) [])
      else .error 3
theorem jG(Qe:List By->List By)(k:Nat){p:Part}(h1:dQ p.kind p.ps=true)(h2:fo p.kind=true):cu Qe k p=match fO (mK Qe k) p with
  | .error e=>.error e
  | .ok b=>mV [(cF,dj p.kind p.ps)] b:=by
 rw[nH]
 unfold mW fO
 rw[if_neg (by rw[h1];decide),if_pos h2]
 by_cases h:p.parts=[]\/cG (cJ p.ps fF)=false\/p.code≠0\/p.body≠[]
 · rw[if_pos h,if_pos h]
 · rw[if_neg h,if_neg h]
   cases mK Qe k with
   | none=>rfl
   | some g=>
     dsimp only
     cases fc g p.parts with
     | error e=>rfl
     | ok xs=>
       dsimp only
       split <;> rfl
theorem jH(Qe:List By->List By)(k:Nat){p:Part}(h1:dQ p.kind p.ps=false):cu Qe k p=.error 3:=by
 rw[nH]
 unfold mW
 rw[if_pos h1]
theorem kK(Qe:List By->List By)(k:Nat){p:Part}(h1:dQ p.kind p.ps=true)(h2:fo p.kind=false):cu Qe k p=if p.code<0\/2<p.code\/p.parts≠[] then .error 3 else mV [(cF,dj p.kind p.ps),(fu,C2 p.code)] (gd Qe p.code p.body):=by
 rw[nH]
 unfold mW
 rw[if_neg (by rw[h1];decide),if_neg (by rw[h2];decide)]
theorem LH{f g:List fP}{b c:List By}(h:mV f b=.ok (g,c)):bJ g c=0:=(Dc h).2.2
theorem ud{f:List fP}{b:List By}{e:Nat}(h:mV f b=.error e):e≠0:=by
 unfold mV at h
 split at h
 · cases h
 · cases h;assumption
theorem sj{sub:Option (Part->Except Nat (List fP × List By))}(hs:∀ g,sub=some g->∀ q e,g q=.error e->e≠0){p:Part}{e:Nat}(h:fO sub p=.error e):e≠0:=by
 unfold fO at h
 split at h
 · cases h;decide
 · split at h
   · cases h;decide
   · rename_i g
     split at h
     · rename_i e' he
       cases h
       exact Ae (hs g rfl) _ _ he
     · split at h
       · cases h
       · cases h;decide
theorem Cy(Qe:List By->List By)(k:Nat){p:Part}{f:List fP}{b:List By}(h:cu Qe k p=.ok (f,b)):bJ f b=0:=by
 cases h1:dQ p.kind p.ps
 · rw[jH Qe k h1] at h;cases h
 · cases h2:fo p.kind
   · rw[kK Qe k h1 h2] at h
     split at h
     · cases h
     · exact LH h
   · rw[jG Qe k h1 h2] at h
     split at h
     · cases h
     · exact LH h
theorem yO(Qe:List By->List By):∀ (k:Nat) {p:Part} {e:Nat},cu Qe k p=.error e->e≠0:=by
 intro k
 induction k with
 | zero=>
   intro p e h
   cases h1:dQ p.kind p.ps
   · rw[jH Qe 0 h1] at h;cases h;decide
   · cases h2:fo p.kind
     · rw[kK Qe 0 h1 h2] at h
       split at h
       · cases h;decide
       · exact ud h
     · rw[jG Qe 0 h1 h2] at h
       split at h
       · rename_i he
         cases h
         exact sj (fun g hg=>by cases hg) he
       · exact ud h
 | succ k ih=>
   intro p e h
   cases h1:dQ p.kind p.ps
   · rw[jH Qe (k+1) h1] at h;cases h;decide
   · cases h2:fo p.kind
     · rw[kK Qe (k+1) h1 h2] at h
       split at h
       · cases h;decide
       · exact ud h
     · rw[jG Qe (k+1) h1 h2] at h
       split at h
       · rename_i he
         cases h
         exact sj (fun g hg q e hq=>by cases hg;exact ih hq) he
       · exact ud h
theorem s9{f:List fP}{b:List By}(h:bJ f b=0):(bt f b).length<=2097152:=by
 have h1:=lV h
 unfold ir at h1
 split at h1
 · cases h1
 · omega
def upTo(bd:List By)(l:List (List By)):List By:=l.flatMap fun p=>45::45::bd++([13,10]++(p++[13,10]))
theorem Cz{bd:List By}{l:List (List By)}{m:Nat}(h:∀ p∈l,p.length<=m):(upTo bd l).length<=l.length*(bd.length+m+6):=by
 induction l with
 | nil=>exact Nat.zero_le _
 | cons p l ih=>
   have h1:=ih fun q hq=>h q Y618
   have h2:=h p Y614
   have e:upTo bd (p::l)=(45::45::bd++([13,10]++(p++[13,10])))++upTo bd l:=rfl
   rw[e,List.length_append,List.length_cons,Nat.succ_mul]
   have:(45::45::bd++([13,10]++(p++[13,10]))).length=bd.length+p.length+6:=by
    simp only[List.length_append,List.length_cons,List.length_nil]
    omega
   omega
theorem yP(bd:List By)(l:List (List By))(p:List By):upTo bd (l++[p])=((upTo bd l++(45::45::bd++[13,10]))++p)++[13,10]:=by
 unfold upTo
 rw[List.flatMap_append]
 simp
end gZ
namespace Sl
theorem CA(e:TypeId)(q:Acc)(xs:List Value):mJ e 1 q (xs.map fun v=>[v])=bw e q xs:=by
 cases q with
 | none=>rfl
 | some p=>
   have:(xs.map fun v=>[v]).flatten=xs:=by
    induction xs with
    | nil=>rfl
    | cons x xs ih=>rw[List.map_cons,List.flatten_cons,ih];rfl
   show [(⟨p.1,Sl.Own e 1 (xs.map fun v=>[v]).length p.2 (xs.map fun v=>[v]).flatten,true⟩:aL)]=[⟨p.1,Sl.Own e 1 xs.length p.2 xs,true⟩]
   rw[this,List.length_map]
section
variable {P:Program} {n:Nat} {w0:World} {S:List Nat} {ops:Array Oper} {Q:Exit->Act->World->Prop} {l:List Oper} {E:Env} {M M' M0:List aL} {d:Nat} {t e ty:TypeId} {pos:String} {aft:Array Edge} {x y:Operand}
theorem JL.Gk{z:Value}{by' bl:Nat}{v:Value}{L:List Value}(q:Acc)(hu:P.underlying t=some (.slice e))(hi:EI P e z 1 by')(hq:q=none->L=[])(hx:ev E x=some (aD q L.length))(hy:ev E y=some (.slice (some ⟨bl,0,none⟩) 1 1))
  (h1:v.oneCell'=true) (hzz:z.cells.size=1) (hsm:(L.length+1)*by'<=140737488355328) (hsm2:L.length+1<9223372036854775808) (hd:Nat.blt d n=true)
  (kk:∀ b' cap',JL P n w0 S ops Q l ((d,aD (some (b',cap')) (L++[v]).length)::E) (bw e (some (b',cap')) (L++[v])++M0)) :
  JL P n w0 S ops Q (⟨some d,.call ⟨.builtin .append,#[x,y],#[t,t]⟩,ty,pos,aft,none⟩::l) E (⟨bl,Row e [v],true⟩::(bw e q L++M0)):=by
 rw[<- CA e q L]
 refine JL.F2 (c:=[v]) (L:=L.map fun v=>[v]) q hu hi (fun h=>by rw[hq h];rfl) (by rw[List.length_map];exact hx) hy rfl (fun u hu=>by rw[List.mem_singleton.1 hu];exact h1) hzz Y610 (by rw[List.length_map];exact hsm) (by rw[List.length_map];exact hsm2) hd fun b' cap'=>?_
 have:=kk b' cap'
 rw[<- CA] at this
 rw[show((L.map fun v=>[v])++[[v]]:List (List Value))=(L++[v]).map fun v=>[v] by rw[List.map_append];rfl,List.length_map]
 exact this
end
def QD(q:Acc)(rs:List ay):tK:=match q with
 | none=>⟨none,0,[]⟩
 | some p=>⟨some ⟨p.1,0,none⟩,p.2,rs⟩
theorem O3{q:Acc}{rs:List ay}:(QD q rs).v=aD q (rs.map ay.v).length:=by
 cases q with
 | none=>rfl
 | some p=>show Value.slice _ _ _=aD _ _;rw[List.length_map];rfl
theorem Av{q:Acc}{rs:List ay}(h:q=none->rs=[]):(QD q rs).rs=rs:=by
 cases q with
 | none=>rw[h rfl];rfl
 | some p=>rfl
theorem LI{e:TypeId}{q:Acc}{rs:List ay}{w0 w:World}{S:List Nat}{M:List aL}(hw:aa w0 S (bw e q (rs.map ay.v)++(bh rs++M)) w)(h0:∀ x∈rs,x.ad=none->x.l=[]):(QD q rs).ok w:=by
 cases q with
 | none=>exact⟨Nat.le_refl _,Reads.nil _ _,nofun⟩
 | some p=>
   have h1:aa w0 S ([⟨p.1,Sl.Own e 1 rs.length p.2 (rs.map ay.v),true⟩]++bh rs) w:=by
    refine Sl.aa.weak hw ?_
    show aj _ (⟨p.1,Sl.Own e 1 (rs.map ay.v).length p.2 (rs.map ay.v),true⟩::(bh rs++M))
    rw[List.length_map]
    exact .keep _ _ _ _ _ _ (fun _ h=>h) (bO _ _)
   exact MY (A:=[_]) h1 .here h0
end Sl
end
section
namespace Sl
section
variable {P:Program} {n:Nat} {w0:World} {S:List Nat} {ops:Array Oper} {Q:Exit->Act->World->Prop} {l:List Oper} {E:Env} {M:List aL}
variable {d:Nat} {t e ty:TypeId} {pos:String} {aft:Array Edge} {v z:Value} {x y:Operand} {sz by':Nat} {cs ds:List Value}
theorem CB{w:World}(hu:P.underlying t=some (.slice e))(hi:EI P e z sz by')(_hz:z.cells.size=sz)(h0:0<sz)(hsm:sz<=8388608)(hl:cs.length=sz)(hl2:ds.length=sz) :
  (Instr.buildSlice t 2 #[(0,.agg cs.toArray),(1,.agg ds.toArray)]).run P w=.ok (.slice (some ⟨w.heap.size,0,none⟩) 2 2) { w with heap:=w.heap.push (.cells (cs++ds).toArray e (0,0)) }:=by
 have h3:(underlying t).run P w=.ok (.slice e) w:=run_underlying hu w
 obtain⟨i,h4,h5,_⟩:=hi.get
 obtain⟨r,h6,h7,h8⟩:=Great.fill_dense h0 [.agg cs.toArray,.agg ds.toArray] 0 ((Array.range (2*sz)).map (z.cells[·%z.cells.size]!)) (by intro v hv;simp only[List.mem_cons,List.not_mem_nil,or_false] at hv;rcases hv with rfl|rfl <;> simp[Value.cells,hl,hl2]) Y614
 have hr:r=(cs++ds).toArray:=by
  apply Array.ext_getElem?
  intro k
  rw[h8 k]
  by_cases hk:k<2*sz
  · rw[if_pos Y624]
    by_cases h1:k<sz
    · rw[List.getElem?_toArray,List.getElem?_append_left Y609]
      simp[Nat.div_eq_of_lt h1,Nat.mod_eq_of_lt h1,Value.cells]
    · have e1:k / sz=1:=by
       rw[Nat.div_eq_iff h0];omega
      have e2:k%sz=k-sz:=by
       rw[Nat.mod_eq_sub_mod Y609,Nat.mod_eq_of_lt Y609]
      rw[List.getElem?_toArray,List.getElem?_append_right Y609,hl]
      simp[e1,e2,Value.cells]
  · rw[if_neg Y624,Array.getElem?_eq_none Y624,Array.getElem?_eq_none Y624]
 subst hr
 have h11:(zeroValue e).run P w=.ok z w:=by simp[zeroValue,typeInfo,h4,h5]
 have h12:¬ (16777216<2*sz):=by omega
 have h13:¬ (2*sz=0):=by omega
 have h14:¬ (sz=0):=by omega
 simp only[List.zipIdx_cons,List.zipIdx_nil,List.map_cons,List.map_nil] at h6
 simp[Instr.buildSlice,Sem.run_bind,h3,bR hi.sz,h11,h12,h13,h14,h6,newRow,newObj,Sem.run]
theorem JL.yQ(hu:P.underlying t=some (.slice e))(hi:EI P e z sz by')(hz:z.cells.size=sz)(h0:0<sz)(hsm:sz<=8388608)(hx:ev E x=some (.agg cs.toArray))(hy:ev E y=some (.agg ds.toArray))(hl:cs.length=sz)(hl2:ds.length=sz)(hd:Nat.blt d n=true)
  (k:∀ b,w0.heap.size<=b->JL P n w0 S ops Q l ((d,.slice (some ⟨b,0,none⟩) 2 2)::E) (⟨b,Row e (cs++ds),true⟩::M)):JL P n w0 S ops Q (⟨some d,.buildSlice t 2 #[(0,x),(1,y)],ty,pos,aft,none⟩::l) E M:=
 ⟨fun a w ha hw=>wpList_plain rfl fun K hK=>by
  unfold Oper.wp
  have hm:(#[(0,x),(1,y)]:Array (Nat × Operand)).map (fun (i,x)=>(i,a.eval x))=#[(0,.agg cs.toArray),(1,.agg ds.toArray)]:=by simp[ha.eval hx,ha.eval hy]
  simp only[execOp,hm,Sem.run_bind,CB hu hi hz h0 hsm hl hl2,Result.andThen_ok]
  exact hK _ _ ((k w.heap.size hw.aH.size).go _ _ (ha.put d _ hd) (hw.push _ rfl rfl rfl rfl rfl))⟩
end
end Sl
end
section
open Sl aq gZ
theorem LJ:EI Tryz.prog 63 (.agg (pc ([],[])).toArray) 2 32:=by unfold EI;kernel_rfl
section
variable {n:Nat} {E:Env} {C:World->Prop} {dst:Option Tmp} {ty:TypeId} {pos:String} {aft:Array Edge} {g:Option (Nat × Bool)} {x y z:Operand}
end
theorem EE:∀ {d:Nat} {w:World} {p:Part} {cs:List Value},dJ d w p cs->cs.all Value.oneCell'=true
 | _+1,_,_,_,⟨_,_,_,_,_,h,_⟩=>by rw[h];rfl
structure Uy where
 i:Nat
 cs:List Value
 M:List aL
end
section
open Sl aq gZ Tok
theorem CC:aJ Tryz.prog 85:=⟨_,Tryz.func85,rfl,by kernel_rfl⟩
theorem qJ:aJ Tryz.prog 47:=⟨_,Tryz.func47,rfl,by kernel_rfl⟩
theorem kg:gD Tryz.prog 3=true:=by kernel_rfl
structure WA (r:Except Nat (List Pr × List Bt)) where
 f:gm
 s:ay
 m:ay
 hf:f.l=Ew r
 hs:s.l=Ex r
 hm:∀ x,r=.ok x->m.l=bt x.1 x.2
 nf:f.ad=none->f.l=[]
 ns:s.ad=none->s.l=[]
 nm:m.ad=none->m.l=[]
def WA.an{r:Except Nat (List Pr × List Bt)}(x:WA r):List aL:=x.f.an++(x.s.an++x.m.an)
theorem WA.wr{r:Except Nat (List Pr × List Bt)}(x:WA r):∀ e∈x.an,e.wr=true:=fun e he=>by
 rcases List.mem_append.1 he with h|h
 · exact x.f.bH e h
 rcases List.mem_append.1 h with h|h
 · exact x.s.bH e h
 · exact x.m.bH e h
def WA.err{e:Nat}:WA (.error e):=⟨bV,aB,aB,rfl,rfl,nofun,fun _=>rfl,fun _=>rfl,fun _=>rfl⟩
def qK(Qe:List aq.By->List aq.By)(k others:Nat):Prop:=∀ (p:Part) (cs:List Value) (w:World),fz w->dJ (k+2) w p cs->Jk (k+1) p->Ir (k+2) p->
 Calls Tryz.prog 47 [.agg cs.toArray,N others].toArray w fun e w'=>∃ x:WA (cu Qe k p),e=.returned (.tuple #[.agg #[x.f.v,x.s.v],x.m.v,N (dG (cu Qe k p))])/\aa w [] x.an w'
def okB:Except Nat (List aq.By)->List aq.By
 | .ok b=>b
 | .error _=>[]
structure TJ where
 i:Nat
 qb:Acc
 qm:Acc
 rs:List ay
theorem QE(m A B X:List aL):(m++(A++(B++X))).Perm (B++(m++(A++X))):=
 (List.Perm.append_left m (bA A B X)).trans (bA m B _)
theorem QF(B m A X:List aL):(B++(m++(A++X))).Perm (A++(B++(m++X))):=
 (List.Perm.append_left B (bA m A X)).trans (bA B A _)
theorem EG(rs:List ay)(m:ay):bh (rs++[m])=bh rs++m.an:=by
 unfold bh
 rw[List.flatMap_append]
 simp
theorem QG(A B:List aL)(m:ay)(rs:List ay):(A++(B++(m.an++(bh rs++[])))).Perm (A++(B++(bh (rs++[m])++[]))):=by
 rw[EG,List.append_nil,List.append_nil]
 exact List.Perm.append_left A (List.Perm.append_left B List.perm_append_comm)
theorem EH(Qe:List aq.By->List aq.By)(k others:Nat)(hko:k+others=8)(ih:∀ k',k=k'+1->qK Qe k' (others+1))(p:Part)(cs:List Value)(w:World)(hE:fz w)(hp:dJ (k+2) w p cs)(hq:Jk (k+1) p)(hlo:Ir (k+2) p):Calls Tryz.prog 85 [.agg cs.toArray,N others].toArray w
  fun e w'=>∃ y:{ y:ay // iP y (okB (fO (mK Qe k) p)) },e=.returned (.tuple #[y.1.v,N (nG (fO (mK Qe k) p))])/\aa w [] y.1.an w':=by
 obtain⟨ps,body,ad,cap,bK,rfl,⟨okp,lp⟩,⟨okb,lb⟩,hcap,hr,hsl,hsub⟩:=hp
 obtain⟨l1,l2,l3,l4,l5,l6,l7,l8⟩:=hlo
 have hq2:=hq.2
 clear hq
 refine enter (n:=93) Tryz.func85 rfl rfl rfl (aa.start w []) ?_
 refine JC.seq (JC.region (JL.box (r:=[Z p.kind,ps.v,.int .i64 p.code,body.v,.slice ad p.parts.length cap]) rfl rfl rfl fun b2 _=>?_))
 have cf:=fun (M:List aL) (w':World) (hw':aa w [] M w')=>FD p.kind ps (.int .i64 p.code) body.v (.slice ad p.parts.length cap) w' (okp.holds hw' rfl) (by rw[lp];omega)
 rw[lp] at cf
 have hbl:(cJ p.ps fF).length<=1000:=by
  unfold cJ
  cases hf:p.ps.find? fun q=>decide (q.1=fF) with
  | none=>exact Nat.zero_le _
  | some q=>exact(l3 q (List.mem_of_find?_eq_some hf)).2
 generalize hbd:cJ p.ps fF=bd at cf hbl
 have cb:=fun w'=>vk bd w' Y609
 have hP:fO (mK Qe k) p=if p.parts=[]\/cG bd=false\/p.code≠0\/p.body≠[] then .error 3
   else match mK Qe k with
    | none=>.error 5
    | some g=>match fc g p.parts with
      | .error e=>.error e
      | .ok xs=>
        if de (jn bd (xs.map fun x=>bt x.1 x.2) []) bd=(xs.map (fun x=>bt x.1 x.2),0) then .ok (jn bd (xs.map fun x=>bt x.1 x.2) [])
        else .error 3:=by
  unfold fO
  rw[hbd]
  all_goals rfl
 have hpl:p.parts=[]↔p.parts.length=0:=List.length_eq_zero_iff.symm
 have hbo:p.body=[]↔body.l.length=0:=by rw[lb];exact List.length_eq_zero_iff.symm
 cases g1:decide ((p.parts.length:Int)=0)
 rotate_left
 · have hk:fO (mK Qe k) p=.error 3:=by rw[hP,if_pos (.inl (hpl.2 (by have:=of_decide_eq_true g1;omega)))]
   rw[hk]
   repeat(first|refine JL.q (by first|exact Y540|exact Y541|exact Y542|exact Y543|exact Y544|exact Y330|exact Y323|exact Y324|exact Y377) rfl ?_|refine JC.seq ?_|refine JC.region ?_|refine JL.nil ?_|refine JE.next ?_|refine JL.aM rfl rfl rfl rfl ?_)
   refine Y246 ?_
   refine Y3 ?_
   refine Y247 ?_
   refine Y250 ?_
   exact Y304
 cases hB:cG bd
 · have hk:fO (mK Qe k) p=.error 3:=by rw[hP,if_pos (.inr (.inl hB))]
   rw[hB] at cb
   rw[hk]
   repeat(first|refine JL.q (by first|exact Y540|exact Y541|exact Y542|exact Y544|exact Y451) rfl ?_|refine JL.bG rfl rfl ?_|refine JL.aM rfl rfl rfl rfl ?_|refine Y206 ?_)
   refine Y246 ?_
   refine Y3 ?_
   refine Y247 ?_
   refine Y250 ?_
   exact Y304
 rw[hB] at cb
 cases g2:decide (p.code=0)
 · have hk:fO (mK Qe k) p=.error 3:=by rw[hP,if_pos (.inr (.inr (.inl (of_decide_eq_false g2))))]
   rw[hk]
   repeat(first|refine JL.q (by first|exact Y540|exact Y541|exact Y542|exact Y544|exact Y451|exact Y545|exact Y546) rfl ?_|refine JL.bG rfl rfl ?_|refine JL.aM rfl rfl rfl rfl ?_|refine Y206 ?_)
   refine Y246 ?_
   refine Y3 ?_
   refine Y247 ?_
   refine Y250 ?_
   exact Y304
 cases g3:decide ((0:Int)<(body.l.length:Int))
 rotate_left
 · have hk:fO (mK Qe k) p=.error 3:=by rw[hP,if_pos (.inr (.inr (.inr (fun h=>by have:=hbo.1 h;have:=of_decide_eq_true g3;omega))))]
   rw[hk]
   repeat(first|refine JL.q Y748 rfl ?_|refine JL.bG rfl rfl ?_|refine Y207 ?_)
   refine Y246 ?_
   refine Y3 ?_
   refine Y247 ?_
   refine Y250 ?_
   exact Y304
 rw[if_neg (by
  rintro(h|h|h|h)
  · have:=hpl.1 h;have:=of_decide_eq_false g1;omega
  · rw[hB] at h;cases h
  · exact h (of_decide_eq_true g2)
  · exact h (hbo.2 (by have:=of_decide_eq_false g3;omega)))] at hP
 repeat(first|refine JL.q Y748 rfl ?_|refine JL.bG rfl rfl ?_|refine Y207 ?_)
 refine Y245 ?_
 cases k with
 | zero=>
   have hk:fO (mK Qe 0) p=.error 5:=hP
   rw[hk]
   have h8:decide ((8:Int)<=(others:Int))=true:=decide_eq_true Y609
   refine Y191 ?_
   refine Y246 ?_
   refine Y3 ?_
   refine Y247 ?_
   refine Y250 ?_
   exact Y304
 | succ k=>
 have ih:=ih k rfl
 have h8:decide ((8:Int)<=(others:Int))=false:=decide_eq_false Y609
 have hP:fO (mK Qe (k+1)) p=match fc (cu Qe k) p.parts with
     | .error e=>.error e
     | .ok xs=>
       if de (jn bd (xs.map fun x=>bt x.1 x.2) []) bd=(xs.map (fun x=>bt x.1 x.2),0) then .ok (jn bd (xs.map fun x=>bt x.1 x.2) [])
       else .error 3:=hP
 generalize fO (mK Qe (k+1)) p=R at hP
 have hbe:=fun w'=>xY bd w' Y609
 have hla:=fun w'=>vl bd w' Y609
 clear cf cb
 refine Y191 ?_
 refine Y245 ?_
 repeat(first|refine JL.q (by first|exact Y542|exact Y543|exact Y323|exact Y324|exact Y377) rfl ?_|refine JC.seq ?_|refine JC.region ?_|refine JC.block ?_|refine JC.skip ?_|refine JL.nil ?_|refine JE.next ?_)
 refine JC.loop (fun z:TJ=>[(1,N others),(6,Z bd),(7,aD z.qb ((upTo bd (z.rs.map ay.l)).map U8).length),(8,aD z.qm (z.rs.map ay.v).length),(41,.slice ad p.parts.length cap),(42,N p.parts.length),(43,N z.i)])
  (fun z=>bw 5 z.qb ((upTo bd (z.rs.map ay.l)).map U8)++(bw 22 z.qm (z.rs.map ay.v)++(bh z.rs++[]))) (fun z=>p.parts.length-z.i)
  (fun z=>z.i<=p.parts.length/\(z.qb=none->(upTo bd (z.rs.map ay.l)).map U8=[])/\(z.qm=none->z.rs=[])/\z.rs.length=z.i/\(∀ x∈z.rs,(x.ad=none->x.l=[])/\x.l.length<=2097152)/\∃ L,fc (cu Qe k) (p.parts.take z.i)=.ok L/\z.rs.map ay.l=L.map fun x=>bt x.1 x.2) ⟨0,none,none,[]⟩
  ⟨Nat.zero_le _,fun _=>rfl,fun _=>rfl,rfl,nofun,[],rfl,rfl⟩ Y640 (.nil _) ?_
 rintro⟨i,qb,qm,rs⟩ ⟨hi,hqb,hqm,hrl,hrs,L,hL,hLl⟩
 dsimp only at hi hqb hqm hrl hrs hLl hL⊢
 have hul:(upTo bd (rs.map ay.l)).length<=10600000:=by
  have h1:=Cz (bd:=bd) (l:=rs.map ay.l) (m:=2097152) (fun q hq=>by
   obtain⟨x,hx,rfl⟩:=List.mem_map.1 hq
   exact(hrs x hx).2)
  rw[List.length_map] at h1
  have h2:rs.length*(bd.length+2097152+6)<=5*(1000+2097152+6):=Nat.mul_le_mul Y609 Y609
  omega
 refine Y22 ?_
 refine JC.cond rfl (fun h=>?_) (fun h=>?_)
 · have hi':i<p.parts.length:=of_decide_eq_true h
   clear h
   obtain⟨ba,j,rfl,lt,hc⟩:=zT hr hsub (show i<bK.length by omega)
   have k1:=hsub i Y609
   have hqm':=Kj hi'
   have hnq:=hq2 _ hqm'
   have hlw:=l8 _ hqm'
   have htake:p.parts=p.parts.take i++p.parts.getD i default::p.parts.drop (i+1):=by rw[<- drop_at default hi',List.take_append_drop]
   have htk:p.parts.take (i+1)=p.parts.take i++[p.parts.getD i default]:=by
    rw[List.take_add_one,List.getElem?_eq_getElem hi',List.getD_eq_getElem?_getD,List.getElem?_eq_getElem hi']
    rfl
   have c5:=k1.len
   have c1:=EE k1
   have cw:=fun (M:List aL) (w':World) (hw':aa w [] M w')=>ih (p.parts.getD i default) (bK.getD i []) w' (hE.holds hw') (k1.ext hw'.aH) hnq hlw
   generalize p.parts.getD i default=q at cw htake htk
   generalize bK.getD i []=c at hc c5 c1 cw
   clear k1 hnq hlw
   repeat(first|refine JL.q (by first|exact Y548|(apply OQ.bE (cs:=c);exact TW;rfl;exact(by rw[c5];exact iE);exact lt;exact Y614;exact hc)) rfl ?_|refine Y90 ?_)
   refine JL.alloc (r:=pz) ?_ ?_ fun b10 _=>?_
   exact tr
   rfl
   refine JL.ax (cs:=c) iE rfl rfl c5 c1 .here rfl ?_
   repeat(first|refine JL.q (by first|(apply OQ.aF (cs:=c);exact gx;exact iE;rfl;exact .here;exact c5;exact Row.all)|exact Y323|exact Y337) rfl ?_|refine JC.seq ?_|refine JC.region ?_|refine JL.nil ?_|refine JE.next ?_)
   refine JL.bD (ι:=WA (cu Qe k q)) (vs:=[.agg c.toArray,N (others+1)]) (fun x=>.tuple #[.agg #[x.f.v,x.s.v],x.m.v,N (dG (cu Qe k q))]) (fun x=>x.an) qJ rfl rfl (fun x=>x.wr) (cw _) ?_
   intro x
   refine JL.less (M':=x.m.an++(bw 5 qb ((upTo bd (rs.map ay.l)).map U8)++(bw 22 qm (rs.map ay.v)++(bh rs++[])))) (by rw[WA.an,List.append_assoc,List.append_assoc];exact aS _ (aS _ (bI (.drop _ _ _ (aj.refl _)) _))) ?_
   refine Y285 ?_
   refine JL.alloc iB rfl fun b11 _=>?_
   refine Y305 ?_
   have hcp:(∃ e,cu Qe k q=.error e)\/(∃ y,cu Qe k q=.ok y):=by
    cases cu Qe k q with
    | error e=>exact .inl ⟨e,rfl⟩
    | ok q=>exact .inr ⟨q,rfl⟩
   rcases hcp with⟨e,he⟩|⟨⟨fq,bq⟩,he⟩
   · have hk:dG (cu Qe k q)=e:=by rw[he];rfl
     have hne0:=yO Qe k he
     have hM:fc (cu Qe k) p.parts=.error e:=by
      rw[htake]
      exact vU hL he
     rw[hM] at hP
     obtain rfl:R=.error e:=hP
     have hne:decide ((e:Int)=0)=false:=decide_eq_false Y609
     rw[hk]
     refine Y193 ?_
     refine Y246 ?_
     refine Y24 ?_
     refine Y247 ?_
     refine Y2 ?_
     exact Y304
   · have hk:dG (cu Qe k q)=0:=by rw[he];rfl
     have hml:x.m.l=bt fq bq:=x.hm _ he
     have hm2:x.m.l.length<=2097152:=by rw[hml];exact s9 (Cy Qe k he)
     have h00:decide (((0:Nat):Int)=0)=true:=rfl
     rw[hk]
     refine Y194 ?_
     refine Y245 ?_
     have hfs:=x.nm
     have hLl2:(rs++[x.m]).map ay.l=(L++[(fq,bq)]).map fun x=>bt x.1 x.2:=by rw[List.map_append,List.map_append,hLl];show _++[x.m.l]=_;rw[hml];rfl
     clear hml
     generalize x.m=m at hm2 hfs hLl2
     refine Y94 ?_
     refine JL.q9 (v:=m.v) Tryz.underlying93 qz rfl rfl rfl rfl fun bl _=>?_
     refine JL.less (M':=⟨bl,Row 22 [m.v],true⟩::(m.an++(bw 5 qb ((upTo bd (rs.map ay.l)).map U8)++(bw 22 qm (rs.map ay.v)++(bh rs++[]))))) (.keep _ _ _ _ _ _ (fun _ h=>h) (.drop _ _ _ (aj.refl _))) ?_
     refine JL.perm (M':=⟨bl,Row 22 [m.v],true⟩::(bw 22 qm (rs.map ay.v)++(m.an++(bw 5 qb ((upTo bd (rs.map ay.l)).map U8)++(bh rs++[]))))) ?_ (List.Perm.cons _ (QE _ _ _ _))
     have hvl:(rs.map ay.v).length=rs.length:=List.length_map _
     refine JL.Gk (L:=rs.map ay.v) (v:=m.v) qm Tryz.underlying93 qz (fun h=>by rw[hqm h];rfl) rfl rfl rfl rfl Y749 Y749 rfl fun b' cap'=>?_
     refine JL.perm (M':=bw 5 qb ((upTo bd (rs.map ay.l)).map U8)++(bw 22 (some (b',cap')) (rs.map ay.v++[m.v])++(m.an++(bh rs++[])))) ?_ (QF _ _ _ _)
     rw[show rs.map ay.v++[m.v]=(rs++[m]).map ay.v by rw[List.map_append];rfl]
     have hxl:(45::45::bd++[13,10]:List Bt).length=bd.length+4:=by simp
     have hul2:((upTo bd (rs.map ay.l)).map U8).length<=10600000:=by rw[List.length_map];exact hul
     repeat(first|refine JL.q (by first|(apply OQ.ai (vs:=[Z bd]);exact vj;rfl;exact(fun w' _=>hbe w'))|(apply OQ.fH (l:=45::45::bd) (r:=[13,10]);rfl;rfl;exact Y624)) rfl ?_|refine Y0 ?_)
     refine JL.jB (r:=45::45::bd++[13,10]) (xs:=(upTo bd (rs.map ay.l)).map U8) qb Tryz.underlying22 Tryz.underlying9 dV hqb rfl rfl nofun Y744 rfl fun p1=>?_
     have e1:((upTo bd (rs.map ay.l)).map U8++(45::45::bd++[13,10]).map U8).length<=10700000:=by simp only[List.length_append,List.length_map,List.length_cons,List.length_nil];omega
     refine Y24 ?_
     refine JL.je (z:=.int .u8 0) (by':=1) (m:=m.l.length) (cs:=m.l.map U8) (some p1) Tryz.underlying22 dV nofun rfl rfl (List.length_map _) (fun w' hw'=>(ay.bU (Sl.aa.weak hw' (aS _ (aS _ (aj.refl _)))) hfs).reads) (fun v hv=>by obtain⟨c,_,rfl⟩:=List.mem_map.1 hv;rfl) rfl Y609 Y609 rfl fun q2 hq2=>?_
     have e2:(((upTo bd (rs.map ay.l)).map U8++(45::45::bd++[13,10]).map U8)++m.l.map U8).length<=12900000:=by rw[List.length_append];have:(m.l.map U8).length=m.l.length:=List.length_map _;omega
     refine Y124 ?_
     refine JL.jB (r:=[13,10]) q2 Tryz.underlying22 Tryz.underlying9 dV hq2 rfl rfl nofun (by show _+2<=_;omega) rfl fun p3=>?_
     have e3:(((upTo bd (rs.map ay.l)).map U8++(45::45::bd++[13,10]).map U8)++m.l.map U8)++([13,10]:List Bt).map U8=(upTo bd ((rs++[m]).map ay.l)).map U8:=by
      rw[List.map_append (l₁:=rs),show [m].map ay.l=[m.l] from rfl,yP]
      simp only[List.map_append,List.append_assoc]
     rw[e3]
     clear e1 e2 e3 hxl hul2 hq2
     refine Y18 ?_
     refine JE.perm (M':=bw 5 (some p3) ((upTo bd ((rs++[m]).map ay.l)).map U8)++(bw 22 (some (b',cap')) ((rs++[m]).map ay.v)++(bh (rs++[m])++[]))) (QG _ _ _ _) ?_
     refine JE.again (i:=TJ.mk i qb qm rs) (TJ.mk (i+1) (some p3) (some (b',cap')) (rs++[m])) ⟨hi',nofun,nofun,?_,fun x hx=>?_,L++[(fq,bq)],?_,hLl2⟩ (by show p.parts.length-(i+1)<p.parts.length-i;omega) Y640 (aj.refl _)
     · show(rs++[m]).length=i+1
       rw[List.length_append,hrl];rfl
     · rcases List.mem_append.1 hx with h|h
       · exact hrs x h
       · rw[List.mem_singleton.1 h];exact⟨hfs,hm2⟩
     · show fc _ (p.parts.take (i+1))=_
       rw[htk]
       exact yw hL he
 · have hi':¬ i<p.parts.length:=of_decide_eq_false h
   obtain rfl:i=p.parts.length:=by omega
   rw[List.take_length] at hL
   rw[hL] at hP
   dsimp only at hP
   rw[<- hLl] at hP
   have hxl:(45::45::(bd++[45,45])++[13,10]:List Bt).length=bd.length+6:=by simp
   have hul2:((upTo bd (rs.map ay.l)).map U8).length<=10600000:=by rw[List.length_map];exact hul
   have hjl:(jn bd (rs.map ay.l) []).length<=10700000:=by
    show(upTo bd (rs.map ay.l)++(45::45::(bd++[45,45])++[13,10])).length<=_
    rw[List.length_append,hxl];omega
   have hjn:(upTo bd (rs.map ay.l)).map U8++(45::45::(bd++[45,45])++[13,10]:List Bt).map U8=(jn bd (rs.map ay.l) []).map U8:=(List.map_append).symm
   repeat(first|refine JL.q (by first|(apply OQ.ai (vs:=[Z bd]);exact sJ;rfl;exact(fun w' _=>hla w'))|(apply OQ.fH (l:=45::45::(bd++[45,45])) (r:=[13,10]);rfl;rfl;exact Y624)) rfl ?_|refine Y171 ?_)
   refine JL.jB (r:=45::45::(bd++[45,45])++[13,10]) (xs:=(upTo bd (rs.map ay.l)).map U8) qb Tryz.underlying22 Tryz.underlying9 dV hqb rfl rfl nofun Y744 rfl fun p1=>?_
   rw[hjn]
   clear hjn hxl hul2
   generalize jn bd (rs.map ay.l) []=B at hjl hP
   have cs8:∀ w',aa w [] (bw 5 (some p1) (B.map U8)++(bw 22 qm (rs.map ay.v)++(bh rs++[]))) w'->Calls Tryz.prog 137 [aD (some p1) (B.map U8).length,Z bd].toArray w' fun e w2=>∃ z:IX (de B bd).1,e=.returned (.tuple #[z.v,N (de B bd).2])/\aa w' [] z.an w2:=fun w' hw'=>by
    have ok:(eO (some p1) B).ok w':=(m9 hw')
    have h1:=vR (eO (some p1) B) bd w' ok Y750 hbl
    rw[iV] at h1
    rw[List.length_map]
    exact h1
   have hc0:(de B bd).2=0\/(de B bd).2≠0:=by omega
   have hnl:(de B bd).1.length<=10700002:=by
    have h0:=lM B []
    have h1:=qx (fun x=>aX bd x.1 != 1) (di B)
    unfold de
    rw[if_neg Y742]
    cases ho:fD bd ((di B).dropWhile fun x=>aX bd x.1 != 1) [] with
    | none=>exact Nat.zero_le _
    | some out=>
      obtain⟨h2,_⟩:=vJ bd _ _ [] out (Nat.le_refl _) ho
      have:(di B).length<=B.length+1:=h0.2
      have e0:([]:List (List aq.By)).length=0:=rfl
      show out.length<=_
      omega
   generalize hsp:de B bd=S at cs8 hP hc0 hnl
   obtain⟨ys,kc⟩:=S
   dsimp only at cs8 hc0 hnl
   refine Y24 ?_
   refine JL.bD (ι:=IX ys) (vs:=[aD (some p1) (B.map U8).length,Z bd]) (fun z=>.tuple #[z.v,N kc]) (fun z=>z.an) qy rfl rfl (fun z=>z.wr) cs8 ?_
   intro sp
   rcases hc0 with rfl|hk0
   rotate_left
   · have hne:decide ((kc:Int)=0)=false:=decide_eq_false Y609
     rw[if_neg (fun h=>by cases h;exact hk0 rfl)] at hP
     subst hP
     repeat(first|refine JL.q Y743 rfl ?_|refine JL.aM rfl rfl rfl rfl ?_|refine Y95 ?_)
     refine Y246 ?_
     refine Y3 ?_
     refine Y247 ?_
     refine Y250 ?_
     exact Y304
   have h00:decide (((0:Nat):Int)=0)=true:=rfl
   have hls1:(QD sp.q sp.rs).ls=ys:=by unfold tK.ls;rw[Av sp.hq];exact sp.hrs
   have hls2:(QD qm rs).ls=rs.map ay.l:=by unfold tK.ls;rw[Av hqm]
   have ce:∀ w',aa w [] (sp.an++(bw 5 (some p1) (B.map U8)++(bw 22 qm (rs.map ay.v)++(bh rs++[])))) w'->Calls Tryz.prog 138 [sp.v,aD qm (rs.map ay.v).length,.func (.func 139) #[] #[]].toArray w' fun e w2=>e=.returned (.bool (decide (ys=rs.map ay.l)))/\Ext w' w2:=fun w' hw'=>by
    have ok1:(QD sp.q sp.rs).ok w':=LI (M:=bw 5 (some p1) (B.map U8)++(bw 22 qm (rs.map ay.v)++(bh rs++[]))) (by rw[<- List.append_assoc];exact hw') sp.h0
    have Mo:(QD qm rs).ok w':=LI (M:=[]) (Sl.aa.weak hw' (aS _ (aS _ (aj.refl _)))) (fun x hx=>(hrs x hx).1)
    have e:sp.rs.length=ys.length:=by rw[<- List.length_map (f:=ay.l),sp.hrs]
    have h1:=Oc _ _ w' ok1 Mo (by rw[Av sp.hq];omega) (by rw[Av hqm];omega)
    rw[hls1,hls2,O3,O3] at h1
    exact h1
   cases hEq:decide (ys=rs.map ay.l)
   · rw[hEq] at ce
     rw[if_neg (fun h=>of_decide_eq_false hEq (by cases h;rfl))] at hP
     subst hP
     repeat(first|refine JL.q (by first|exact Y524|exact Y549) rfl ?_|refine JL.bG rfl rfl ?_|refine Y56 ?_)
     refine Y246 ?_
     refine Y3 ?_
     refine Y247 ?_
     refine Y250 ?_
     exact Y304
   · rw[hEq] at ce
     rw[if_pos (by rw[of_decide_eq_true hEq])] at hP
     subst hP
     repeat(first|refine JL.q (by first|exact Y524|exact Y549) rfl ?_|refine JL.bG rfl rfl ?_|refine Y56 ?_)
     refine Y245 ?_
     refine Y5 ?_
     refine Y247 ?_
     skip
     refine JE.aV rfl (RV.tmp rfl) (RV.tmp rfl) fun w' hw=>⟨⟨eO (some p1) B,⟨rfl,nofun⟩⟩,?_,?_⟩
     · show _=Ending.returned (.tuple #[(eO (some p1) B).v,_])
       rw[iV,List.length_map]
       rfl
     · exact(Sl.aa.weak hw (aS _ (bO _ _))).weak (iW (some p1) B)
end
section
open Sl aq Tok gZ
namespace gZ
end gZ
theorem O4:gD Tryz.prog 27=true:=by kernel_rfl
section
variable {P:Program} {n:Nat} {w0:World} {S:List Nat} {ops:Array Oper} {Q:Exit->Act->World->Prop} {l:List Oper} {E:Env} {M M' M0:List aL} {d:Nat} {t e ty:TypeId} {pos:String} {aft:Array Edge} {x y:Operand}
theorem JL.nI{z:Value}{by' bl k c:Nat}{L2 L:List Pr}(q:Acc)(hu:P.underlying t=some (.slice e))(hi:EI P e z 2 by')(hq:q=none->L=[])(hk:L2.length=k)(h0:0<k)(hx:ev E x=some (aD q L.length))(hy:ev E y=some (.slice (some ⟨bl,0,none⟩) k c))
  (hzz:z.cells.size=2) (hsm:(L.length+k)*by'<=140737488355328) (hsm2:L.length+k<9223372036854775808) (hd:Nat.blt d n=true)
  (kk:∀ b' cap',JL P n w0 S ops Q l ((d,aD (some (b',cap')) (L++L2).length)::E) (dr e (some (b',cap')) (L++L2)++M0)) :
  JL P n w0 S ops Q (⟨some d,.call ⟨.builtin .append,#[x,y],#[t,t]⟩,ty,pos,aft,none⟩::l) E (⟨bl,Row e (L2.flatMap pc),true⟩::(dr e q L++M0)):=by
 have hr:∀ w,aa w0 S (⟨bl,Row e (L2.flatMap pc),true⟩::(dr e q L++M0)) w->Reads w (some ⟨bl,0,none⟩) (L2.flatMap pc):=fun w hw=>by
  obtain⟨o,ho,hA⟩:=hw.get (b:=bl) (A:=Row e (L2.flatMap pc)) (wr:=true) .here
  exact Y242
 have eN:(L++L2).length=L.length+k:=by rw[List.length_append,hk]
 have eF:(L++L2).flatMap pc=L.flatMap pc++L2.flatMap pc:=List.flatMap_append
 have eL:(L2.flatMap pc).length=k*2:=by rw[zQ,hk];omega
 have h1:∀ v∈L2.flatMap pc,v.oneCell'=true:=fun v hv=>by obtain⟨p,_,hp⟩:=List.mem_flatMap.1 hv;exact Sl.u5 v hp
 cases q with
 | none=>
   obtain rfl:=hq rfl
   refine JL.append_nil (cs:=L2.flatMap pc) (m:=k) hu hi hx hy eL hr h0 hzz Y610 Y639 (by simpa using hsm2) hd fun b' cap' _=>?_
   have:=kk b' cap'
   rw[show aD (some (b',cap')) ([]++L2:List Pr).length=Value.slice (some ⟨b',0,none⟩) k cap' by rw[List.nil_append,hk];rfl] at this
   refine this.kC ?_
   show aj (⟨b',Sl.Own e 2 ([]++L2:List Pr).length cap' (([]++L2:List Pr).flatMap pc),true⟩::M0) _
   rw[List.nil_append,hk]
   exact .keep _ _ _ _ _ _ (fun o h=>h) (.drop _ _ _ (aj.refl _))
 | some r=>
   refine JL.append (cs:=L2.flatMap pc) (m:=k) (b:=r.1) (cap:=r.2) (k:=L.length) (xs:=L.flatMap pc) (fun b' cap'=>⟨bl,Row e (L2.flatMap pc),true⟩::(dr e (some (b',cap')) (L++L2)++M0)) hu hi hx hy (fun b' cap'=>?_) eL hr h1 hzz Y610 hsm hsm2 hd fun b' cap'=>?_
   · show aR (_::⟨r.1,Sl.Own e 2 L.length r.2 (L.flatMap pc),true⟩::M0) _ _ _ _ (_::⟨b',Sl.Own e 2 (L++L2).length cap' ((L++L2).flatMap pc),true⟩::M0)
     rw[eN,eF]
     exact .there .here
   · have:=kk b' cap'
     rw[show aD (some (b',cap')) (L++L2).length=Value.slice (some ⟨b',0,none⟩) (L.length+k) cap' by rw[eN];rfl] at this
     exact this.kC (.drop _ _ _ (aj.refl _))
end
section
variable {n:Nat} {E:Env} {C:World->Prop} {dst:Option Tmp} {ty:TypeId} {pos:String} {aft:Array Edge} {g:Option (Nat × Bool)} {x y:Operand}
theorem LK{s:ay}(hx:ev E x=some s.v):OQ Tryz.prog n E C ⟨dst,.build 29 #[(1,x)],ty,pos,aft,g⟩ (.agg #[bV.v,s.v]):=by
 refine OQ.run fun k hk w _=>?_
 have h1:=hk.eval hx
 have h3:=run_build (P:=Tryz.prog) w 29 #[(1,s.v)] #[bV.v,s.v] Y636
 simp[execOp,h1,Sem.run_bind,h3]
end
structure Uz where
 i:Nat
 o:List Pr
 q:Acc
end
section
open Sl aq gZ Tok
theorem qL:aJ Tryz.prog 15:=⟨_,Tryz.func15,rfl,by kernel_rfl⟩
theorem CD:∀ v:List aq.By,(esc v).length<=2*v.length
 | []=>Nat.le_refl _
 | c::v=>by
   have:=CD v
   show((if c=34\/c=92 then [92,c] else [c])++esc v:List aq.By).length<=_
   rw[List.length_append,List.length_cons]
   split <;> simp only[List.length_cons,List.length_nil] <;> omega
theorem Iy(p:List aq.By × List aq.By):(jR p).length<=p.1.length+2*p.2.length+5:=by
 have:=CD p.2
 unfold jR
 split <;> simp only[List.length_append,List.length_cons,List.length_nil] <;> omega
theorem yR(b:Nat):∀ l:List (List aq.By × List aq.By),(∀ p∈l,p.1.length<=b/\p.2.length<=b)->(l.flatMap jR).length<=(3*b+5)*l.length
 | [],_=>Nat.le_refl _
 | p::l,h=>by
   have h1:=Iy p
   have h2:=h p Y614
   have h3:=yR b l fun q hq=>h q Y618
   rw[List.flatMap_cons,List.length_append,List.length_cons,Nat.mul_succ]
   omega
theorem wH{e:TypeId}{p:Pr}:∀ o,Row e (pc p) o->Sl.Own e 2 1 1 ([p].flatMap pc) o:=by
 rintro o rfl
 exact⟨[],by simp[pc],by simp[pc],by simp[pc],Nat.le_refl _⟩
theorem Gl(f:List aq.fP)(b:List aq.By):(bJ f b=0/\mV f b=.ok (f,b))\/(bJ f b≠0/\mV f b=.error (bJ f b)):=by
 unfold mV
 by_cases h:bJ f b=0
 · exact .inl ⟨h,if_pos h⟩
 · exact .inr ⟨h,if_neg h⟩
theorem QH(Y A B:List aL):(Y++(A++(B++[]))).Perm (A++(B++(Y++[]))):=by
 rw[List.append_nil,List.append_nil,<- List.append_assoc A B Y]
 exact List.perm_append_comm
theorem QI(Z A B Y:List aL):(Z++(A++(B++(Y++[])))).Perm (A++(B++(Y++(Z++[])))):=by
 rw[List.append_nil,List.append_nil,<- List.append_assoc B Y Z,<- List.append_assoc A (B++Y) Z]
 exact List.perm_append_comm
theorem EJ(a b:aL)(L:List aL):(a::b::(L++[])).Perm (L++[a,b]):=by
 rw[List.append_nil]
 exact List.perm_append_comm (l₁:=[a,b]) (l₂:=L)
theorem LL(Y:List aL)(a b:aL)(B:List aL):(Y++(a::b::(B++[]))).Perm (a::b::(B++(Y++[]))):=QH Y [a,b] B
theorem LM(Z:List aL)(a b:aL)(B Y:List aL):(Z++(a::b::(B++(Y++[])))).Perm (a::b::(B++(Y++(Z++[])))):=QI Z [a,b] B Y
theorem ot{A' A:List aL}(h:aj A' A)(B:List aL):aj (A'++B) (A++B):=by
 induction h with
 | nil M=>exact aS M (aj.refl _)
 | keep _ _ _ _ _ _ h _ ih=>exact .keep _ _ _ _ _ _ h ih
 | drop _ _ _ _ ih=>exact .drop _ _ _ ih
theorem CE{α β:Type}{f:α->Except Nat β}:∀ {l:List α} {xs:List β},fc f l=.ok xs->xs.length=l.length/\∀ x∈xs,∃ a,f a=.ok x
 | [],xs,h=>by cases h;exact⟨rfl,nofun⟩
 | a::l,xs,h=>by
   unfold fc at h
   cases e1:f a with
   | error e=>rw[e1] at h;cases h
   | ok y=>
     rw[e1] at h
     cases e2:fc f l with
     | error e=>rw[e2] at h;cases h
     | ok ys=>
       rw[e2] at h
       cases h
       obtain⟨h1,h2⟩:=CE e2
       refine⟨by rw[List.length_cons,List.length_cons,h1],fun x hx=>?_⟩
       rcases List.mem_cons.1 hx with rfl|hx
       · exact⟨a,e1⟩
       · exact h2 x hx
theorem EK(Qe:List aq.By->List aq.By)(k:Nat){p:Part}{b:List aq.By}(h:fO (mK Qe k) p=.ok b)(hb:(cJ p.ps fF).length<=1000)(h5:p.parts.length<=5):b.length<=10700000:=by
 unfold fO at h
 split at h
 · cases h
 · split at h
   · cases h
   · rename_i g hg
     split at h
     · cases h
     · rename_i xs hx
       split at h
       · cases h
         obtain⟨n1,n2⟩:=CE hx
         have h1:=Cz (bd:=cJ p.ps fF) (l:=xs.map fun x:List aq.fP × List aq.By=>bt x.1 x.2) (m:=2097152) (fun q hq=>by
          obtain⟨x,hx,rfl⟩:=List.mem_map.1 hq
          obtain⟨a,ha⟩:=n2 x hx
          cases k with
          | zero=>cases hg
          | succ k=>cases hg;exact s9 (Cy Qe k ha))
         rw[List.length_map] at h1
         have h2:xs.length*((cJ p.ps fF).length+2097152+6)<=5*(1000+2097152+6):=Nat.mul_le_mul Y609 Y609
         show(upTo (cJ p.ps fF) (xs.map fun x:List aq.fP × List aq.By=>bt x.1 x.2)++(45::45::(cJ p.ps fF++[45,45])++[13,10])).length<=_
         rw[List.length_append]
         have h3:(45::45::(cJ p.ps fF++[45,45])++[13,10]:List aq.By).length=(cJ p.ps fF).length+6:=by simp
         omega
       · cases h
theorem wI(Qe:List aq.By->List aq.By)(k others:Nat)(hko:k+others=8)(ih:∀ k',k=k'+1->qK Qe k' (others+1)):qK Qe k others:=by
 intro p cs w hE hp hq hlo
 have cwp:=fun (M:List aL) (w':World) (hw':aa w [] M w')=>EH Qe k others hko ih p cs w' (hE.holds hw') (hp.ext hw'.aH) hq hlo
 obtain⟨ps,body,ad,cap,bK,rfl,⟨okp,lp⟩,⟨okb,lb⟩,hcap,hr,hsl,hsub⟩:=hp
 obtain⟨l1,l2,l3,l4,l5,l6,l7,l8⟩:=hlo
 have hq0:=hq.1
 clear hq ih l8 hsub hr
 have hv:(dj p.kind p.ps).length<=40000:=by
  have h1:=yR 1000 p.ps (fun q hq=>l3 q hq)
  have h2:(3*1000+5)*p.ps.length<=(3*1000+5)*10:=Nat.mul_le_mul_left _ l2
  unfold dj
  rw[List.length_append]
  omega
 have ct:=fun (M:List aL) (w':World) (hw':aa w [] M w')=>EC p.kind ps w' (okp.holds hw' rfl) Y609 (by rw[lp];omega) (fun q hq=>by rw[lp] at hq;have:=l3 q hq;omega)
 rw[lp] at ct
 refine enter (n:=75) Tryz.func47 rfl rfl rfl (aa.start w []) ?_
 refine JC.seq (JC.region (JL.box (r:=[Z p.kind,ps.v,.int .i64 p.code,body.v,.slice ad p.parts.length cap]) rfl rfl rfl fun b2 _=>?_))
 refine JL.alloc iB rfl fun b4 _=>?_
 have h30:decide (((3:Nat):Int)=0)=false:=rfl
 have h00:decide (((0:Nat):Int)=0)=true:=rfl
 cases hR:dQ p.kind p.ps
 · rw[hR,if_neg Y610,if_neg Y610] at ct
   rw[jH Qe k hR]
   repeat(first|refine JL.q (by first|exact Y550|exact Y551|exact Y552|(apply OQ.fh (a:=((3:Nat):Int)) (b:=0);rfl;rfl;exact h30)) rfl ?_|refine Y208 ?_)
   refine Y246 ?_
   refine Y209 ?_
   refine Y307 ?_
   refine Y39 ?_
   refine Y247 ?_
   refine Y250 ?_
   exact Y308
 rw[hR,if_pos rfl,if_pos rfl] at ct
 generalize hWv:dj p.kind p.ps=W at ct hv
 repeat(first|refine JL.q (by first|exact Y550|exact Y551|exact Y552|exact Y524) rfl ?_|refine Y208 ?_)
 refine Y245 ?_
 repeat(first|refine JL.q (by exact Y553) rfl ?_|refine Y128 ?_)
 refine JL.w4 (cs:=pc (cF,W)) Tryz.underlying27 fN rfl (by decide) (by decide) rfl rfl rfl fun b5 _=>?_
 refine Y303 ?_
 refine JL.aP (b:=b4) (r:=[bV.v,aB.v]) (r':=[aD (some (b5,1)) [(cF,W)].length,aB.v]) rfl rfl rfl rfl rfl (.there .here) (show 0<2 from Nat.zero_lt_succ _) rfl ?_
 refine JL.perm (M':=⟨b4,Row 29 [aD (some (b5,1)) [(cF,W)].length,aB.v],true⟩::⟨b2,Row 59 [Z p.kind,ps.v,.int .i64 p.code,body.v,.slice ad p.parts.length cap],true⟩::[⟨b5,Row 65 (pc (cF,W)),true⟩]) ?_ (List.perm_append_comm (l₁:=[_]) (l₂:=[_,_]))
 refine JL.less (M':=⟨b4,Row 29 [aD (some (b5,1)) [(cF,W)].length,aB.v],true⟩::⟨b2,Row 59 [Z p.kind,ps.v,.int .i64 p.code,body.v,.slice ad p.parts.length cap],true⟩::(dr 65 (some (b5,1)) [(cF,W)]++[])) (.keep _ _ _ _ _ _ (fun _ h=>h) (.keep _ _ _ _ _ _ (fun _ h=>h) (.keep _ _ _ _ _ _ (fun o h=>wH o h) (.nil _)))) ?_
 have ch:=fun w'=>BK p.kind ps.v (.int .i64 p.code) body.v (.slice ad p.parts.length cap) rfl w'
 cases hMu:fo p.kind
 · rw[hMu] at ch
   have hLeaf:=kK Qe k hR hMu
   have hc:p.code=0\/p.code=1:=by omega
   have hn:Hl p.code=some (C2 p.code):=by rcases hc with h|h <;> rw[h] <;> rfl
   have cn:=fun (M:List aL) (w':World) (hw':aa w [] M w')=>DL p.code w' (hE.holds hw')
   rw[hn] at cn
   have hcl:(C2 p.code).length<=100:=by rcases hc with h|h <;> rw[h] <;> decide
   generalize hCe:C2 p.code=C at cn hcl hLeaf
   have cb:=fun (M:List aL) (w':World) (hw':aa w [] M w')=>Iw Qe p.kind ps.v (.slice ad p.parts.length cap) p.code body w' rfl (okb.holds hw' rfl) (by rw[lb];omega) hc
   have hbw:(gd Qe p.code body.l).length<=1000000:=by
    unfold gd
    rcases hc with h|h
    · rw[h,if_neg Y610,if_neg Y610,lb];omega
    · rw[h,if_pos rfl]
      have h1:=bQ.tE (bQ.bC body.l) (bQ.bC body.l).length
      have h2:=bQ.jX body.l
      unfold bQ.e6
      rw[lb] at h1 h2⊢
      omega
   rw[lb] at cb hbw
   rw[hWv] at hLeaf
   generalize gd Qe p.code p.body=BB at cb hLeaf hbw
   cases g1:decide ((0:Int)<(p.parts.length:Int))
   rotate_left
   · rw[if_pos (.inr (.inr (fun h=>by rw[h] at g1;cases g1)))] at hLeaf
     rw[hLeaf]
     refine Y210 ?_
     refine Y245 ?_
     repeat(first|refine JL.q Y751 rfl ?_|refine JL.bG rfl rfl ?_|refine Y211 ?_)
     refine Y246 ?_
     refine Y212 ?_
     refine Y307 ?_
     refine Y39 ?_
     refine Y247 ?_
     refine Y250 ?_
     exact Y308
   rw[if_neg (by
    rintro(h|h|h)
    · omega
    · omega
    · exact h (List.length_eq_zero_iff.1 (by have:=of_decide_eq_false g1;omega)))] at hLeaf
   refine Y210 ?_
   refine Y245 ?_
   repeat(first|refine JL.q Y751 rfl ?_|refine JL.bG rfl rfl ?_|refine Y211 ?_)
   refine Y245 ?_
   repeat(first|refine JL.q (by first|exact Y557|(apply OQ.gU (a:=fu) (b:=C);rfl;rfl)) rfl ?_|refine Y190 ?_)
   refine JL.w4 (cs:=pc (fu,C)) Tryz.underlying27 fN rfl Y610 Y610 rfl rfl rfl fun b6 _=>?_
   refine JL.perm (M':=⟨b6,Row 65 ([(fu,C)].flatMap pc),true⟩::(dr 65 (some (b5,1)) [(cF,W)]++[⟨b4,Row 29 [aD (some (b5,1)) [(cF,W)].length,aB.v],true⟩,⟨b2,Row 59 [Z p.kind,ps.v,.int .i64 p.code,body.v,.slice ad p.parts.length cap],true⟩])) ?_ (List.Perm.cons _ (EJ _ _ _))
   refine JL.nI (L2:=[(fu,C)]) (L:=[(cF,W)]) (some (b5,1)) Tryz.underlying27 fN nofun rfl (Nat.zero_lt_succ _) rfl rfl rfl Y752 (by show 1+1<9223372036854775808;decide) rfl fun b7 cap7=>?_
   refine JL.perm (M':=⟨b4,Row 29 [aD (some (b5,1)) [(cF,W)].length,aB.v],true⟩::⟨b2,Row 59 [Z p.kind,ps.v,.int .i64 p.code,body.v,.slice ad p.parts.length cap],true⟩::(dr 65 (some (b7,cap7)) [(cF,W),(fu,C)]++[])) ?_ (EJ _ _ _).symm
   refine Y303 ?_
   refine JL.aP (b:=b4) (r:=[aD (some (b5,1)) [(cF,W)].length,aB.v]) (r':=[aD (some (b7,cap7)) [(cF,W),(fu,C)].length,aB.v]) rfl rfl rfl rfl rfl .here (show 0<2 from Nat.zero_lt_succ _) rfl ?_
   repeat(first|refine JL.q (by exact Y558) rfl ?_|refine Y213 ?_)
   refine JL.bD (ι:={ y:ay // iP y BB }) (vs:=[.agg #[Z p.kind,ps.v,.int .i64 p.code,body.v,.slice ad p.parts.length cap]]) (fun y=>y.1.v) (fun y=>y.1.an) ED rfl rfl (fun y=>y.1.bH) (cb _) ?_
   intro y
   refine JL.perm (M':=⟨b4,Row 29 [aD (some (b7,cap7)) [(cF,W),(fu,C)].length,aB.v],true⟩::⟨b2,Row 59 [Z p.kind,ps.v,.int .i64 p.code,body.v,.slice ad p.parts.length cap],true⟩::(dr 65 (some (b7,cap7)) [(cF,W),(fu,C)]++(y.1.an++[]))) ?_ (LL y.1.an _ _ _)
   refine Y303 ?_
   refine JL.aP (b:=b4) (j:=1) (r:=[aD (some (b7,cap7)) [(cF,W),(fu,C)].length,aB.v]) (r':=[aD (some (b7,cap7)) [(cF,W),(fu,C)].length,y.1.v]) rfl rfl rfl rfl rfl .here (show 1<2 by decide) rfl ?_
   have hF1:[(cF,W),(fu,C)].length<=1000000:=by show 2<=1000000;decide
   have hF2:∀ q∈[(cF,W),(fu,C)],q.1.length<9223372036854775808/\q.2.length<9223372036854775808:=by
    intro q hq
    simp only[List.mem_cons,List.not_mem_nil,or_false] at hq
    have e1:cF.length=12:=rfl
    have e2:fu.length=25:=rfl
    rcases hq with rfl|rfl <;> dsimp only <;> omega
   have cl:∀ w',aa w [] (⟨b4,Row 29 [aD (some (b7,cap7)) [(cF,W),(fu,C)].length,y.1.v],true⟩::⟨b2,Row 59 [Z p.kind,ps.v,.int .i64 p.code,body.v,.slice ad p.parts.length cap],true⟩::(dr 65 (some (b7,cap7)) [(cF,W),(fu,C)]++(y.1.an++[]))) w'->Calls Tryz.prog 15 [.agg #[aD (some (b7,cap7)) [(cF,W),(fu,C)].length,y.1.v]].toArray w' fun e w2=>∃ z:{ z:ay // iP z (bt [(cF,W),(fu,C)] BB) },e=.returned (.tuple #[z.1.v,N (bJ [(cF,W),(fu,C)] BB)])/\aa w' [] z.1.an w2:=fun w' hw'=>by
    have okf:(ew (some (b7,cap7)) [(cF,W),(fu,C)]).ok w':=qj (Sl.aa.weak hw' (.drop _ _ _ (.drop _ _ _ (aj.refl _))))
    have oks:y.1.ok w':=ay.bU (Sl.aa.weak hw' (.drop _ _ _ (.drop _ _ _ (aS _ (aj.refl _))))) y.2.none
    have h1:=nF _ _ w' okf oks (fun q hq=>hF2 q hq) (by show [(cF,W),(fu,C)].length<=_;exact hF1) (by rw[y.2.val];omega)
    rw[kD,y.2.val] at h1
    exact h1
   repeat(first|refine JL.q (by exact Y524) rfl ?_|refine Y36 ?_)
   refine Y245 ?_
   repeat(first|refine JL.q (by exact Y559) rfl ?_|refine Y197 ?_)
   refine JL.bD (ι:={ z:ay // iP z (bt [(cF,W),(fu,C)] BB) }) (vs:=[.agg #[aD (some (b7,cap7)) [(cF,W),(fu,C)].length,y.1.v]]) (fun z=>.tuple #[z.1.v,N (bJ [(cF,W),(fu,C)] BB)]) (fun z=>z.1.an) qL rfl rfl (fun z=>z.1.bH) cl ?_
   intro z
   refine JL.perm (M':=⟨b4,Row 29 [aD (some (b7,cap7)) [(cF,W),(fu,C)].length,y.1.v],true⟩::⟨b2,Row 59 [Z p.kind,ps.v,.int .i64 p.code,body.v,.slice ad p.parts.length cap],true⟩::(dr 65 (some (b7,cap7)) [(cF,W),(fu,C)]++(y.1.an++(z.1.an++[])))) ?_ (LM z.1.an _ _ _ _)
   rcases Gl [(cF,W),(fu,C)] BB with⟨hk,hW⟩|⟨hk,hW⟩
   · rw[hLeaf,hW]
     rw[hk]
     refine Y192 ?_
     refine Y245 ?_
     repeat(first|refine JL.q (by exact Y559) rfl ?_|refine Y128 ?_)
     refine JL.ax (cs:=[aD (some (b7,cap7)) [(cF,W),(fu,C)].length,y.1.v]) aZ rfl rfl rfl rfl .here rfl ?_
     refine Y39 ?_
     refine Y247 ?_
     skip
     refine JE.eJ rfl (RV.aT (cs:=[aD (some (b7,cap7)) [(cF,W),(fu,C)].length,y.1.v]) c7 aZ rfl .here rfl Row.all) (RV.tmp rfl) (RV.tmp rfl) fun w' hw=>⟨⟨ew (some (b7,cap7)) [(cF,W),(fu,C)],y.1,z.1,rfl,y.2.val,fun x hx=>?_,Gf,y.2.none,z.2.none⟩,?_,?_⟩
     · cases hx
       exact z.2.val
     · show _=Ending.returned (.tuple #[.agg #[(ew (some (b7,cap7)) [(cF,W),(fu,C)]).v,y.1.v],z.1.v,_])
       rw[kD]
       rfl
     · have h1:aa w [] (dr 65 (some (b7,cap7)) [(cF,W),(fu,C)]++(y.1.an++z.1.an)) w':=Sl.aa.weak hw (.drop _ _ _ (.drop _ _ _ (bI (bI (bO _ _) _) _)))
       show aa w [] ((ew (some (b7,cap7)) [(cF,W),(fu,C)]).an++(y.1.an++z.1.an)) w'
       exact Sl.aa.weak h1 (ot (yJ _ _) _)
   · rw[hLeaf,hW]
     have hne:decide ((bJ [(cF,W),(fu,C)] BB:Int)=0)=false:=decide_eq_false Y609
     repeat(first|refine JL.q (by exact Y467) rfl ?_|refine Y6 ?_)
     refine Y246 ?_
     refine Y209 ?_
     refine Y307 ?_
     refine Y39 ?_
     refine Y247 ?_
     refine Y250 ?_
     exact Y308
 · rw[hMu] at ch
   have hMul:=jG Qe k hR hMu
   rw[hWv] at hMul
   have hpn:∀ e,fO (mK Qe k) p=.error e->e≠0:=fun e he=>sj (fun g hg q e' hq'=>by
    cases k with
    | zero=>cases hg
    | succ k=>cases hg;exact yO Qe k hq') he
   have hbl:∀ b,fO (mK Qe k) p=.ok b->b.length<=4294967296:=fun b hb=>by
    have:=EK Qe k hb (by
     unfold cJ
     cases hf:p.ps.find? fun q=>decide (q.1=fF) with
     | none=>exact Nat.zero_le _
     | some q=>exact(l3 q (List.mem_of_find?_eq_some hf)).2) l7
    omega
   generalize fO (mK Qe k) p=R at cwp hMul hpn hbl
   refine Y210 ?_
   refine Y246 ?_
   repeat(first|refine JL.q (by exact Y558) rfl ?_|refine Y119 ?_)
   refine JL.bD (ι:={ y:ay // iP y (okB R) }) (vs:=[.agg #[Z p.kind,ps.v,.int .i64 p.code,body.v,.slice ad p.parts.length cap],N others]) (fun y=>.tuple #[y.1.v,N (nG R)]) (fun y=>y.1.an) CC rfl rfl (fun y=>y.1.bH) (cwp _) ?_
   intro y
   refine JL.perm (M':=⟨b4,Row 29 [aD (some (b5,1)) [(cF,W)].length,aB.v],true⟩::⟨b2,Row 59 [Z p.kind,ps.v,.int .i64 p.code,body.v,.slice ad p.parts.length cap],true⟩::(dr 65 (some (b5,1)) [(cF,W)]++(y.1.an++[]))) ?_ (LL y.1.an _ _ _)
   refine Y302 ?_
   refine JL.aP (b:=b4) (j:=1) (r:=[aD (some (b5,1)) [(cF,W)].length,aB.v]) (r':=[aD (some (b5,1)) [(cF,W)].length,y.1.v]) rfl rfl rfl rfl rfl .here (show 1<2 by decide) rfl ?_
   cases R with
   | error e=>
     have hMul:cu Qe k p=.error e:=hMul
     have hne:decide ((e:Int)=0)=false:=decide_eq_false (by have:=hpn e rfl;omega)
     rw[hMul]
     refine Y193 ?_
     refine Y246 ?_
     refine Y209 ?_
     refine Y307 ?_
     refine Y39 ?_
     refine Y247 ?_
     refine Y250 ?_
     exact Y308
   | ok BB=>
     have hMul:cu Qe k p=mV [(cF,W)] BB:=hMul
     have hbw:=hbl BB rfl
     obtain⟨y,hy⟩:=y
     have hy:iP y BB:=hy
     have hF1:[(cF,W)].length<=1000000:=by show 1<=1000000;decide
     have hF2:∀ q∈[(cF,W)],q.1.length<9223372036854775808/\q.2.length<9223372036854775808:=by
      intro q hq
      have e1:cF.length=12:=rfl
      rw[List.mem_singleton.1 hq]
      dsimp only
      omega
     have cl:∀ w',aa w [] (⟨b4,Row 29 [aD (some (b5,1)) [(cF,W)].length,y.v],true⟩::⟨b2,Row 59 [Z p.kind,ps.v,.int .i64 p.code,body.v,.slice ad p.parts.length cap],true⟩::(dr 65 (some (b5,1)) [(cF,W)]++(y.an++[]))) w'->Calls Tryz.prog 15 [.agg #[aD (some (b5,1)) [(cF,W)].length,y.v]].toArray w' fun e w2=>∃ z:{ z:ay // iP z (bt [(cF,W)] BB) },e=.returned (.tuple #[z.1.v,N (bJ [(cF,W)] BB)])/\aa w' [] z.1.an w2:=fun w' hw'=>by
      have okf:(ew (some (b5,1)) [(cF,W)]).ok w':=qj (Sl.aa.weak hw' (.drop _ _ _ (.drop _ _ _ (aj.refl _))))
      have oks:y.ok w':=ay.bU (Sl.aa.weak hw' (.drop _ _ _ (.drop _ _ _ (aS _ (aj.refl _))))) hy.none
      have h1:=nF _ _ w' okf oks (fun q hq=>hF2 q hq) (by show [(cF,W)].length<=_;exact hF1) (by rw[hy.val];omega)
      rw[kD,hy.val] at h1
      exact h1
     refine Y194 ?_
     refine Y245 ?_
     repeat(first|refine JL.q (by exact Y560) rfl ?_|refine Y197 ?_)
     refine JL.bD (ι:={ z:ay // iP z (bt [(cF,W)] BB) }) (vs:=[.agg #[aD (some (b5,1)) [(cF,W)].length,y.v]]) (fun z=>.tuple #[z.1.v,N (bJ [(cF,W)] BB)]) (fun z=>z.1.an) qL rfl rfl (fun z=>z.1.bH) cl ?_
     intro z
     refine JL.perm (M':=⟨b4,Row 29 [aD (some (b5,1)) [(cF,W)].length,y.v],true⟩::⟨b2,Row 59 [Z p.kind,ps.v,.int .i64 p.code,body.v,.slice ad p.parts.length cap],true⟩::(dr 65 (some (b5,1)) [(cF,W)]++(y.an++(z.1.an++[])))) ?_ (LM z.1.an _ _ _ _)
     rcases Gl [(cF,W)] BB with⟨hk,hW⟩|⟨hk,hW⟩
     · rw[hMul,hW]
       rw[hk]
       refine Y192 ?_
       refine Y245 ?_
       repeat(first|refine JL.q (by exact Y560) rfl ?_|refine Y128 ?_)
       refine JL.ax (cs:=[aD (some (b5,1)) [(cF,W)].length,y.v]) aZ rfl rfl rfl rfl .here rfl ?_
       refine Y39 ?_
       refine Y247 ?_
       skip
       refine JE.eJ rfl (RV.aT (cs:=[aD (some (b5,1)) [(cF,W)].length,y.v]) c7 aZ rfl .here rfl Row.all) (RV.tmp rfl) (RV.tmp rfl) fun w' hw=>⟨⟨ew (some (b5,1)) [(cF,W)],y,z.1,rfl,hy.val,fun x hx=>?_,Gf,hy.none,z.2.none⟩,?_,?_⟩
       · cases hx
         exact z.2.val
       · show _=Ending.returned (.tuple #[.agg #[(ew (some (b5,1)) [(cF,W)]).v,y.v],z.1.v,_])
         rw[kD]
         rfl
       · have h1:aa w [] (dr 65 (some (b5,1)) [(cF,W)]++(y.an++z.1.an)) w':=Sl.aa.weak hw (.drop _ _ _ (.drop _ _ _ (bI (bI (bO _ _) _) _)))
         show aa w [] ((ew (some (b5,1)) [(cF,W)]).an++(y.an++z.1.an)) w'
         exact Sl.aa.weak h1 (ot (yJ _ _) _)
     · rw[hMul,hW]
       have hne:decide ((bJ [(cF,W)] BB:Int)=0)=false:=decide_eq_false Y609
       repeat(first|refine JL.q (by exact Y467) rfl ?_|refine Y6 ?_)
       refine Y246 ?_
       refine Y209 ?_
       refine Y307 ?_
       refine Y39 ?_
       refine Y247 ?_
       refine Y250 ?_
       exact Y308
theorem yS(Qe:List aq.By->List aq.By):∀ (k others:Nat),k+others=8->qK Qe k others
 | 0,others,h=>wI Qe 0 others h nofun
 | k+1,others,h=>wI Qe (k+1) others h fun k' e=>by
   cases e
   exact yS Qe k (others+1) Y609
end
section
open Sl aq Tok gZ zo
theorem Iz:aJ Tryz.prog 27:=⟨_,Tryz.func27,rfl,by kernel_rfl⟩
theorem IA:aJ Tryz.prog 26:=⟨_,Tryz.func26,rfl,by kernel_rfl⟩
theorem IB:aJ Tryz.prog 48:=⟨_,Tryz.func48,rfl,by kernel_rfl⟩
theorem LN{e:TypeId}{sz n:Nat}{r:List Value}(h:r.length=n*sz):∀ o,Row e r o->Sl.Own e sz n n r o:=by
 rintro o rfl
 exact⟨[],by simp,by simp[h],h,Nat.le_refl _⟩
def four(e:jo):List Pr:=[(uy,e.fr),(uz,e.to),(xF,60::e.id++[62]),(xG,60::e.th++[62])]
theorem LO(e:kG)(w:World)(he:e.ok w)(hlo:e.low):Calls Tryz.prog 27 [.agg e.cs.toArray].toArray w fun x w'=>∃ r:Nat × Nat,x=.returned (aD (some r) (aG e.en).length)/\aa w [] (dr 65 (some r) (aG e.en)) w':=by
 have l3:=hlo.id
 have l4:=hlo.th
 have l6:=hlo.bu
 refine enter (n:=33) Tryz.func27 rfl rfl rfl (aa.start w []) ?_
 refine JC.seq (JC.region (JL.box (r:=e.cs) rfl rfl rfl fun b1 _=>?_))
 repeat(first|refine JL.q (by first|exact Y402|exact Y403|exact Y404|exact Y405|exact Y561|exact Y562|exact Y563|exact Y564|(apply OQ.gU (a:=uy) (b:=e.fr);rfl;rfl)|(apply OQ.gU (a:=uz) (b:=e.to);rfl;rfl)|(apply OQ.gU (a:=xF) (b:=60::e.id++[62]);rfl;rfl)|(apply OQ.gU (a:=xG) (b:=60::e.th++[62]);rfl;rfl)) rfl ?_|refine Y84 ?_)
 refine JL.Tg (xs:=[.tmp 6,.tmp 9,.tmp 14,.tmp 19]) (css:=(four e.en).map pc) Tryz.underlying27 fN Y610 rfl rfl rfl Y610 Y610 (by intro c hc;obtain⟨p,_,rfl⟩:=List.mem_map.1 hc;rfl) rfl fun b3 _=>?_
 refine JL.less (M':=dr 65 (some (b3,4)) (four e.en)++[⟨b1,Row 24 e.cs,true⟩]) (.keep _ _ _ _ _ _ (LN rfl) (aj.refl _)) ?_
 have eF:aG e.en=four e.en++(if e.bu.l=[] then [] else [(oz,bQ.bC e.bu.l)]):=rfl
 rw[eF]
 cases g0:decide ((0:Int)<(e.bu.l.length:Int))
 · rw[if_pos (List.eq_nil_of_length_eq_zero (by have:=of_decide_eq_false g0;omega)),List.append_nil]
   repeat(first|refine JL.q Y753 rfl ?_|refine Y214 ?_)
   refine Y245 ?_
   refine Y5 ?_
   refine Y247 ?_
   skip
   exact JE.aK rfl (RV.tmp rfl) fun w' hw=>⟨(b3,4),rfl,hw.weak (bO _ _)⟩
 · rw[if_neg (fun h=>by have:=of_decide_eq_true g0;rw[h] at this;simp at this)]
   repeat(first|refine JL.q Y753 rfl ?_|refine Y214 ?_)
   refine Y246 ?_
   repeat(first|refine JL.q (by first|exact Y416|(apply OQ.ai (vs:=[e.bu.v]);exact IB;rfl;exact(fun w' hw'=>Cg e.bu w' (he.bu.holds hw' rfl) Y609))|(apply OQ.gU (a:=oz) (b:=bQ.bC e.bu.l);rfl;rfl)|exact Y323|exact Y377) rfl ?_|refine JC.region ?_)
   refine JL.w4 (cs:=pc (oz,bQ.bC e.bu.l)) Tryz.underlying27 fN rfl Y610 Y610 rfl rfl rfl fun bl _=>?_
   refine JL.perm (M':=⟨bl,Row 65 (pc (oz,bQ.bC e.bu.l)),true⟩::⟨b1,Row 24 e.cs,true⟩::(dr 65 (some (b3,4)) (four e.en)++[])) ?_ (.cons _ (by rw[List.append_nil];exact List.perm_append_comm (l₂:=[_])))
   refine JL.zR (p:=(oz,bQ.bC e.bu.l)) (L:=four e.en) (some (b3,4)) Tryz.underlying27 fN nofun rfl rfl rfl (show 5*32<=140737488355328 by decide) (show 5<9223372036854775808 by decide) rfl fun b' cap'=>?_
   refine Y24 ?_
   refine Y247 ?_
   skip
   exact JE.aK rfl (RV.tmp rfl) fun w' hw=>⟨(b',cap'),rfl,hw.weak (bO _ _)⟩
structure PO (e:kG) where
 cs:List Value
 M:List aL
 len:cs.length=5
 one:cs.all Value.oneCell'=true
 wr:∀ x∈M,x.wr=true
 is:∀ (w0:World) (S:List Nat) (w':World),e.ok w'->aa w0 S M w'->dJ 3 w' (fT e.en) cs
theorem OQ.Gm{n:Nat}{E:Env}{C:World->Prop}{dst:Option Tmp}{ty:TypeId}{pos:String}{aft:Array Edge}{g:Option (Nat × Bool)}{y:Operand}{a:List Bt}{s:ay}(hy:ev E y=some s.v):OQ Tryz.prog n E C ⟨dst,.build 59 #[(0,.const (Z a)),(2,.const (.int .i64 1)),(3,y)],ty,pos,aft,g⟩ (.agg ([Z a,bV.v,.int .i64 1,s.v,.slice none 0 0]:List Value).toArray):=by
 refine OQ.run fun k hk w _=>?_
 have h1:=hk.eval hy
 have h3:=run_build (P:=Tryz.prog) w 59 #[(0,Z a),(2,.int .i64 1),(3,s.v)] ([Z a,bV.v,.int .i64 1,s.v,.slice none 0 0]:List Value).toArray (by unfold ay.v;kernel_rfl)
 have e1:∀ v,k.eval (.const v)=v:=fun _=>rfl
 simp[execOp,e1,h1,Sem.run_bind,h3]
theorem OQ.Gn{n:Nat}{E:Env}{C:World->Prop}{dst:Option Tmp}{ty:TypeId}{pos:String}{aft:Array Edge}{g:Option (Nat × Bool)}{y:Operand}{a:List Bt}{b:Nat}(hy:ev E y=some (.slice (some ⟨b,0,none⟩) 10 10)):OQ Tryz.prog n E C ⟨dst,.build 59 #[(0,.const (Z a)),(3,y)],ty,pos,aft,g⟩ (.agg ([Z a,bV.v,.int .i64 0,.slice (some ⟨b,0,none⟩) 10 10,.slice none 0 0]:List Value).toArray):=by
 refine OQ.run fun k hk w _=>?_
 have h1:=hk.eval hy
 have h3:=run_build (P:=Tryz.prog) w 59 #[(0,Z a),(3,.slice (some ⟨b,0,none⟩) 10 10)] ([Z a,bV.v,.int .i64 0,.slice (some ⟨b,0,none⟩) 10 10,.slice none 0 0]:List Value).toArray Y636
 have e1:∀ v,k.eval (.const v)=v:=fun _=>rfl
 simp[execOp,e1,h1,Sem.run_bind,h3]
theorem OQ.Gp{n:Nat}{E:Env}{C:World->Prop}{dst:Option Tmp}{ty:TypeId}{pos:String}{aft:Array Edge}{g:Option (Nat × Bool)}{y z:Operand}{a:List Bt}{b c:Nat}(hy:ev E y=some (.slice (some ⟨b,0,none⟩) 2 2))(hz:ev E z=some (.slice (some ⟨c,0,none⟩) 2 2)):OQ Tryz.prog n E C ⟨dst,.build 59 #[(0,.const (Z a)),(1,y),(4,z)],ty,pos,aft,g⟩ (.agg ([Z a,.slice (some ⟨b,0,none⟩) 2 2,.int .i64 0,aB.v,.slice (some ⟨c,0,none⟩) 2 2]:List Value).toArray):=by
 refine OQ.run fun k hk w _=>?_
 have h1:=hk.eval hy
 have h2:=hk.eval hz
 have h3:=run_build (P:=Tryz.prog) w 59 #[(0,Z a),(1,.slice (some ⟨b,0,none⟩) 2 2),(4,.slice (some ⟨c,0,none⟩) 2 2)] ([Z a,.slice (some ⟨b,0,none⟩) 2 2,.int .i64 0,aB.v,.slice (some ⟨c,0,none⟩) 2 2]:List Value).toArray Y636
 have e1:∀ v,k.eval (.const v)=v:=fun _=>rfl
 simp[execOp,e1,h1,h2,Sem.run_bind,h3]
theorem ue{n:Nat}{E:Env}{C:World->Prop}{dst:Option Tmp}{ty:TypeId}{pos:String}{aft:Array Edge}{g:Option (Nat × Bool)}{a b:List Bt}:OQ Tryz.prog n E C ⟨dst,.build 63 #[(0,.const (Z a)),(1,.const (Z b))],ty,pos,aft,g⟩ (.agg (pc (a,b)).toArray):=OQ.pure rfl rfl Y636
def iM(k:List Bt)(s:ay):List Value:=[Z k,bV.v,.int .i64 1,s.v,.slice none 0 0]
def EL(b:Nat):List Value:=[Z eW,bV.v,.int .i64 0,.slice (some ⟨b,0,none⟩) 10 10,.slice none 0 0]
theorem wJ{k:List Bt}{s:ay}{w:World}(h:s.ok w):dJ 1 w (.mk k [] 1 s.l []) (iM k s):=
 ⟨bV,s,none,0,[],rfl,⟨zP w,rfl⟩,⟨h,rfl⟩,Nat.le_refl _,Reads.nil _ _,rfl,nofun⟩
theorem CF{e:kG}{b4 b5 b6:Nat}{w0 w:World}{S:List Nat}(he:e.ok w)(h0:e.pl=false)(hw:aa w0 S [⟨b6,Row 59 (EL b5++iM fQ e.ci),true⟩,⟨b5,Mn 5 (kq.map U8),true⟩,⟨b4,Row 63 (pc (fF,gS)++pc (C5,eW)),true⟩] w) :
  dJ 3 w (fT e.en) [Z eE,.slice (some ⟨b4,0,none⟩) 2 2,.int .i64 0,aB.v,.slice (some ⟨b6,0,none⟩) 2 2]:=by
 obtain⟨o4,h4,a4⟩:=hw.get (b:=b4) (.there (.there .here))
 obtain⟨o5,h5,a5⟩:=hw.get (b:=b5) (.there .here)
 obtain⟨o6,h6,a6⟩:=hw.get (b:=b6) .here
 have e0:fT e.en=.mk eE iO 0 [] [.mk eW [] 0 kq [],.mk fQ [] 1 e.ci.l []]:=by
  unfold fT
  rw[show e.en.pl=false from h0]
  rfl
 rw[e0]
 refine⟨⟨some ⟨b4,0,none⟩,2,iO⟩,aB,some ⟨b6,0,none⟩,2,[EL b5,iM fQ e.ci],rfl,⟨⟨show 2<=2 by decide,Reads.block h4 (Row.all _ a4)⟩,rfl⟩,⟨dN w,rfl⟩,show 2<=2 by decide,Reads.block h6 (Row.all _ a6),rfl,fun i hi=>?_⟩
 have hi:i<2:=hi
 match i,hi with
 | 0,_=>exact⟨bV,⟨some ⟨b5,0,none⟩,10,kq⟩,none,0,[],rfl,⟨zP w,rfl⟩,⟨⟨show 10<=10 by decide,Reads.block h5 (Mn.all _ a5)⟩,rfl⟩,Nat.le_refl _,Reads.nil _ _,rfl,nofun⟩
 | 1,_=>exact(wJ (k:=fQ) he.ci).up
theorem LP(e:kG)(w:World)(he:e.ok w):Calls Tryz.prog 26 [.agg e.cs.toArray].toArray w fun x w'=>∃ y:PO e,x=.returned (.agg y.cs.toArray)/\aa w [] y.M w':=by
 refine enter (n:=20) Tryz.func26 rfl rfl rfl (aa.start w []) ?_
 refine JC.seq (JC.region (JL.box (r:=e.cs) rfl rfl rfl fun b1 _=>?_))
 refine JL.alloc (r:=pz) ?_ ?_ fun b2 _=>?_
 exact tr
 rfl
 repeat(first|refine JL.q (by first|exact Y565|(apply OQ.Gm (a:=fQ) (s:=e.ci);rfl)) rfl ?_|refine Y91 ?_)
 refine JL.alloc (r:=pz) ?_ ?_ fun b3 _=>?_
 exact tr
 rfl
 refine JL.ax (cs:=iM fQ e.ci) iE rfl rfl rfl rfl .here rfl ?_
 cases hp:e.pl
 rotate_left
 · repeat(first|refine JL.q (by exact Y566) rfl ?_|refine Y91 ?_)
   rw[hp]
   refine Y246 ?_
   refine Y215 ?_
   refine JL.aP (v:=Z mL) (r':=iM mL e.ci) w8 rfl rfl rfl rfl .here (show 0<5 by decide) rfl ?_
   repeat(first|refine JL.q (by(apply OQ.aF (cs:=iM mL e.ci);exact gx;exact iE;rfl;exact .here;rfl;exact Row.all)) rfl ?_|refine Y133 ?_)
   refine JL.ax (cs:=iM mL e.ci) iE rfl rfl rfl rfl (.there .here) rfl ?_
   refine Y98 ?_
   refine Y247 ?_
   refine Y250 ?_
   exact JE.aK rfl (RV.aT (cs:=iM mL e.ci) gx iE rfl (.there .here) rfl Row.all) fun w' hw=>⟨⟨iM mL e.ci,[],rfl,rfl,nofun,fun w0 S w2 h2 _=>by
    have h3:=(wJ (k:=mL) h2.ci).mono (k:=3) Y609
    unfold fT
    rw[show e.en.pl=true from hp]
    exact h3⟩,rfl,hw.weak (.nil _)⟩
 · repeat(first|refine JL.q (by exact Y566) rfl ?_|refine Y91 ?_)
   rw[hp]
   refine Y245 ?_
   repeat(first|refine JL.q Y754 rfl ?_|refine Y197 ?_)
   refine JL.yQ (cs:=pc (fF,gS)) (ds:=pc (C5,eW)) Tryz.underlying56 LJ rfl Y610 Y610 rfl rfl rfl rfl rfl fun b4 _=>?_
   refine JL.zz (xs:=kq.map fun c=>.const (U8 c)) (vs:=kq.map U8) Tryz.underlying22 dV rfl rfl rfl rfl (fun v hv=>by obtain⟨c,_,rfl⟩:=List.mem_map.1 hv;rfl) rfl Y610 Y610 rfl fun b5 _=>?_
   refine Y310 ?_
   repeat(refine JL.q (by first|(apply OQ.Gn (a:=eW) (b:=b5);rfl)|exact Y567) rfl ?_)
   refine JL.yQ (cs:=EL b5) (ds:=iM fQ e.ci) Tryz.underlying57 Gh rfl Y610 Y610 rfl rfl rfl rfl rfl fun b6 _=>?_
   repeat(refine JL.q (by(apply OQ.Gp (a:=eE) (b:=b4) (c:=b6);rfl;rfl)) rfl ?_)
   refine JL.ax (cs:=[Z eE,.slice (some ⟨b4,0,none⟩) 2 2,.int .i64 0,aB.v,.slice (some ⟨b6,0,none⟩) 2 2]) iE rfl rfl rfl rfl (.there (.there (.there (.there .here)))) rfl ?_
   refine Y98 ?_
   refine Y247 ?_
   skip
   exact JE.aK rfl (RV.aT (cs:=[Z eE,.slice (some ⟨b4,0,none⟩) 2 2,.int .i64 0,aB.v,.slice (some ⟨b6,0,none⟩) 2 2]) gx iE rfl (.there (.there (.there (.there .here)))) rfl Row.all) fun w' hw=>⟨⟨[Z eE,.slice (some ⟨b4,0,none⟩) 2 2,.int .i64 0,aB.v,.slice (some ⟨b6,0,none⟩) 2 2],[⟨b6,Row 59 (EL b5++iM fQ e.ci),true⟩,⟨b5,Mn 5 (kq.map U8),true⟩,⟨b4,Row 63 (pc (fF,gS)++pc (C5,eW)),true⟩],rfl,rfl,by simp,fun w0 S w2 h2 hw2=>CF h2 hp hw2⟩,rfl,hw.weak (bO [_,_,_] _)⟩
end
section
open Sl aq gZ Tok
theorem EM(Qe:List aq.By->List aq.By)(p:Part)(cs:List Value)(w:World)(hE:fz w)(hp:dJ 10 w p cs)(hq:Jk 9 p)(hlo:Ir 10 p):Calls Tryz.prog 25 [.agg cs.toArray].toArray w
  fun e w'=>∃ x:WA (cu Qe 8 p),e=.returned (.tuple #[.agg #[x.f.v,x.s.v],N (dG (cu Qe 8 p))])/\aa w [] x.an w':=by
 have cw:=fun (M:List aL) (w':World) (hw':aa w [] M w')=>yS Qe 8 0 rfl p cs w' (hE.holds hw') (hp.ext hw'.aH) hq hlo
 obtain⟨ps,body,ad,cap,bK,rfl,_⟩:=hp
 refine enter (n:=15) Tryz.func25 rfl rfl rfl (aa.start w []) ?_
 refine JC.seq (JC.region (JL.box (r:=[Z p.kind,ps.v,.int .i64 p.code,body.v,.slice ad p.parts.length cap]) rfl rfl rfl fun b1 _=>?_))
 refine JL.alloc iB rfl fun b2 _=>?_
 repeat(first|refine JL.q (by exact Y558) rfl ?_|refine Y20 ?_)
 refine JL.bD (ι:=WA (cu Qe 8 p)) (vs:=[.agg #[Z p.kind,ps.v,.int .i64 p.code,body.v,.slice ad p.parts.length cap],N 0]) (fun x=>.tuple #[.agg #[x.f.v,x.s.v],x.m.v,N (dG (cu Qe 8 p))]) (fun x=>x.an) qJ rfl rfl (fun x=>x.wr) (cw _) ?_
 intro x
 refine JL.perm (M':=⟨b2,Row 29 [bV.v,aB.v],true⟩::⟨b1,Row 59 [Z p.kind,ps.v,.int .i64 p.code,body.v,.slice ad p.parts.length cap],true⟩::(x.an++[])) ?_ (EJ _ _ _).symm
 refine Y285 ?_
 refine JL.alloc iB rfl fun b4 _=>?_
 refine Y305 ?_
 repeat(first|refine JL.q (by(apply OQ.aF (cs:=[x.f.v,x.s.v]);exact c7;exact aZ;rfl;exact .here;rfl;exact Row.all)) rfl ?_|refine Y0 ?_)
 refine JL.ax (cs:=[x.f.v,x.s.v]) aZ rfl rfl rfl rfl (.there .here) rfl ?_
 refine Y39 ?_
 refine Y247 ?_
 skip
 exact JE.aV rfl (RV.aT (cs:=[x.f.v,x.s.v]) c7 aZ rfl (.there .here) rfl Row.all) (RV.tmp rfl) fun w' hw=>⟨x,rfl,hw.weak (.drop _ _ _ (.drop _ _ _ (.drop _ _ _ (bO _ _))))⟩
end
section
open Sl aq Tok gZ zo
theorem nJ:aJ Tryz.prog 8:=⟨_,Tryz.func8,rfl,by kernel_rfl⟩
theorem EN:aJ Tryz.prog 25:=⟨_,Tryz.func25,rfl,by kernel_rfl⟩
theorem yT:gX Tryz.prog 27=some 1:=by kernel_rfl
theorem qM:gD Tryz.prog 27=true:=by kernel_rfl
structure W2 (r:Except Nat (List Pr × List Bt)) where
 f:gm
 s:ay
 hf:f.l=Ew r
 hs:s.l=Ex r
 nf:f.ad=none->f.l=[]
 ns:s.ad=none->s.l=[]
def W2.an{r:Except Nat (List Pr × List Bt)}(x:W2 r):List aL:=x.f.an++x.s.an
theorem W2.wr{r:Except Nat (List Pr × List Bt)}(x:W2 r):∀ e∈x.an,e.wr=true:=fun e he=>by
 rcases List.mem_append.1 he with h|h
 · exact x.f.bH e h
 · exact x.s.bH e h
def W2.err{e:Nat}:W2 (.error e):=⟨bV,aB,rfl,rfl,fun _=>rfl,fun _=>rfl⟩
theorem wG{e:jo}(hc:e.ci.length<=4000):Ir 10 (fT e):=by
 unfold fT
 cases e.pl with
 | true=>exact⟨by show mL.length<=1000;decide,by show 0<=10;decide,fun q hq=>Y755,by show(0:Int)<=1;decide,by show(1:Int)<=2;decide,hc,by show 0<=5;decide,fun q hq=>Y755⟩
 | false=>
   refine⟨by show eE.length<=1000;decide,by show 2<=10;decide,fun q hq=>?_,by show(0:Int)<=0;decide,by show(0:Int)<=2;decide,by show 0<=4000;decide,by show 2<=5;decide,fun q hq=>?_⟩
   · have hq:q∈iO:=hq
     simp only[iO,List.mem_cons,List.not_mem_nil,or_false] at hq
     rcases hq with rfl|rfl
     · exact⟨by decide,by decide⟩
     · exact⟨by decide,by decide⟩
   · have hq:q∈([.mk eW [] 0 kq [],.mk fQ [] 1 e.ci []]:List Part):=hq
     simp only[List.mem_cons,List.not_mem_nil,or_false] at hq
     rcases hq with rfl|rfl
     · exact⟨by show eW.length<=1000;decide,by show 0<=10;decide,fun q hq=>Y755,by show(0:Int)<=0;decide,by show(0:Int)<=2;decide,by show kq.length<=4000;decide,by show 0<=5;decide,fun q hq=>Y755⟩
     · exact⟨by show fQ.length<=1000;decide,by show 0<=10;decide,fun q hq=>Y755,by show(0:Int)<=1;decide,by show(1:Int)<=2;decide,hc,by show 0<=5;decide,fun q hq=>Y755⟩
theorem pH(Qe:List aq.By->List aq.By)(e:kG)(w:World)(he:e.ok w)(hlo:e.low)(hE:fz w)(hR:jj w):Calls Tryz.prog 8 [.agg e.cs.toArray].toArray w
  fun x w'=>∃ y:W2 (qT Qe e.en),x=.returned (.tuple #[.agg #[y.f.v,y.s.v],N (dG (qT Qe e.en))])/\aa w [] y.an w':=by
 have l1:=hlo.fr
 have l2:=hlo.to
 have l5:=hlo.ci
 have l6:=hlo.bu
 have cf:=fun w'=>Kx e w' Y609 Y609
 refine enter (n:=39) Tryz.func8 rfl rfl rfl (aa.start w []) ?_
 refine JC.seq (JC.region (JL.box (r:=e.cs) rfl rfl rfl fun b1 _=>?_))
 refine JL.alloc iB rfl fun b2 _=>?_
 have g0:decide ((1049600:Int)<(e.ci.l.length:Int))=false:=decide_eq_false Y609
 cases g1:decide ((3000:Int)<(e.bu.l.length:Int))
 rotate_left
 · have hW:qT Qe e.en=.error 4:=by
    unfold qT
    rw[if_pos (.inr Y756)]
   rw[hW]
   repeat(first|refine JL.q Y757 rfl ?_|refine JL.bG rfl rfl ?_|refine Y216 ?_)
   refine Y246 ?_
   refine Y212 ?_
   refine Y307 ?_
   refine Y39 ?_
   refine Y247 ?_
   refine Y250 ?_
   exact Y311
 have hb:e.bu.l.length<=3000:=by have:=of_decide_eq_false g1;omega
 have hnl:¬ (1049600<e.en.ci.length\/3000<e.en.bu.length):=by
  show ¬ (1049600<e.ci.l.length\/3000<e.bu.l.length)
  omega
 repeat(first|refine JL.q Y757 rfl ?_|refine JL.bG rfl rfl ?_|refine Y216 ?_)
 refine Y245 ?_
 refine Y38 ?_
 have hr:(ux e.fr&&(ux e.to&&(mX e.id&&(mX e.th&&decide ((e.bu.l.length:Int)<=3000)))))=gC e.en:=by
  rw[decide_eq_true (p:=(e.bu.l.length:Int)<=3000) Y609,Bool.and_true]
  rfl
 refine JC.quiet xb Y636 ?_
 repeat(first|refine JQ.q (by first|exact Y570|(apply OQ.ai (vs:=[.agg e.cs.toArray]);exact Hq;rfl;exact(fun w' _=>cf w'))|exact Y571|(apply OQ.RX;rfl;rfl;exact hr)) rfl ?_|refine JQ.nil ?_|refine JE.next ?_)
 clear cf
 cases hri:gC e.en
 · have hW:qT Qe e.en=.error 3:=by
    unfold qT
    rw[if_neg hnl,if_pos hri]
   rw[hW]
   refine Y246 ?_
   refine Y212 ?_
   refine Y307 ?_
   refine Y39 ?_
   refine Y247 ?_
   refine Y250 ?_
   exact Y311
 have hpw:=lW Qe e.en (by show e.ci.l.length<=10000;omega)
 have hW:qT Qe e.en=.ok (aG e.en++bB e.en,eY e.en):=by
  unfold qT
  rw[if_neg hnl,if_neg (by rw[hri];decide),hpw]
 rw[hW]
 clear hW hr
 refine Y245 ?_
 have cpart:=fun (M:List aL) (w':World) (hw':aa w [] M w')=>LP e w' (he.holds hw')
 repeat(first|refine JL.q (by exact Y570) rfl ?_|refine Y197 ?_)
 refine JL.bD (ι:=PO e) (vs:=[.agg e.cs.toArray]) (fun y=>.agg y.cs.toArray) (fun y=>y.M) IA rfl rfl (fun y=>y.wr) (cpart _) ?_
 intro y
 have cw:∀ w',aa w [] (y.M++[⟨b2,Row 29 [bV.v,aB.v],true⟩,⟨b1,Row 24 e.cs,true⟩]) w'->Calls Tryz.prog 25 [.agg y.cs.toArray].toArray w'
   fun x w2=>∃ z:WA (.ok (bB e.en,eY e.en)),x=.returned (.tuple #[.agg #[z.f.v,z.s.v],N 0])/\aa w' [] z.an w2:=fun w' hw'=>by
  have hip:dJ 3 w' (fT e.en) y.cs:=y.is w [] w' (he.holds hw') (Sl.aa.weak hw' (bO _ _))
  have:=EM Qe (fT e.en) y.cs w' (hE.holds hw') (hip.mono Y609) (AY e.en) (wG (by show e.ci.l.length<=4000;omega))
  rw[hpw] at this
  exact this
 refine JL.bD (ι:=WA (.ok (bB e.en,eY e.en))) (vs:=[.agg y.cs.toArray]) (fun x=>.tuple #[.agg #[x.f.v,x.s.v],N 0]) (fun x=>x.an) EN rfl rfl (fun x=>x.wr) cw ?_
 intro x
 refine JL.less (M':=(x.f.an++x.s.an)++[⟨b2,Row 29 [bV.v,aB.v],true⟩,⟨b1,Row 24 e.cs,true⟩]) (by
  show aj _ ((x.f.an++(x.s.an++x.m.an))++(y.M++_))
  rw[List.append_assoc,List.append_assoc,List.append_assoc]
  exact bI (bI (aS _ (aS _ (aj.refl _))) _) _) ?_
 refine Y285 ?_
 refine JL.alloc iB rfl fun b4 _=>?_
 refine Y305 ?_
 have h00:decide (((0:Nat):Int)=0)=true:=rfl
 refine Y194 ?_
 refine Y245 ?_
 refine Y38 ?_
 clear cw cpart
 have cfl:=fun (M:List aL) (w':World) (hw':aa w [] M w')=>LO e w' (he.holds hw') hlo
 have hfl:=oI (e:=e.en) hri hb l1 l2
 have hhl:=(m4 e.en).2.2.1
 have xf:x.f.l=bB e.en:=x.hf
 let vs:Nat->Nat × Nat->Value:=fun j z=>match j with
  | 0=>.agg e.cs.toArray
  | 1=>aD (some z) (aG e.en).length
  | 2=>Pt b4 0
  | 3=>x.f.v
  | 4=>aD (some z) (aG e.en++bB e.en).length
  | 5=>Pt b4 0
  | _=>N 0
 let Ms:Nat->Nat × Nat->List aL:=fun j z=>match j with
  | 1=>dr 65 (some z) (aG e.en)
  | 4=>dr 65 (some z) (aG e.en++bB e.en)
  | 6=>[⟨b4,Row 29 [aD (some z) (aG e.en++bB e.en).length,x.s.v],true⟩]
  | 7=>[⟨b4,Row 29 [x.f.v,x.s.v],true⟩]
  | 8=>x.f.an
  | 9=>x.s.an
  | 10=>[⟨b2,Row 29 [bV.v,aB.v],true⟩]
  | 11=>[⟨b1,Row 24 e.cs,true⟩]
  | _=>[]
 refine JC.nt (g:=⟨[(2,Pt b2 0),(4,Pt b4 0),(1,Pt b1 0)],12,vs,Ms,(fun j=>match j with|1=>[(0,32)]|3=>[(2,34)]|4=>[(1,33),(3,35)]|6=>[(5,37),(4,36)]|_=>[]),(fun j=>match j with|0=>[11]|3=>[7]|4=>[1,8]|6=>[7]|_=>[]),(fun j=>match j with|4=>[1]|6=>[7]|_=>[]),(fun j=>match j with|6=>some 4|_=>none),fun _=>[],fun _ a b=>a=b⟩) [] [6,10,4,9] xb Y640 (fun _ _=>.nil) (kH (by show _::(x.f.an++(x.s.an++(_::_::([]++[]))))=_::((x.f.an++x.s.an)++_);rw[List.append_assoc];rfl)) Y636 Y636 Y636 ?_ ?_
 · refine⟨?_,?_,?_,?_,?_,?_,?_,trivial⟩
   · (intro x' EF MF Q kk;exact JL.q (OQ.aF (cs:=e.cs) w9 oX rfl .here rfl Row.all) rfl (JL.nil (kk default nofun)))
   · (intro x' EF MF Q kk;exact JL.bD (ι:=Nat × Nat) (vs:=[.agg e.cs.toArray]) (fun r=>aD (some r) (aG e.en).length) (fun r=>dr 65 (some r) (aG e.en)) Iz rfl rfl (fun r x hx=>by rw[List.mem_singleton.1 hx]) (cfl _) fun r=>JL.nil (kk r nofun))
   · (intro x' EF MF Q kk;exact JL.q (OQ.ov (o:=0) rfl rfl rfl Y610 rfl rfl) rfl (JL.nil (kk default nofun)))
   · (intro x' EF MF Q kk;exact JL.q (OQ.load qM rfl .here (Row.cell (v:=x.f.v) rfl)) rfl (JL.nil (kk default nofun)))
   · intro x' EF MF Q kk
     refine JL.append (b:=(x' 1).1) (cap:=(x' 1).2) (k:=(aG e.en).length) (xs:=(aG e.en).flatMap pc) (cs:=x.f.cells) (m:=x.f.l.length) (ad:=x.f.ad) (sc:=x.f.cap) (fun b' cap'=>(dr 65 (some (b',cap')) (aG e.en++bB e.en)++(x.f.an++[]))++MF) Tryz.underlying27 fN rfl rfl (fun b' cap'=>?_) Y758 (fun w' hw'=>by
      have h1:aa w [] ((dr 65 (some (x' 1)) (aG e.en)++(x.f.an++[]))++MF) w':=hw'
      rw[List.append_nil,List.append_assoc] at h1
      exact(gm.bU (M:=MF) (Sl.aa.weak h1 (aS _ (aj.refl _))) x.nf).reads) (fun v hv=>by obtain⟨p,_,hp⟩:=List.mem_flatMap.1 hv;exact Sl.u5 v hp) rfl Y610 Y759 Y759 rfl fun b' cap'=>?_
     · show aR (⟨(x' 1).1,Sl.Own 65 2 (aG e.en).length (x' 1).2 ((aG e.en).flatMap pc),true⟩::((x.f.an++[])++MF)) _ _ _ _ (⟨b',Sl.Own 65 2 (aG e.en++bB e.en).length cap' ((aG e.en++bB e.en).flatMap pc),true⟩::((x.f.an++[])++MF))
       rw[List.length_append,List.flatMap_append,show x.f.cells=(bB e.en).flatMap pc from congrArg (List.flatMap pc) xf,xf]
       exact .here
     · have e2:(aG e.en).length+x.f.l.length=(aG e.en++bB e.en).length:=by rw[List.length_append,xf]
       rw[e2]
       exact JL.nil (kk (b',cap') nofun)
   · (intro x' EF MF Q kk;exact JL.q (OQ.ov (o:=0) rfl rfl rfl Y610 rfl rfl) rfl (JL.nil (kk default nofun)))
   · (intro x' EF MF Q kk;exact JL.aP (v:=aD (some (x' 4)) (aG e.en++bB e.en).length) (r':=[aD (some (x' 4)) (aG e.en++bB e.en).length,x.s.v]) yT rfl rfl (iI _ _) (fZ _ _) .here Y614 rfl (JL.nil (kk (x' 4) (fun k h=>by cases h;rfl))))
 intro x' hx
 have z6:x' 6=x' 4:=hx 6 4 Y610 rfl
 show JE _ _ _ _ _ [(2,Pt b2 0),(4,Pt b4 0),(1,Pt b1 0)] ([⟨b4,Row 29 [aD (some (x' 6)) (aG e.en++bB e.en).length,x.s.v],true⟩]++([⟨b2,Row 29 [bV.v,aB.v],true⟩]++(dr 65 (some (x' 4)) (aG e.en++bB e.en)++(x.s.an++[]))))
 rw[z6]
 clear z6 hx
 generalize x' 4=z
 clear x' vs Ms cfl
 repeat(first|refine JL.q (by(apply OQ.aF (cs:=[aD (some z) (aG e.en++bB e.en).length,x.s.v]);exact c7;exact aZ;rfl;exact .here;rfl;exact Row.all)) rfl ?_|refine JC.seq ?_|refine JC.region ?_|refine JE.next ?_)
 refine JL.ax (cs:=[aD (some z) (aG e.en++bB e.en).length,x.s.v]) aZ rfl rfl rfl rfl (.there .here) rfl ?_
 refine Y39 ?_
 refine Y247 ?_
 skip
 refine JE.aV rfl (RV.aT (cs:=[aD (some z) (aG e.en++bB e.en).length,x.s.v]) c7 aZ rfl (.there .here) rfl Row.all) (RV.tmp rfl) fun w' hw=>?_
 refine⟨⟨ew (some z) (aG e.en++bB e.en),x.s,rfl,x.hs,nofun,x.ns⟩,rfl,?_⟩
 have h1:aa w [] (dr 65 (some z) (aG e.en++bB e.en)++(x.s.an++[])) w':=hw.weak (.drop _ _ _ (.drop _ _ _ (aj.refl _)))
 rw[List.append_nil] at h1
 show aa w [] ((ew (some z) (aG e.en++bB e.en)).an++x.s.an) w'
 exact Sl.aa.weak h1 (ot j8 _)
end
end Go.Proofs.YtdabhneehconeaaGreatDoor
