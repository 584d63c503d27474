/-
  Of no statement by itself: the texts Slfr, Slwi, RfA, FieE, RfB, ArmH, MibC, Slal, MimU, MimW, MimX, Slwb, MimY, MibD, MibQ, RfC, LetW, RfD, MimG in one.
  Conditions: each theorem's own.
-/
import Derived.Test.YtdabhneehconeaaGreatDoorDd
import Derived.OrdersIn
import Derived.Lib.Overlaps
import Derived.Laws.Tables
set_option linter.unusedSimpArgs false
set_option linter.unusedVariables false
set_option maxRecDepth 10000
set_option maxHeartbeats 64000000
open Go.Proofs.YtdabhneehconeaaGreatDoor.YY
namespace Go.Proofs.YtdabhneehconeaaGreatDoor
section
namespace Sl
section
variable {P:Program} {m l:Nat}
theorem vH{ops:Array Oper}{Q:Exit->Act->World->Prop}{i:Nat}{K K':Act->World->Prop}{a:Act}{w:World}(hd:ops.toList.all qw=true)(hQ:¬ LetsOut Q)(hK:∀ a w,K a w->K' a w)(h:wpOp P ops Q i K a w):wpOpIn (Rd l) m P ops Q i K' a w:=by
 unfold wpOp at h
 unfold wpOpIn
 cases ho:ops[i]? with
 | none=>rw[ho] at h;exact hK _ _ h
 | some o=>
   rw[ho] at h
   have hno:qw o=true:=List.all_eq_true.1 hd o (by
    have:=Array.mem_of_getElem? ho
    exact Array.mem_toList_iff.2 this)
   dsimp only at h⊢
   by_cases hw:Region.wanted o (yielded ops a.tmps)=true
   · rw[if_pos hw] at h⊢
     rcases h with h|h
     · exact vF hno hQ hK h
     · exact absurd h.2 hQ
   · rw[if_neg hw] at h⊢
     exact⟨fun _ _=>trivial,hK _ _ h⟩
theorem lK{md:Region.Mode}{ops:Array Oper}{Q:Exit->Act->World->Prop}(hd:ops.toList.all qw=true)(hQ:¬ LetsOut Q):∀ (fuel:Nat) (listed:Array Bool) (a:Act) (w:World),wpAny P md ops Q fuel listed a w->wpAnyIn (Rd l) m P md ops Q fuel listed a w
 | 0,_,_,_,h=>h
 | fuel+1,listed,a,w,h=>⟨h.1,fun i hi=>vH hd hQ (fun a w=>lK hd hQ fuel _ a w) (h.2 i hi)⟩
end
section
variable {P:Program} {n:Nat} {w0:World} {S:List Nat} {Q Q':Exit->Act->World->Prop} {E:Env} {M:List aL} {m r:Nat}
theorem JR.nt{Y:Type}{l:List Oper}[Inhabited Y](g:dU Y)(outs:List (Nat × Nat))(ends:List Nat){id:Nat}(hd:l.all qw=true)(hQ:¬ LetsOut Q)(hm:P.follows .mixedOrders=true)(hE:af E g.E0)(hE1:∀ i,i<l.length->af E (g.E1 i))(hM:aj (((List.range g.N).filter fun j=>decide (l.length<=j)).flatMap fun j=>g.M j default) M)
  (hok:g.iU l 0 l=true) (ho:(outs.all fun p=>decide (p.1<l.length)&&gE l p.1==some p.2)=true)
  (he:(pZ ends&&ends.all fun j=>decide (j<g.N)&&(List.range l.length).all fun k=>!(g.zy k).contains j)=true)
  (hj:g.uL P n w0 S l 0 l)
  (k:∀ x:Nat->Y,(∀ j k,j<l.length->g.src j=some k->g.R j (x j) (x k))->JE n w0 S Q .normal (outs.map (fun p=>(p.2,g.v p.1 (x p.1)))++g.E0) (ends.flatMap fun j=>g.M j (x j))):JR P n w0 S r m Q (.region id l.toArray true) E M:=
 ⟨fun a w ha hw=>wpIn_region_any hm (lK (by simpa using hd) hQ _ _ _ _ (yo g outs ends hE hE1 hM hok ho he hj k ha hw))⟩
theorem JR.cond{c:Operand}{x y:Code}{t:Bool}(hc:ev E c=some (.bool t))(ht:t=true->JR P n w0 S r m Q x E M)(hf:t=false->JR P n w0 S r m Q y E M):JR P n w0 S r m Q (.cond c x y) E M:=
 ⟨fun a w ha hw=>wpIn_cond_split (ha.eval hc) (fun h=>(ht h).go a w ha hw) (fun h=>(hf h).go a w ha hw)⟩
theorem JR.skip(h:JE n w0 S Q .normal E M):JR P n w0 S r m Q .skip E M:=⟨fun a w ha hw=>wpIn_skip (h.go a w ha hw)⟩
theorem JR.ret(h:JE n w0 S Q .ret E M):JR P n w0 S r m Q .ret E M:=⟨fun a w ha hw=>wpIn_ret (h.go a w ha hw)⟩
theorem JR.less{c:Code}{M':List aL}(hM:aj M' M)(h:JR P n w0 S r m Q c E M'):JR P n w0 S r m Q c E M:=⟨fun a w ha hw=>h.go a w ha (hw.weak hM)⟩
theorem JR.perm{c:Code}{M':List aL}(hp:M.Perm M')(h:JR P n w0 S r m Q c E M'):JR P n w0 S r m Q c E M:=⟨fun a w ha hw=>h.go a w ha (hw.perm hp)⟩
end
theorem FL.ai{P:Program}{n m:Nat}{W:World}{ops:Array Oper}{Q:Exit->Act->World->Prop}{os:List Oper}{E:Env}{d:Nat}{ty:TypeId}{pos:String}{aft:Array Edge}{v:Value}{f:FuncId}{xs:List Operand}{ats:Array TypeId}{vs:List Value}(hg:aJ P f)(hx:pK E xs=some vs)(hd:Nat.blt d n=true)
  (hc:Calls P f vs.toArray W fun e w'=>e=.returned v/\Ext W w') (k:∀ W',Ext W W'->FL P n m W' ops Q os ((d,v)::E)):FL P n m W ops Q (⟨some d,.call ⟨.value (.func f),xs.toArray,ats⟩,ty,pos,aft,none⟩::os) E:=
 ⟨fun a ha=>wpListIn_plain rfl fun K hK=>by
  refine⟨fun _ _=>trivial,?_⟩
  have e:Oper.semAt Fence.wide.round a.eval ⟨some d,.call ⟨.value (.func f),xs.toArray,ats⟩,ty,pos,aft,none⟩=execOp a.eval ⟨some d,.call ⟨.value (.func f),xs.toArray,ats⟩,ty,pos,aft,none⟩:=rfl
  rw[e,lu hg ha hx W]
  refine⟨fun h=>(by cases h),(callsIn_wide (n:=m-1)).2 (hc.mono ?_)⟩
  rintro e w2 ⟨rfl,h2⟩
  exact hK _ _ ((k w2 h2).go _ (ha.put d v hd))⟩
theorem FL.PT{P:Program}{n:Nat}{W:World}{ops:Array Oper}{Q:Exit->Act->World->Prop}{os:List Oper}{E:Env}{d:Nat}{ty:TypeId}{pos:String}{aft:Array Edge}{v v':Value}{l:Nat}{x y y':Operand}{t t':TypeId}{R:Ending->World->Prop}(hx:ev E x=some (.func (.yield l) #[] #[]))(hy:ev E y=some v)(hy':ev E y'=some v')(hd:Nat.blt d n=true)(h:YieldAt Fence.wide 1 P l #[v,v'] W R)
  (hR:∀ e W',R e W'->∃ b,e=.returned (.bool b)/\FL P n 2 W' ops Q os ((d,.bool b)::E)):FL P n 2 W ops Q (⟨some d,.call ⟨.value x,#[y,y'],#[t,t']⟩,ty,pos,aft,none⟩::os) E:=
 ⟨fun a ha=>wpListIn_plain rfl fun K hK=>by
  obtain⟨fn,tmps,assign,body,hrun,hro⟩:=h
  refine⟨fun _ _=>trivial,?_⟩
  have e:(Oper.semAt Fence.wide.round a.eval ⟨some d,.call ⟨.value x,#[y,y'],#[t,t']⟩,ty,pos,aft,none⟩).run P W=.ok (.round l fn tmps assign body) W:=by
   have e0:Oper.semAt Fence.wide.round a.eval ⟨some d,.call ⟨.value x,#[y,y'],#[t,t']⟩,ty,pos,aft,none⟩=execOp a.eval ⟨some d,.call ⟨.value x,#[y,y'],#[t,t']⟩,ty,pos,aft,none⟩:=rfl
   rw[e0]
   simp only[execOp,resolve,Sem.run_bind,ha.eval hx,List.map_toArray,List.map_cons,List.map_nil,ha.eval hy,ha.eval hy',Deferred.ofValue,Sem.run_pure,Result.andThen_ok,invoke]
   simpa using hrun
  rw[e]
  refine⟨fun h=>(by cases h),hro.mono fun e W' hr=>?_⟩
  obtain⟨b,rfl,hl⟩:=hR e W' hr
  exact hK _ _ (hl.go _ (ha.put d _ hd))⟩
theorem FC.mid{P:Program}{n:Nat}{W:World}{Q:Exit->Act->World->Prop}{E:Env}{x y:Code}(Em:Env)(h:FC P n W (Exit.then (fun a w=>bF n Em a/\w=W) Q) x E)(k:FC P n W Q y Em):FC P n W Q (.seq x y) E:=
 ⟨fun a ha=>wp_seq (wp_mono (h.go a ha) fun e a' w' he=>by
  cases e with
  | normal=>obtain⟨h1,rfl⟩:=he;exact k.go a' h1
  | exit _=>exact he
  | goto _=>exact he
  | ret=>exact he
  | panic _=>exact he
  | outgrown=>exact he)⟩
theorem FE.mid{n:Nat}{W:World}{Q:Exit->Act->World->Prop}{E Em:Env}(hE:af E Em):FE n W (Exit.then (fun a w=>bF n Em a/\w=W) Q) .normal E:=⟨fun _ ha=>⟨ha.sub hE,rfl⟩⟩
section
variable {P:Program} {D n:Nat} {w0:World} {S:List Nat} {ops:Array Oper} {Q Q':Exit->Act->World->Prop} {os:List Oper} {E:Env} {M:List aL} {d:Nat} {op:Op} {ty:TypeId} {pos:String} {aft:Array Edge} {v:Value}
theorem KL.aP{M':List aL}{r r':List Value}{e t:TypeId}{x y:Operand}{b j:Nat}(hz:gX P t=some 1)(hx:ev E x=some (.pointer (some ⟨b,j,none⟩)))(hy:ev E y=some v)(hv:v.oneCell'=true)(hcl:v.cells=#[v])(hu:ki M b (Row e r) (Row e r') M')(hj:j<r.length)(he:r.set j v=r')
  (k:KL P D n w0 S ops Q os E M'):KL P D n w0 S ops Q (⟨none,.store t x y,ty,pos,aft,none⟩::os) E M:=
 ⟨fun a w ha hw=>wpList_plain rfl fun K hK=>by
  obtain⟨o,ho,hAo⟩:=hw.get hu.has
  cases hAo
  have hA':Row e r' (.cells (r.toArray.setIfInBounds j v) e (0,0)):=by simp[Row,he]
  have hs:(storeCells ⟨b,j,none⟩ [v] 0).run P w=.ok () (w.setCell ⟨b,j,none⟩ v):=by
   simp only[storeCells,Sem.run_bind,dH,Nat.add_zero]
   rw[q8 hv ho (by simpa using hj)];rfl
  have h1:(execOp a.eval ⟨none,.store t x y,ty,pos,aft,none⟩).run P w=.ok .skip (w.setCell ⟨b,j,none⟩ v):=by
   simp[execOp,ha.eval hx,ha.eval hy,Instr.storeAt,Instr.sureAddr,Sem.run_bind,storeVar,bR hz,hcl,hs]
  unfold Oper.wp
  rw[h1]
  exact hK _ _ (k.go _ _ ⟨ha.defers,ha.base⟩ (hw.write hu hA' (jv ho) jw (fun _ h=>jd h) rfl rfl rfl))⟩
theorem KE.aQ{id:Nat}(h:KE D n w0 S Q .ret E M):KE D n w0 S (Exit.inBlock id Q) .ret E M:=⟨h.go⟩
theorem KE.OP{m:Nat}{fn:Func}{R:Ending->World->Prop}{r1 r2:ResultVar}{v1 v2:Value}(hr:fn.results=#[r1,r2])(h1:RV P n w0 S E M r1 v1)(h2:RV P n w0 S E M r2 v2)(hR:∀ w,aa w0 S M w->R (.returned (.tuple #[v1,v2])) w):KE D n w0 S (bodyPostM Fence.wide m P fn R) .ret E (⟨D,Aa,true⟩::M):=by
 refine⟨fun a w ha hw=>nr (v:=.tuple #[v1,v2]) ha hw (fun w' hw'=>?_) hR⟩
 have e1:=h1 _ w' ha.base hw'
 have e2:=h2 _ w' ha.base hw'
 dsimp only at e1 e2
 rw[ia,hr]
 simp[e1,e2,Sem.run_bind]
end
theorem JE.R2{P:Program}{n m:Nat}{w0:World}{S:List Nat}{E:Env}{M:List aL}{fn:Func}{R:Ending->World->Prop}{r1 r2:ResultVar}{v1 v2:Value}(hr:fn.results=#[r1,r2])(h1:RV P n w0 S E M r1 v1)(h2:RV P n w0 S E M r2 v2)(hR:∀ w,aa w0 S M w->R (.returned (.tuple #[v1,v2])) w):JE n w0 S (bodyPostM Fence.wide m P fn R) .ret E M:=by
 refine⟨fun a w ha hw=>?_⟩
 show LeavesInM Fence.wide m P fn a.tmps R a.defers .returning w
 rw[ha.defers]
 refine⟨.tuple #[v1,v2],?_,hR w hw⟩
 have e1:=h1 a w ha hw
 have e2:=h2 a w ha hw
 rw[ia,hr]
 simp[Sem.run_bind,e1,e2]
theorem aa.still{w0 W W':World}{M:List aL}{row:Option Nat}(h:aa w0 [] M W)(hc:∀ e∈M,∀ o,e.A o->o.isCells=true)(hg:W.grownBy W' row)(hr:∀ k,row=some k->w0.heap.size<=k/\∃ o:Obj,W.heap[k]?=some o/\o.isCells=false):aa w0 [] M W':=by
 refine⟨⟨hg.os.trans h.aH.os,hg.tape.trans h.aH.tape,hg.output.trans h.aH.output,Nat.le_trans h.aH.size hg.size,fun k hk _=>?_⟩,h.nodup,fun e he=>⟨?_,(h.all e he).2⟩⟩
 · refine(hg.block k (Nat.lt_of_lt_of_le hk h.aH.size) fun e=>?_).trans (h.aH.block k hk Y614)
   have:=(hr k e.symm).1
   omega
 · obtain⟨o,ho,hA⟩:=(h.all e he).1
   refine⟨o,(hg.block e.b (h.lt he) fun e'=>?_).trans ho,hA⟩
   obtain⟨_,o2,ho2,hc2⟩:=hr _ e'.symm
   rw[ho] at ho2
   cases ho2
   rw[hc e he o hA] at hc2
   cases hc2
def R3(P:Program)(gf:Nat)(lb:Array Value)(enc:Nat->Value × Value)(L:List Nat)(N:Nat)(W0:World):Prop:=
 ∀ (l:Nat) (J:Nat->World->Prop) (X:World->Prop) (W:World),RowKit.Below W0.heap.size W0 W->(∀ k W1 W2,J k W1->Ext W1 W2->J k W2)->
   (∀ k W1,k<N->J k W1->YieldAt Fence.wide 1 P l #[(enc k).1,(enc k).2] W1 fun e W'=>(e=.returned (.bool true)/\J (k+1) W'/\vG L W1 W')\/(e=.returned (.bool false)/\X W'))->
   J 0 W->CallsIn Fence.wide 2 P gf (#[.func (.yield l) #[] #[]]++lb) W fun e W'=>(∃ v,e=.returned v)/\(J N W'\/X W')
def rR{ι κ:Type}(Mi:ι->List aL)(Inv:Nat->ι->Prop)(Mx:κ->List aL)(Fin:κ->Prop)(k:Nat)(w1:World)(S1:List Nat):Exit->Act->World->Prop
 | .normal,_,W'=>∃ j,Inv (k+1) j/\aa w1 S1 (Mi j) W'
 | .ret,_,W'=>∃ x,Fin x/\aa w1 S1 (Mx x) W'
 | _,_,_=>False
theorem au{ι κ:Type}{Mi:ι->List aL}{Inv:Nat->ι->Prop}{Mx:κ->List aL}{Fin:κ->Prop}{k:Nat}{w1:World}{S1:List Nat}:¬ LetsOut (rR Mi Inv Mx Fin k w1 S1):=fun ⟨_,_,h⟩=>h
section
variable {ι κ:Type} {Mi:ι->List aL} {Inv:Nat->ι->Prop} {Mx:κ->List aL} {Fin:κ->Prop} {k n:Nat} {w1:World} {S1:List Nat} {E:Env} {M:List aL}
theorem JE.vI(j:ι)(hj:Inv (k+1) j)(hM:aj (Mi j) M):JE n w1 S1 (rR Mi Inv Mx Fin k w1 S1) .normal E M:=⟨fun _ _ _ hw=>⟨j,hj,hw.weak hM⟩⟩
theorem JE.rR(x:κ)(hx:Fin x)(hM:aj (Mx x) M):JE n w1 S1 (rR Mi Inv Mx Fin k w1 S1) .ret E M:=⟨fun _ _ _ hw=>⟨x,hx,hw.weak hM⟩⟩
end
theorem NA(a:Act)(p1 p2:Nat)(v1 v2:Value)(hd:a.defers=[]):({ tmps:=(#[p1,p2].zip #[v1,v2]).foldl (fun t (x:Nat × Value)=>t.setIfInBounds x.1 x.2) a.tmps,defers:=[] }:Act)=(a.put (some p1) v1).put (some p2) v2:=by
 obtain⟨tm,df⟩:=a
 simp only at hd
 subst hd
 simp[Act.put]
theorem aa.mark{w0 W:World}{M:List aL}{D:Nat}(h:aa w0 [] M W)(hc:∀ e∈M,∀ o,e.A o->o.isCells=true)(hD:w0.heap.size<=D)(hk:W.heap[D]?=some (.deferred (some []))):aa w0 [] (⟨D,Aa,true⟩::M) W:=by
 refine⟨h.aH,?_,fun e he=>?_⟩
 · simp only[List.map_cons,List.nodup_cons,h.nodup,and_true]
   intro hm
   obtain⟨e,he,hb⟩:=List.mem_map.1 hm
   obtain⟨o,ho,hA⟩:=(h.all e he).1
   rw[hb,hk] at ho
   cases ho
   have:=hc e he _ hA
   cases this
 · rcases List.mem_cons.1 he with rfl|he
   · exact⟨⟨_,hk,rfl⟩,fun _=>.inr hD⟩
   · exact h.all e he
theorem oC{P:Program}{n l m:Nat}{Q:Exit->Act->World->Prop}{E:Env}{a:Act}{W:World}{id p d:Nat}{ty:TypeId}{pos:String}{v:Value}(hx:lk E p=some v)(ha:bF n E a)(hK:Q .normal (a.put (some d) v) W) :
  (Code.region id #[⟨some d,.assign (.tmp p),ty,pos,#[],none⟩] false).wpIn (Rd l) m P Q a W:=by
 refine wpIn_region_lit (wpListIn_plain rfl fun K' hK'=>⟨fun _ _=>trivial,?_⟩)
 have he:a.eval (.tmp p)=v:=ha.eval (x:=.tmp p) hx
 have hs:Oper.semAt (Rd l).round a.eval ⟨some d,.assign (.tmp p),ty,pos,#[],none⟩=.pure (.value v):=by
  refine(Oper.semAt_some l _ _ ?_).trans ?_
  · intro c h;cases h
  show Sem.pure (Next.value (_:Value))=_
  exact congrArg (fun v=>Sem.pure (Next.value v)) he
 show Oper.uponIn _ _ _ _ _ _ _ ((Oper.semAt (Rd l).round _ _).run P W)
 rw[hs]
 exact hK' _ _ (wpListIn_nil hK)
theorem JC.PU{P:Program}{n:Nat}{w0:World}{Q:Exit->Act->World->Prop}{E:Env}{M:List aL}{ι κ:Type}{g:Operand}{p1 p2 d1 d2 i1 i2:Nat}{t1 t2:TypeId}{s1 s2:String}{body:Code}{gf:Nat}{lb:Array Value}(enc:Nat->Value × Value)(L:List Nat)(N:Nat)
  (Mi:ι->List aL) (Inv:Nat->ι->Prop) (Mx:κ->List aL) (Fin:κ->Prop) (hg:ev E g=some (.func (.func gf) #[] lb)) (eg:∀ args w,(callFunc gf args).run P w=.ok (.enter gf args) w)
  (hseq:∀ W,aa w0 [] M W->R3 P gf lb enc L N W)
  (hcell:∀ i,∀ e∈Mi i,∀ o,e.A o->o.isCells=true) (hcelx:∀ i,∀ e∈Mx i,∀ o,e.A o->o.isCells=true) (hL:∀ i,∀ k∈L,k<w0.heap.size\/∃ A,Has (Mi i) k A false)
  (i0:ι) (h0:Inv 0 i0) (hM:∀ w,aa w0 [] M w->aa w0 [] (Mi i0) w) (hp1:Nat.blt p1 n=true) (hp2:Nat.blt p2 n=true) (hd1:Nat.blt d1 n=true) (hd2:Nat.blt d2 n=true)
  (he1:∀ v1 v2,lk ((p2,v2)::(p1,v1)::E) p1=some v1) (he2:∀ v1 v2,lk ((d1,v1)::(p2,v2)::(p1,v1)::E) p2=some v2)
  (hbody:∀ l k i w1,Inv k i->k<N->Ext w0 w1->(∀ b∈AF (Mi i),w0.heap.size<=b)->JR P n w1 (AF (Mi i)) l 1 (rR Mi Inv Mx Fin k w1 (AF (Mi i))) body ((d2,(enc k).2)::(d1,(enc k).1)::(p2,(enc k).2)::(p1,(enc k).1)::E) (Mi i))
  (hdone:∀ D i,Inv N i->KE D n w0 [] Q .normal E (⟨D,Aa,true⟩::Mi i))
  (hstop:∀ D x,Fin x->KE D n w0 [] Q .ret E (⟨D,Aa,true⟩::Mx x)) :
  JC P n w0 [] Q (.rangeFunc g #[p1,p2] (.seq (.region i1 #[⟨some d1,.assign (.tmp p1),t1,s1,#[],none⟩] false) (.region i2 #[⟨some d2,.assign (.tmp p2),t2,s2,#[],none⟩] false)) body) E M:=by
 refine⟨fun a w ha hw=>(wpIn_wide (n:=3)).1 (wpIn_rangeFunc fun fn hfn=>?_)⟩
 have hLw:∀ k∈L,k<w.heap.size:=fun k hk=>by
  rcases hL i0 k hk with h|⟨A,h⟩
  · exact Nat.lt_of_lt_of_le h hw.aH.size
  · exact(hM w hw).lt h.mem
 obtain⟨asg,hasg⟩:∃ c:Code,c=.seq (.region i1 #[⟨some d1,.assign (.tmp p1),t1,s1,#[],none⟩] false) (.region i2 #[⟨some d2,.assign (.tmp p2),t2,s2,#[],none⟩] false):=⟨_,rfl⟩
 rw[<- hasg]
 let R:LoopState->Option Code->Loop:=fun st pe=>{ state:=st,pending:=pe,fn:=fn,tmps:=a.tmps,params:=#[p1,p2],assign:=asg,body:=body,defers:=w.heap.size }
 have hsw0:w0.heap.size<=w.heap.size:=hw.aH.size
 have gw:=hM w hw
 have a1:aa w0 [] (Mi i0) (w.alloc (.deferred (some []))):=gw.still (hcell i0) (World.grownBy_alloc w _ none) nofun
 have a2:aa w0 [] (Mi i0) ((w.alloc (.deferred (some []))).alloc (.loop (R .ready none))):=a1.still (hcell i0) (World.grownBy_alloc _ _ none) nofun
 have hLp:((w.alloc (.deferred (some []))).alloc (.loop (R .ready none))).heap[w.heap.size+1]?=some (.loop (R .ready none)):=by
  have:=World.alloc_heap_new (w.alloc (.deferred (some []))) (.loop (R .ready none))
  rwa [World.size_alloc] at this
 have hDp:((w.alloc (.deferred (some []))).alloc (.loop (R .ready none))).heap[w.heap.size]?=some (.deferred (some [])):=
  (RowKit.Below.heap_alloc _ _ _ Y614).trans (World.alloc_heap_new w _)
 have hB:RowKit.Below w.heap.size w ((w.alloc (.deferred (some []))).alloc (.loop (R .ready none))):=((RowKit.Below.refl _ w).alloc (Nat.le_refl _) _).alloc Y614 _
 obtain⟨W1,hW1⟩:∃ W1,(w.alloc (.deferred (some []))).alloc (.loop (R .ready none))=W1:=⟨_,rfl⟩
 rw[hW1] at a2 hLp hDp hB
 have notin:∀ {i:ι} {W:World} {b:Nat} {o:Obj},aa w0 [] (Mi i) W->W.heap[b]?=some o->o.isCells=false->b ∉ AF (Mi i):=fun {i W b o} hH hb ho hm=>by
  obtain⟨e,he,_,rfl⟩:=od.1 hm
  obtain⟨o',ho',hA⟩:=(hH.all e he).1
  rw[hb] at ho'
  cases ho'
  rw[hcell i e he _ hA] at ho
  cases ho
 refine⟨w.heap.size+1,[Sl.mk w.heap.size],W1,{ target:=.fn (.func gf) lb,args:=#[.func (.yield (w.heap.size+1)) #[] #[]] },W1,gf,#[.func (.yield (w.heap.size+1)) #[] #[]]++lb,W1,?_,?_,fun _ _=>trivial,?_,(fun h=>by cases h),?_⟩
 · rw[<- hW1]
   exact run_enterLoop_outer _ _ _ _ _
 · simp only[resolve,ha.eval hg]
   simp[go_sem]
 · simp[invoke,go_sem,eg]
 refine(hseq w hw (w.heap.size+1) (fun k W=>(∃ i,Inv k i/\aa w0 [] (Mi i) W)/\W.heap[w.heap.size+1]?=some (.loop (R .ready none))/\W.heap[w.heap.size]?=some (.deferred (some [])))
  (fun W=>(∃ x,Fin x/\aa w0 [] (Mx x) W)/\W.heap[w.heap.size+1]?=some (.loop (R .done (some .ret)))/\W.heap[w.heap.size]?=some (.deferred (some []))) W1 hB ?_ ?_ ⟨⟨i0,h0,a2⟩,hLp,hDp⟩).mono ?_
 · rintro k Wa Wb ⟨⟨i,hi,hH⟩,hl,hd⟩ hx
   exact⟨⟨i,hi,hH.ext hx⟩,(hx.block _ (Array.getElem?_eq_some_iff.1 hl).1 Y614).trans hl,(hx.block _ (Array.getElem?_eq_some_iff.1 hd).1 Y614).trans hd⟩
 ·
   rintro k W hk ⟨⟨i,hi,hH⟩,hl,hd⟩
   refine⟨fn,_,asg,body,run_yield (P:=P) (args:=#[(enc k).1,(enc k).2]) hl rfl,roundIn_of_wpIn hfn ?_⟩
   rw[hasg]
   show Code.wpIn (Rd (w.heap.size+1)) 1 P _ _ ({ tmps:=(#[p1,p2].zip #[(enc k).1,(enc k).2]).foldl (fun t (x:Nat × Value)=>t.setIfInBounds x.1 x.2) a.tmps,defers:=[] }:Act) W
   rw[NA a p1 p2 _ _ ha.defers]
   have k2:=(ha.put p1 (enc k).1 hp1).put p2 (enc k).2 hp2
   have k3:=k2.put d1 (enc k).1 hd1
   have k4:=k3.put d2 (enc k).2 hd2
   refine wpIn_seq (oC (he1 _ _) k2 (oC (he2 _ _) k3 ⟨_,run_beginRound hl rfl,?_⟩))
   have hlt:w.heap.size+1<W.heap.size:=(Array.getElem?_eq_some_iff.1 hl).1
   obtain⟨W2,hW2⟩:∃ W2,W.putObj (w.heap.size+1) (.loop { R .ready none with state:=.busy })=W2:=⟨_,rfl⟩
   have hH2:aa w0 [] (Mi i) W2:=hW2▸hH.still (hcell i) (grownBy_putObj' W _ _) (fun r e=>by cases e;exact⟨by omega,_,hl,rfl⟩)
   have hl2:W2.heap[w.heap.size+1]?=some (.loop (R .busy none)):=hW2▸World.putObj_heap_same hlt
   have hd2':W2.heap[w.heap.size]?=some (.deferred (some [])):=by rw[<- hW2];exact(World.putObj_heap_other Y609).trans hd
   have kp2:∀ b,b<w.heap.size->W2.heap[b]?=W.heap[b]?:=fun b hb=>by rw[<- hW2];exact World.putObj_heap_other Y609
   have g2:W2.os=W.os/\W2.tape=W.tape/\W2.output=W.output/\W2.heap.size=W.heap.size:=by rw[<- hW2];exact⟨rfl,rfl,rfl,World.putObj_size⟩
   rw[hW2]
   refine wpIn_mono ((hbody (w.heap.size+1) k i W2 hi hk hH2.aH hH2.rQ).go _ W2 k4 hH2.KG) ?_
   have nl:=notin hH2 hl2 rfl
   have nd:=notin hH2 hd2' rfl
   have hs2:w.heap.size+1<W2.heap.size:=by rw[g2.2.2.2];exact hlt
   have kept:∀ {Mj:List aL} {W3:World},aa W2 (AF (Mi i)) Mj W3->W3.heap[w.heap.size+1]?=some (.loop (R .busy none))/\W3.heap[w.heap.size]?=some (.deferred (some [])):=fun {Mj W3} h3=>
    ⟨(h3.aH.block _ hs2 nl).trans hl2,(h3.aH.block _ Y609 nd).trans hd2'⟩
   rintro e a3 W3 hq
   cases e with
   | normal=>
     obtain⟨j,hj,h3⟩:=hq
     obtain⟨hl3,hd3⟩:=kept h3
     have hu:=hH2.DU h3
     refine⟨_,_,run_endRound (P:=P) none hl3,.inl ⟨rfl,⟨⟨j,hj,hu.still (hcell j) (grownBy_putObj' W3 _ _) (fun r e=>by cases e;exact⟨by omega,_,hl3,rfl⟩)⟩,World.putObj_heap_same (Array.getElem?_eq_some_iff.1 hl3).1,(World.putObj_heap_other Y609).trans hd3⟩,⟨h3.aH.os.trans g2.1,h3.aH.tape.trans g2.2.1,h3.aH.output.trans g2.2.2.1,?_,fun b hb=>?_⟩⟩⟩
     · rw[World.putObj_size,<- g2.2.2.2];exact h3.aH.size
     · have hbw:=hLw b hb
       refine(World.putObj_heap_other Y609).trans ((h3.aH.block b Y609 fun hm=>?_).trans (kp2 b hbw))
       rcases hL i b hb with hlt'|⟨A,hA⟩
       · have:=hH2.rQ b hm;omega
       · obtain⟨e,he,hwr,hbe⟩:=od.1 hm
         have:=yl hH2.nodup he hA.mem hbe
         subst this
         cases hwr
   | ret=>
     obtain⟨x,hx,h3⟩:=hq
     obtain⟨hl3,hd3⟩:=kept h3
     have hu:=hH2.DU h3
     exact⟨_,_,run_endRound (P:=P) (some .ret) hl3,.inr ⟨rfl,⟨x,hx,hu.still (hcelx x) (grownBy_putObj' W3 _ _) (fun r e=>by cases e;exact⟨by omega,_,hl3,rfl⟩)⟩,World.putObj_heap_same (Array.getElem?_eq_some_iff.1 hl3).1,(World.putObj_heap_other Y609).trans hd3⟩⟩
   | exit id=>exact hq.elim
   | goto t=>exact hq.elim
   | panic ch=>exact hq.elim
   | outgrown=>exact hq.elim
 ·
   have know:kS w.heap.size n E { a with defers:=[Sl.mk w.heap.size]++a.defers }:=⟨by show _++a.defers=_;rw[ha.defers];rfl,⟨ha.size,rfl,ha.all⟩⟩
   rintro e W2 ⟨⟨v,rfl⟩,(⟨⟨i,hi,hH⟩,hl,hd⟩|⟨⟨x,hx,hH⟩,hl,hd⟩)⟩
   · have h4:=hH.still (hcell i) (grownBy_putObj' W2 (w.heap.size+1) (.loop { R .ready none with state:=.exhausted })) (fun r e=>by cases e;exact⟨by omega,_,hl,rfl⟩)
     exact⟨none,_,run_endLoop hl (by simp[R]),(hdone w.heap.size i hi).go _ _ know (h4.mark (hcell i) hsw0 ((World.putObj_heap_other Y609).trans hd))⟩
   · have h4:=hH.still (hcelx x) (grownBy_putObj' W2 (w.heap.size+1) (.loop { R .done (some .ret) with state:=.exhausted })) (fun r e=>by cases e;exact⟨by omega,_,hl,rfl⟩)
     exact⟨some .ret,_,run_endLoop hl (by simp[R]),wpIn_ret ((hstop w.heap.size x hx).go _ _ know (h4.mark (hcelx x) hsw0 ((World.putObj_heap_other Y609).trans hd)))⟩
end Sl
end
section
namespace Sl
section
variable {w0 w w':World} {S:List Nat} {X Y M M0:List aL}
theorem gk{A B C D:List aL}(h:aj A B)(k:aj C D):aj (A++C) (B++D):=by
 induction h with
 | nil N=>
   induction N with
   | nil=>exact k
   | cons e N ih=>exact .drop _ _ _ ih
 | keep b A A' wr N N' h _ ih=>exact .keep b A A' wr _ _ h ih
 | drop e N N' _ ih=>exact .drop e _ _ ih
def keys(X:List aL):List Nat:=X.map aL.b
theorem aa.own(h:aa w0 S (X++M0) w):aa w (keys X) (X++GY M0) w:=by
 refine⟨pV.refl _ _,?_,fun e he=>?_⟩
 · have:(X++GY M0).map aL.b=(X++M0).map aL.b:=by simp[GY,Function.comp_def]
   rw[this];exact h.nodup
 · rcases List.mem_append.1 he with he|he
   · exact⟨(h.all e (List.mem_append_left _ he)).1,fun _=>.inl (List.mem_map_of_mem he)⟩
   · obtain⟨q,hq,rfl⟩:=List.mem_map.1 he
     exact⟨(h.all q (List.mem_append_right _ hq)).1,nofun⟩
end
section
variable {P:Program} {n:Nat} {w0:World} {S:List Nat} {ops:Array Oper} {Q:Exit->Act->World->Prop} {l:List Oper} {E:Env} {M M':List aL} {C:World->Prop}
variable {dst:Option Tmp} {d b j:Nat} {op:Op} {t t' ty e:TypeId} {pos:String} {aft:Array Edge} {g:Option (Nat × Bool)} {x y:Operand} {cs:List Value}
theorem KJ{b hi cap:Nat}:Value.slice (if cap=0 then some ⟨b,0,none⟩ else(some ⟨b,0,none⟩:Option Addr).map (·.add 0)) hi cap=.slice (some ⟨b,0,none⟩) hi cap:=by
 split <;> simp[Addr.add]
theorem JC.R4{A:Obj->Prop}{wr:Bool}{F:Prop}{c:Code}(hM:Has M b A wr)(hA:∀ o,A o->F)(k:F->JC P n w0 S Q c E M):JC P n w0 S Q c E M:=
 ⟨fun a w ha hw=>by obtain⟨o,_,h⟩:=hw.get hM;exact(k (hA o h)).go a w ha hw⟩
def KK(P:Program)(C:World->Prop)(D:Pr->Prop)(fv:Value)(p:Pr->Bool):Prop:=
 ∃ (f:FuncId) (caps:List Value),fv=.func (.func f) #[] caps.toArray/\aJ P f/\∀ (c:Pr) (w:World),D c->C w->Calls P f (.agg (pc c).toArray::caps).toArray w fun e w'=>e=.returned (.bool (p c))/\Ext w w'
theorem OQ.FP{D:Pr->Prop}{fv:Value}{p:Pr->Bool}{c:Pr}{r:Bool}(hF:KK P C D fv p)(hD:D c)(hC:∀ w,aa w0 S M w->C w)(hx:ev E x=some fv)(hy:ev E y=some (.agg (pc c).toArray))(h:p c=r){ats:Array TypeId}:OQ P n E (aa w0 S M) ⟨dst,.call ⟨.value x,#[y],ats⟩,ty,pos,aft,g⟩ (.bool r):=by
 obtain⟨f,caps,h1,h2,h3⟩:=hF
 subst h1
 refine⟨fun a hk w hw=>?_⟩
 have hy':pK E [y]=some [.agg (pc c).toArray]:=by simp[pK,hy]
 unfold Oper.quietAt
 rw[show(#[y]:Array Operand)=[y].toArray from rfl,oK (xs:=[y]) h2 hk hx hy' w]
 refine⟨rfl,(h3 c w hD (hC w hw)).mono fun e w' ⟨k1,k2⟩=>⟨?_,hw.ext k2⟩⟩
 rw[k1,h]
structure T5 (P:Program) (f:FuncId) (tS tR:TypeId):Prop where
 go:∃ fn,P.funcs[f]?=some fn/\(fn.name=="runtime.NumGoroutine")=false/\fn.body.isNone=true/\Extern.findNext fn=none/\Extern.find fn=some (Extern.SlicesOverlaps.overlaps #[tS,tS] #[tR])
end
end Sl
end
section
open Sl aq
namespace aq
end aq
end
section
open Sl
namespace aq
def Rb(k:Nat)(l r:List aq.By):Except Nat (Pr × List aq.By):=
 if fi 58 l=l.length\/¬ c8 (l.take (fi 58 l))=true then .error 3
 else if k=200 then .error 4
 else match gR r with
  | none=>.error 3
  | some (vs,r')=>
    if 8192<(trim (l.drop (fi 58 l+1)++vs)).length then .error 4
    else if ¬ (trim (l.drop (fi 58 l+1)++vs)).all fB=true then .error 3
    else .ok ((l.take (fi 58 l),trim (l.drop (fi 58 l+1)++vs)),r')
theorem FQ(c:aq.By)(l:List aq.By):l.take (fi c l)=l.takeWhile (· != c):=by
 obtain⟨t,ht⟩:=List.takeWhile_prefix (· != c) (l:=l)
 unfold fi
 conv=>lhs;rw[<- ht]
 rw[show((l.takeWhile (· != c))++t).takeWhile (· != c)=l.takeWhile (· != c) by rw[ht]]
 exact List.take_left' rfl
def rf(k:Nat)(b:List aq.By):Except Nat (Pr × List aq.By):=
 match cut b with
 | none=>.error 3
 | some (l,r)=>Rb k l r
theorem rS:∀ (n:Nat) (b:List aq.By),b.length<=n->∀ p,gR b=some p->p.2.length<=b.length/\p.1.length+p.2.length<=b.length:=by
 intro n
 induction n with
 | zero=>
   intro b hb p h
   obtain rfl:b=[]:=List.eq_nil_of_length_eq_zero Y609
   rw[mT (.inl rfl)] at h
   cases h
   exact⟨Nat.le_refl _,by simp⟩
 | succ n ih=>
   intro b hb p h
   by_cases hg:bl (b.getD 0 0)=true/\b≠[]
   · cases hc:cut b with
     | none=>rw[ur hg hc] at h;cases h
     | some q=>
       obtain⟨l,r⟩:=q
       rw[lS hg hc] at h
       obtain⟨p',h1,h2⟩:=Option.map_eq_some_iff.1 h
       have hlt:=ug hc
       obtain⟨k1,k2⟩:=ih r Y609 p' h1
       subst h2
       obtain⟨a1,a2,a3⟩:=JT hc
       have hll:l.length<=(bf b).length:=by
        rw[a2]
        unfold oF
        split
        · rw[List.length_dropLast];omega
        · exact Nat.le_refl _
       have hrl:r.length=b.length-((bf b).length+1):=by rw[a3,List.length_drop]
       refine⟨by dsimp only;omega,?_⟩
       dsimp only
       rw[List.length_append]
       omega
   · rw[mT (by
      by_cases hb0:b=[]
      · exact .inl hb0
      · refine .inr ?_
        cases hbl:bl (b.getD 0 0) with
        | true=>exact absurd ⟨hbl,hb0⟩ hg
        | false=>rfl)] at h
     cases h
     exact⟨Nat.le_refl _,by simp⟩
theorem PV{k:Nat}{b:List aq.By}{e:Nat}(h:rf k b=.error e):e=3\/e=4:=by
 unfold rf at h
 split at h
 · cases h;exact .inl rfl
 · unfold Rb at h
   split at h
   · cases h;exact .inl rfl
   · split at h
     · cases h;exact .inr rfl
     · split at h
       · cases h;exact .inl rfl
       · split at h
         · cases h;exact .inr rfl
         · split at h
           · cases h;exact .inl rfl
           · cases h
theorem R5{k:Nat}{b:List aq.By}{p:Pr × List aq.By}(h:rf k b=.ok p):p.2.length<b.length/\k≠200:=by
 unfold rf at h
 split at h
 · cases h
 · next l r hc=>
   have hlt:=ug hc
   unfold Rb at h
   split at h
   · cases h
   · split at h
     · cases h
     · next hk=>
       split at h
       · cases h
       · next vs r' hv=>
         have:=rS r.length r (Nat.le_refl _) _ hv
         dsimp only at this
         split at h
         · cases h
         · split at h
           · cases h
           · cases h
             exact⟨by dsimp only;omega,hk⟩
theorem NB{k:Nat}{b:List aq.By}(hns:∀ r,cut b≠some ([],r)):rd k b=(match rf k b with
  | .error e=>.error e
  | .ok p=>(rd (k+1) p.2).map fun q=>(p.1::q.1,q.2)):=by
 cases hc:cut b with
 | none=>
   rw[zi hc]
   unfold rf
   rw[hc]
 | some q=>
   obtain⟨l,r⟩:=q
   have hl:l≠[]:=fun h=>hns r (by rw[hc,h])
   have hlt:=ug hc
   rw[rd]
   split
   · next h'=>rw[hc] at h';cases h'
   · next l' r2 h'=>
     rw[hc] at h'
     cases h'
     rw[if_neg hl]
     unfold rf
     rw[hc]
     dsimp only
     unfold Rb
     have e1:l.takeWhile (· != 58)=l.take (fi 58 l):=(FQ 58 l).symm
     have e2:(l.take (fi 58 l)).length=fi 58 l:=by rw[FQ];rfl
     simp only[e1,e2]
     by_cases h1:fi 58 l=l.length\/¬ c8 (l.take (fi 58 l))=true
     · rw[if_pos h1,if_pos h1]
     · rw[if_neg h1,if_neg h1]
       by_cases h2:k=200
       · rw[if_pos h2,if_pos h2]
       · rw[if_neg h2,if_neg h2]
         split
         · next hv=>rw[hv]
         · next vs r' hv=>
           have hcl:=rS r.length r (Nat.le_refl _) _ hv
           dsimp only at hcl
           rw[hv]
           dsimp only
           by_cases h3:8192<(trim (l.drop (fi 58 l+1)++vs)).length
           · rw[if_pos h3,if_pos h3]
           · rw[if_neg h3,if_neg h3]
             by_cases h4:¬ (trim (l.drop (fi 58 l+1)++vs)).all fB=true
             · rw[if_pos h4,if_pos h4]
             · rw[if_neg h4,if_neg h4,dif_pos Y609]
end aq
def nu{α:Type}:Except Nat α->Nat
 | .ok _=>0
 | .error k=>k
def NC:Except Nat (List Pr × List Bt)->List Pr
 | .ok q=>q.1
 | .error _=>[]
def R6:Except Nat (List Pr × List Bt)->List Bt
 | .ok q=>q.2
 | .error _=>[]
open aq
structure L9 (x:Except Nat (List Pr × List Bt)) where
 f:gm
 s:ay
 hf:f.l=NC x
 hs:s.l=R6 x
 nf:f.ad=none->f.l=[]
 ns:s.ad=none->s.l=[]
theorem L9.wr{x:Except Nat (List Pr × List Bt)}(q:L9 x):∀ e∈q.s.an++q.f.an,e.wr=true:=fun e he=>by
 rcases List.mem_append.1 he with h|h
 · exact q.s.bH e h
 · exact q.f.bH e h
theorem HE{e:TypeId}{q:Acc}{l:List Bt}:aj (eO q l).an (bw e q (l.map U8)):=by
 cases q with
 | none=>exact .nil _
 | some p=>exact jf Y684
theorem j8{e:TypeId}{q:Acc}{l:List Pr}:aj (ew q l).an (dr e q l):=by
 cases q with
 | none=>exact .nil _
 | some p=>exact rH
theorem HF{q:Acc}{l:List Bt}(h:(eO q l).ad=none):(eO q l).l=[]:=by
 cases q with
 | none=>rfl
 | some p=>cases h
theorem DW{q:Acc}{l:List Pr}(h:(ew q l).ad=none):(ew q l).l=[]:=by
 cases q with
 | none=>rfl
 | some p=>cases h
end
section
open Sl aq
namespace aq
theorem vg{l:List By}(h0:l≠[])(h:bl (l.getD 0 0)=true):aO l=aO (l.drop 1):=by
 cases l with
 | nil=>exact absurd rfl h0
 | cons c r=>
   unfold aO
   rw[List.dropWhile_cons,show bl c=true from h]
   rfl
end aq
def ay.mid(s:ay)(lo hi:Nat):ay:=⟨if s.cap=lo then s.ad else s.ad.map (·.add (lo*1)),s.cap-lo,(s.l.take hi).drop lo⟩
theorem ay.ok.mid{s:ay}{w:World}(h:s.ok w){lo hi:Nat}(h1:lo<=hi)(h2:hi<=s.l.length):(s.mid lo hi).ok w:=by
 have h3:=(h.snd lo Y609).reads.take (hi-lo)
 rw[<- List.map_take] at h3
 refine⟨?_,?_⟩
 · show((s.l.take hi).drop lo).length<=s.cap-lo
   have:=h.len
   rw[List.length_drop,List.length_take]
   omega
 · show Reads w _ (((s.l.take hi).drop lo).map U8)
   rw[List.drop_take]
   exact h3
theorem OQ.R7{P:Program}{n:Nat}{E:Env}{C:World->Prop}{dst:Option Tmp}{t ty e:TypeId}{pos:String}{aft:Array Edge}{g:Option (Nat × Bool)}{x y z:Operand}{s:ay}{lo hi:Nat}(hu:P.underlying t=some (.slice e))(hz:gX P e=some 1)(hx:ev E x=some s.v)(hl:ev E y=some (N lo))(hh:ev E z=some (N hi))(h:lo<=hi)(h':hi<=s.l.length)(hc:s.l.length<=s.cap) :
  OQ P n E C ⟨dst,.slice t x (some y) (some z) none,ty,pos,aft,g⟩ (s.mid lo hi).v:=
 OQ.to (OQ.A9 (ad:=s.ad) (len:=s.l.length) (cap:=s.cap) hu hz hx hl hh h (Nat.le_trans h' hc)) (by simp[ay.v,ay.mid,Nat.min_eq_left h'])
def View(b:Nat)(D:List Bt)(z:ay):Prop:=z.l.length<=z.cap/\∃ off,z.ad=some ⟨b,off,none⟩/\∀ i,i<z.l.length->(D.map U8)[off+i]?=(z.l.map U8)[i]?
theorem View.snd{b:Nat}{D:List Bt}{z:ay}(h:View b D z)(m:Nat)(hm:m<=z.l.length):View b D (z.snd m):=by
 obtain⟨h1,off,h2,h3⟩:=h
 have hl:(z.snd m).l.length=z.l.length-m:=List.length_drop
 refine⟨by rw[hl];show _<=z.cap-m;omega,?_⟩
 by_cases hc:z.cap=m
 · refine⟨off,?_,fun i hi=>by omega⟩
   show(if z.cap=m then z.ad else _)=_
   rw[if_pos hc,h2]
 · refine⟨off+m,?_,fun i hi=>?_⟩
   · show(if z.cap=m then z.ad else z.ad.map (·.add (m*1)))=_
     rw[if_neg hc,h2]
     simp[Addr.add]
   · rw[Nat.add_assoc,h3 (m+i) Y609]
     show _=((z.l.drop m).map U8)[i]?
     rw[List.map_drop,List.getElem?_drop]
theorem View.fst{b:Nat}{D:List Bt}{z:ay}(h:View b D z)(m:Nat):View b D (z.fst m):=by
 obtain⟨h1,off,h2,h3⟩:=h
 have hl:(z.fst m).l.length=min m z.l.length:=List.length_take
 refine⟨by rw[hl];show _<=z.cap;omega,off,?_,fun i hi=>?_⟩
 · show(if z.cap=0 then z.ad else z.ad.map (·.add 0))=_
   rw[h2]
   split <;> simp[Addr.add]
 · rw[h3 i Y609]
   show _=((z.l.take m).map U8)[i]?
   rw[List.map_take,List.getElem?_take,if_pos Y609]
theorem View.ok{b k cap:Nat}{e:TypeId}{D:List Bt}{z:ay}{w0 w:World}{S:List Nat}{M:List aL}{wr:Bool}(h:View b D z)(hw:aa w0 S M w)(hM:Has M b (Sl.Own e 1 k cap (D.map U8)) wr):z.ok w:=by
 obtain⟨h1,off,h2,h3⟩:=h
 obtain⟨o,ho,hA⟩:=hw.get hM
 obtain⟨c,e',fr,rfl,hcc⟩:=Sl.Own.cells _ hA
 refine⟨h1,?_⟩
 rw[h2]
 refine Reads.block ho ⟨c,e',fr,rfl,fun i hi=>?_⟩
 have hi':i<z.l.length:=by simpa using hi
 rw[<- h3 i hi']
 have hlt:off+i<(D.map U8).length:=by
  have:=h3 i hi'
  rw[List.getElem?_eq_getElem hi] at this
  exact(List.getElem?_eq_some_iff.1 this).1
 have:=hcc (off+i) hlt
 rwa [Nat.zero_add] at this
theorem View.at{b:Nat}{D:List Bt}{z:ay}(h:View b D z):∃ off,z.v=.slice (some ⟨b,off,none⟩) z.l.length z.cap/\∀ i,i<z.l.length->(D.map U8)[off+i]?=some (U8 (z.l.getD i 0)):=by
 obtain⟨h1,off,h2,h3⟩:=h
 refine⟨off,?_,fun i hi=>?_⟩
 · unfold ay.v
   rw[h2]
 · rw[h3 i hi]
   exact dF U8 0 hi
end
section
open Sl
def ay.part(s:ay)(k j:Nat):ay:=⟨if s.cap=k*j then s.ad else s.ad.map (·.add (k*j*1)),s.cap-k*j,(s.l.drop (k*j)).take k⟩
theorem PW(s:ay)(k j:Nat)(h:k*j<=s.l.length):(s.part k j).v=.slice (if s.cap=k*j then s.ad else s.ad.map (·.add (k*j*1))) (min (k*j+k) s.l.length-k*j) (s.cap-k*j):=by
 show Value.slice _ ((s.l.drop (k*j)).take k).length _=_
 rw[List.length_take,List.length_drop]
 congr 1
 omega
theorem tU{s:ay}{w:World}(h:s.ok w)(k j:Nat):(s.part k j).ok w:=by
 refine⟨?_,?_⟩
 · show((s.l.drop (k*j)).take k).length<=s.cap-k*j
   have:=h.len
   rw[List.length_take,List.length_drop]
   omega
 · show Reads w _ (((s.l.drop (k*j)).take k).map U8)
   by_cases h0:s.l.length<=k*j
   · rw[List.drop_eq_nil_of_le h0]
     simpa using Reads.nil _ _
   · obtain⟨b,i,hae,hc⟩:=h.reads.at Y624
     have hcap:¬ s.cap=k*j:=by have:=h.len;omega
     rw[show(s.part k j).ad=some ⟨b,i+k*j,none⟩ by
      show(if s.cap=k*j then s.ad else s.ad.map (·.add (k*j*1)))=_
      rw[if_neg hcap,hae]
      simp[dH]]
     intro t v hv
     refine⟨b,i+k*j,rfl,?_⟩
     have hv':(s.l.map U8)[k*j+t]?=some v:=by
      rw[List.getElem?_map] at hv⊢
      rw[List.getElem?_take] at hv
      split at hv
      · rw[List.getElem?_drop] at hv;exact hv
      · simp at hv
     have:=hc (k*j+t) v hv'
     rwa [<- Nat.add_assoc] at this
def parts(s:ay)(k:Nat):Nat:=(s.l.length+k-1) / k
theorem BV{s:ay}{k j:Nat}(hk:0<k):j<parts s k↔k*j<s.l.length:=by
 unfold parts
 rw[Nat.lt_div_iff_mul_lt hk,Nat.mul_comm]
 omega
theorem OQ.PX{P:Program}{n:Nat}{E:Env}{C:World->Prop}{dst:Option Tmp}{t ty e:TypeId}{pos:String}{aft:Array Edge}{g:Option (Nat × Bool)}{x y z:Operand}{s:ay}{k j:Nat}(hu:P.underlying t=some (.slice e))(hz:gX P e=some 1)(hx:ev E x=some s.v)(hl:ev E y=some (N (k*j)))(hh:ev E z=some (N (min (k*j+k) s.l.length)))(h:k*j<=s.l.length)(hc:s.l.length<=s.cap) :
  OQ P n E C ⟨dst,.slice t x (some y) (some z) none,ty,pos,aft,g⟩ (s.part k j).v:=by
 rw[PW s k j h]
 exact OQ.A9 hu hz hx hl hh Y609 Y609
theorem OQ.R8{P:Program}{n:Nat}{E:Env}{C:World->Prop}{dst:Option Tmp}{ty:TypeId}{pos:String}{aft:Array Edge}{g:Option (Nat × Bool)}{f:FuncId}{x y:Operand}{vx vy:Value}(hx:ev E x=some vx)(hy:ev E y=some vy):OQ P n E C ⟨dst,.makeFunc (.func f) #[] #[x,y],ty,pos,aft,g⟩ (.func (.func f) #[] #[vx,vy]):=
 OQ.run fun a ha w _=>by simp[execOp,ha.eval hx,ha.eval hy,Instr.makeFunc]
theorem nv:aJ Tryz.prog 142:=⟨_,Tryz.func142,rfl,by kernel_rfl⟩
theorem oZ(s:ay)(k:Nat)(w:World):Calls Tryz.prog 142 [s.v,N k].toArray w fun e w'=>∃ q:Nat × Nat,e=.returned (.func (.func 197) #[] #[Pt q.1 0,Pt q.2 0])/\aa w [] [⟨q.2,Row 3 [N k],true⟩,⟨q.1,Row 22 [s.v],true⟩] w':=by
 refine enter (n:=6) Tryz.func142 rfl rfl rfl (aa.start w []) ?_
 refine Y83 ?_
 refine JL.box rfl rfl rfl fun b1 _=>?_
 refine JL.box rfl rfl rfl fun b2 _=>?_
 repeat(first|refine JL.q (by first|(apply OQ.R8;rfl;rfl)|exact Y324) rfl ?_|refine JC.seq ?_|refine JC.region ?_|refine JL.nil ?_|refine JE.next ?_)
 refine JC.ret (JE.aK rfl (RV.tmp rfl) ?_)
 exact fun w' hw=>⟨(b1,b2),rfl,hw⟩
theorem jk{P:Program}{n:Nat}{E:Env}{dst:Option Tmp}{t ty:TypeId}{pos:String}{aft:Array Edge}{g:Option (Nat × Bool)}{x:Operand}{b j:Nat}{v:Value}{W:World}{o:Obj}(hs:gD P t=true)(hx:ev E x=some (.pointer (some ⟨b,j,none⟩)))(ho:W.heap[b]?=some o)(hA:cellAt o j=some v):OQ P n E (fun w=>w=W) ⟨dst,.load t x,ty,pos,aft,g⟩ v:=
 OQ.pW (fun _ hw=>by rw[hw];exact ju hs (cell_of ho hA)) hx
theorem mm(s:ay)(k b1 b2:Nat)(hk:0<k)(hc:s.l.length<=s.cap)(hl:s.l.length+k<9223372036854775808)(W0:World){o1 o2:Obj}(h1:W0.heap[b1]?=some o1)(h1':cellAt o1 0=some s.v)(h2:W0.heap[b2]?=some o2)(h2':cellAt o2 0=some (N k)) :
  SeqStopsK Fence.wide 2 Tryz.prog 197 #[Pt b1 0,Pt b2 0] (fun j=>#[(s.part k j).v]) (vG [b1,b2]) (fun xs=>xs=List.range (parts s k)) (fun _=>True) (parts s k) W0:=by
 intro l J Jx W hW hJ hJx hY h0
 have hb1:b1<W0.heap.size:=(Array.getElem?_eq_some_iff.1 h1).1
 have hb2:b2<W0.heap.size:=(Array.getElem?_eq_some_iff.1 h2).1
 refine callsIn_wide.2 ?_
 refine KI (n:=24) (vs:=[.func (.yield l) #[] #[],Pt b1 0,Pt b2 0]) Tryz.func197 rfl rfl rfl ?_
 refine FC.seq (FC.region (FL.q (OQ.assign rfl) rfl rfl (FL.nil (FE.next ?_))))
 refine FC.block (FC.loop (fun j:Nat=>[(0,.func (.yield l) #[] #[]),(1,Pt b1 0),(2,Pt b2 0),(4,N (k*j))])
  (fun j w=>j<=parts s k/\J (List.range j) w/\w.heap[b1]?=some o1/\w.heap[b2]?=some o2) (fun j=>parts s k-j) 0 ⟨Nat.zero_le _,h0,(hW.block b1 hb1).trans h1,(hW.block b2 hb2).trans h2⟩ Y640 ?_)
 rintro j w ⟨hj,hJj,g1,g2⟩
 dsimp only
 repeat(first|refine FL.q Y685 rfl rfl ?_|refine Y110 ?_)
 refine FC.cond rfl (fun h=>?_) (fun h=>?_)
 · have hjl:k*j<s.l.length:=of_decide_eq_true h
   have hjp:j<parts s k:=(BV hk).2 hjl
   clear h
   repeat(first|refine FL.q (by first|(apply jk;rfl;rfl;exact g1;exact h1')|(apply jk;rfl;rfl;exact g2;exact h2')|exact Y406|(apply OQ.Tb;rfl;rfl)|(apply OQ.PX;exact Tryz.underlying22;exact dD;rfl;rfl;rfl;exact Y609;exact hc)|exact Y323|exact Y337) rfl rfl ?_|refine Y111 ?_)
   refine FL.yield (v:=(s.part k j).v) ?_ ?_ ?_ (hY (List.range j) j w hJj (by simpa using hjp)) ?_
   · rfl
   · rfl
   · rfl
   rintro e W' (⟨rfl,hJ',hk'⟩|⟨rfl,hJx'⟩)
   · refine⟨true,rfl,?_⟩
     have g1':=(hk'.same b1 Y614).trans g1
     have g2':=(hk'.same b2 Y614).trans g2
     repeat(first|refine FL.q (by exact Y329) rfl rfl ?_|refine FL.nil ?_|refine FE.next ?_)
     refine FC.cond rfl (fun h=>by cases h) (fun _=>?_)
     repeat(first|refine FL.q (by first|(apply jk;rfl;rfl;exact g2';exact h2')|exact Y323|exact Y324|exact Y337) rfl rfl ?_|refine FC.region ?_|refine FC.skip ?_|refine FL.nil ?_|refine FE.next ?_|refine FE.ah ?_)
     refine FE.again (i:=j) (j+1) ⟨by omega,by rw[List.range_succ];exact hJ',g1',g2'⟩ (by show parts s k-(j+1)<parts s k-j;omega) ?_
     rw[show k*(j+1)=k*j+k from Nat.mul_succ k j]
     exact Y269
   · refine⟨false,rfl,?_⟩
     repeat(first|refine FL.q (by exact Y329) rfl rfl ?_|refine FL.nil ?_|refine FE.next ?_)
     refine FC.cond rfl (fun _=>?_) (fun h=>by cases h)
     refine FC.ret ?_
     refine Y112 ?_
     exact FE.RZ rfl ⟨⟨_,rfl⟩,.inr ⟨_,trivial,hJx'⟩⟩
 · have hjp:j=parts s k:=by
    have:¬ k*j<s.l.length:=of_decide_eq_false h
    have:=mt (BV (s:=s) hk).1 this
    omega
   clear h
   subst hjp
   refine Y113 ?_
   exact FE.R1 rfl ⟨⟨_,rfl⟩,.inl ⟨_,rfl,hJj⟩⟩
end
section
open Sl aq gZ
def dw(l:List aq.By):Nat->Nat
 | 0=>0
 | k+1=>dw l k+fY (l.drop (dw l k))
theorem Ac(l:List aq.By):∀ k,dw l k<=l.length
 | 0=>Nat.zero_le _
 | k+1=>by
   have:=Ac l k
   have h:=Ns (l.drop (dw l k))
   rw[List.length_drop] at h
   show dw l k+_<=_
   omega
theorem ND{d:List aq.By}:di d=[]↔d=[]:=by
 constructor
 · intro h
   by_cases hd:d=[]
   · exact hd
   · obtain⟨e,h1,_⟩:=j3 hd
     rw[h1] at h
     cases h
 · rintro rfl;rfl
theorem KM(l:List aq.By):∀ k,(di (l.drop (dw l k))).length=(di l).length-k
 | 0=>rfl
 | k+1=>by
   have ih:=KM l k
   by_cases hd:l.drop (dw l k)=[]
   · have e:dw l (k+1)=dw l k:=by
      show dw l k+fY (l.drop (dw l k))=_
      rw[hd]
      rfl
     rw[e,ih]
     rw[hd] at ih
     have:(di ([]:List aq.By)).length=0:=rfl
     omega
   · obtain⟨e,h1,_⟩:=j3 hd
     rw[h1,List.length_cons,List.drop_drop] at ih
     show(di (l.drop (dw l k+fY (l.drop (dw l k))))).length=_
     omega
theorem Ad(l:List aq.By)(k:Nat):k<(di l).length↔dw l k<l.length:=by
 have h:=KM l k
 have h2:(di (l.drop (dw l k))).length=0↔l.length<=dw l k:=by
  rw[List.length_eq_zero_iff,ND,List.drop_eq_nil_iff]
 omega
theorem NF(l:List aq.By):dw l (di l).length=l.length:=by
 have:=mt (Ad l (di l).length).2 Y609
 have:=Ac l (di l).length
 omega
def PY(s:ay)(k:Nat):Value × Value:=(N (dw s.l k),(s.mid (dw s.l k) (dw s.l (k+1))).v)
theorem HG:aJ Tryz.prog 190:=⟨_,Tryz.func190,rfl,by kernel_rfl⟩
def OR(b:Nat):Value:=.func (.func 229) #[] #[Pt b 0]
theorem KN(s:ay)(w:World):Calls Tryz.prog 190 [s.v].toArray w fun e w'=>∃ b:Nat,e=.returned (OR b)/\aa w [] [⟨b,Row 22 [s.v],true⟩] w':=by
 refine enter (n:=4) Tryz.func190 rfl rfl rfl (aa.start w []) ?_
 refine JC.seq (JC.region (JL.box (r:=[s.v]) rfl rfl rfl fun b _=>?_))
 repeat(first|refine JL.q (by(apply OQ.SM (caps:=[Pt b 0]);rfl)) rfl ?_|refine Y20 ?_)
 refine JC.ret (JE.aK rfl (RV.tmp rfl) ?_)
 exact fun w' hw=>⟨b,rfl,hw⟩
def NG(s:ay):List Nat:=match s.l,s.ad with
 | _::_,some a=>[a.block]
 | _,_=>[]
theorem FR{s:ay}{w:World}(h:s.ok w):∀ k∈NG s,k<w.heap.size:=by
 obtain⟨ad,cap,l⟩:=s
 intro k hk
 cases l with
 | nil=>cases hk
 | cons c r=>
   cases ad with
   | none=>cases hk
   | some a=>
     obtain rfl:=List.mem_singleton.1 hk
     exact h.lt Y614 a rfl
theorem FT{s:ay}{w w':World}(h:s.ok w)(hk:∀ k∈NG s,w'.heap[k]?=w.heap[k]?):s.ok w':=by
 obtain⟨ad,cap,l⟩:=s
 refine⟨h.len,fun i v hv=>?_⟩
 obtain⟨b,j,e,c⟩:=h.reads i v hv
 refine⟨b,j,e,?_⟩
 dsimp only at hv e
 subst e
 cases l with
 | nil=>simp at hv
 | cons c' r=>
   have hb:w'.heap[b]?=w.heap[b]?:=hk b (List.mem_singleton.2 rfl)
   unfold World.cell? at c⊢
   rw[hb]
   exact c
theorem KO(s:ay)(k:Nat):(s.mid (dw s.l k) (dw s.l (k+1))).l=fM s.l (dw s.l k):=by
 show(s.l.take (dw s.l k+fY (s.l.drop (dw s.l k)))).drop (dw s.l k)=(s.l.drop (dw s.l k)).take (fY (s.l.drop (dw s.l k)))
 rw[List.drop_take]
 congr 1
 omega
theorem PZ(d:List aq.By):fY d=if fi 10 d<d.length then fi 10 d+1 else d.length:=rfl
theorem DX(s:ay)(b1:Nat)(hl:s.l.length<=4611686018427387904)(W0:World)(hs:s.ok W0){o1:Obj}(h1:W0.heap[b1]?=some o1)(h1':cellAt o1 0=some s.v) :
  R3 Tryz.prog 229 #[Pt b1 0] (PY s) (b1::NG s) (di s.l).length W0:=by
 intro l J X W hW hJ hY h0
 have hb1:b1<W0.heap.size:=(Array.getElem?_eq_some_iff.1 h1).1
 have hcap:=hs.len
 refine callsIn_wide.2 ?_
 refine KI (n:=33) (vs:=[.func (.yield l) #[] #[],Pt b1 0]) Tryz.func229 rfl rfl rfl ?_
 refine FC.seq (FC.region (FL.q (OQ.assign rfl) rfl rfl (FL.nil (FE.next ?_))))
 refine FC.block (FC.loop (fun k:Nat=>[(0,.func (.yield l) #[] #[]),(1,Pt b1 0),(3,N (dw s.l k))])
  (fun k w=>k<=(di s.l).length/\J k w/\w.heap[b1]?=some o1/\s.ok w) (fun k=>(di s.l).length-k) 0 ⟨Nat.zero_le _,h0,(hW.block b1 hb1).trans h1,FT hs fun k hk=>hW.block k (FR hs k hk)⟩ Y640 ?_)
 rintro k w ⟨hk,hJk,g1,ok⟩
 repeat(first|refine FL.q Y685 rfl rfl ?_|refine Y110 ?_)
 refine FC.cond rfl (fun h=>?_) (fun h=>?_)
 · have hkl:dw s.l k<s.l.length:=of_decide_eq_true h
   have hkp:k<(di s.l).length:=(Ad s.l k).2 hkl
   have hle:dw s.l k<=s.l.length:=by omega
   clear h
   repeat(first|refine FL.q (by first|(apply jk;rfl;rfl;exact g1;exact h1')|(apply OQ.snd (s:=s);exact Tryz.underlying22;exact dD;rfl;rfl;exact hle)|exact Y323) rfl rfl ?_|refine Y111 ?_)
   refine FL.ai (vs:=[(s.snd (dw s.l k)).v,U8 10]) yd rfl rfl (BP (s.snd (dw s.l k)) 10 w (ok.snd _ hle)) fun w' hx=>?_
   have hJk:=hJ k w w' hJk hx
   have g1:=(hx.block _ (Array.getElem?_eq_some_iff.1 g1).1 Y614).trans g1
   have ok:=ok.ext hx
   have hdl:(s.snd (dw s.l k)).l=s.l.drop (dw s.l k):=rfl
   have hn:dw s.l (k+1)=dw s.l k+fY (s.l.drop (dw s.l k)):=rfl
   have hle2:=Ac s.l (k+1)
   have hge:dw s.l k<=dw s.l (k+1):=by omega
   have henc:PY s k=(N (dw s.l k),(s.mid (dw s.l k) (dw s.l (k+1))).v):=rfl
   have hYk:=hY k w' hkp hJk
   rw[henc] at hYk
   dsimp only at hYk
   have hdn:(s.l.drop (dw s.l k)).length=s.l.length-dw s.l k:=List.length_drop
   have hraw:=PZ (s.l.drop (dw s.l k))
   rw[hdl]
   refine FL.q (v:=N (if fi 10 (s.l.drop (dw s.l k))<(s.l.drop (dw s.l k)).length then fi 10 (s.l.drop (dw s.l k))+1 else 0)) ?_ rfl rfl ?_
   · by_cases hf:fi 10 (s.l.drop (dw s.l k))<(s.l.drop (dw s.l k)).length
     · rw[if_pos hf]
       exact OQ.to (OQ.Pu (a:=kO 10 (s.l.drop (dw s.l k))) (b:=1) rfl rfl (by unfold kO;rw[if_pos hf];omega) (by unfold kO;rw[if_pos hf];omega)) (by unfold kO;rw[if_pos hf];rfl)
     · rw[if_neg hf]
       exact OQ.to (OQ.Pu (a:=kO 10 (s.l.drop (dw s.l k))) (b:=1) rfl rfl (by unfold kO;rw[if_neg hf];omega) (by unfold kO;rw[if_neg hf];omega)) (by unfold kO;rw[if_neg hf];rfl)
   refine FL.q (OQ.assign rfl) rfl rfl (FL.nil (FE.next ?_))
   refine FC.mid [(0,.func (.yield l) #[] #[]),(1,Pt b1 0),(3,N (dw s.l k)),(4,N (fY (s.l.drop (dw s.l k))))] ?_ ?_
   · by_cases hf:fi 10 (s.l.drop (dw s.l k))<(s.l.drop (dw s.l k)).length
     · rw[if_pos hf] at hraw⊢
       rw[hraw]
       have h0:decide (((fi 10 (s.l.drop (dw s.l k))+1:Nat):Int)=0)=false:=decide_eq_false Y609
       repeat(first|refine FL.q (by first|exact Y429|exact Y323) rfl rfl ?_|refine Y110 ?_)
       refine FC.cond rfl (fun h=>by cases h) (fun _=>FC.skip (FE.mid Y640))
     · rw[if_neg hf] at hraw⊢
       rw[hraw,hdn]
       have h0:decide (((0:Nat):Int)=0)=true:=rfl
       repeat(first|refine FL.q (by first|exact Y429|exact Y323) rfl rfl ?_|refine Y110 ?_)
       refine FC.cond rfl (fun _=>?_) (fun h=>by cases h)
       repeat(first|refine FL.q (by first|(apply jk;rfl;rfl;exact g1;exact h1')|exact Y406|exact Y323|exact Y324|exact Y338) rfl rfl ?_|refine FC.region ?_|refine FL.nil ?_)
       exact FE.mid Y640
   rw[show fY (s.l.drop (dw s.l k))=dw s.l (k+1)-dw s.l k by omega]
   have hsum:dw s.l k+(dw s.l (k+1)-dw s.l k)=dw s.l (k+1):=by omega
   refine FC.seq (FC.seq (FC.region ?_))
   refine Y272 ?_
   refine Y272 ?_
   refine FL.q (jk rfl rfl g1 h1') rfl rfl ?_
   refine Y272 ?_
   refine Y272 ?_
   refine Y272 ?_
   refine Y273 ?_
   refine FL.q (OQ.R7 (s:=s) (lo:=dw s.l k) (hi:=dw s.l (k+1)) Tryz.underlying22 dD rfl rfl rfl hge hle2 hcap) rfl rfl ?_
   refine FL.PT (v:=N (dw s.l k)) (v':=(s.mid (dw s.l k) (dw s.l (k+1))).v) rfl rfl rfl rfl hYk ?_
   rintro e W' (⟨rfl,hJ',hk'⟩|⟨rfl,hX'⟩)
   · refine⟨true,rfl,?_⟩
     have g1':=(hk'.same b1 Y614).trans g1
     have ok':=FT ok fun b hb=>hk'.same b (by simp[hb])
     repeat(first|refine FL.q (by exact Y329) rfl rfl ?_|refine FL.nil ?_|refine FE.next ?_)
     refine FC.cond rfl (fun h=>by cases h) (fun _=>?_)
     refine FC.skip (FE.next (FC.region ?_))
     refine Y272 ?_
     refine Y272 ?_
     refine Y273 ?_
     repeat(first|refine FL.q Y644 rfl rfl ?_|refine FL.nil ?_|refine FE.ah ?_)
     exact FE.again (i:=k) (k+1) ⟨hkp,hJ',g1',ok'⟩ Y609 Y640
   · refine⟨false,rfl,?_⟩
     repeat(first|refine FL.q (by exact Y329) rfl rfl ?_|refine FL.nil ?_|refine FE.next ?_)
     refine FC.cond rfl (fun _=>?_) (fun h=>by cases h)
     refine FC.ret ?_
     refine Y112 ?_
     exact FE.RZ rfl ⟨⟨_,rfl⟩,.inr hX'⟩
 · have hkp:k=(di s.l).length:=by
    have:¬ dw s.l k<s.l.length:=of_decide_eq_false h
    have:=mt (Ad s.l k).1 this
    omega
   clear h
   subst hkp
   refine Y113 ?_
   exact FE.R1 rfl ⟨⟨_,rfl⟩,.inl hJk⟩
end
section
open Sl
theorem JL.less{P:Program}{n:Nat}{w0:World}{S:List Nat}{ops:Array Oper}{Q:Exit->Act->World->Prop}{l:List Oper}{E:Env}{M M':List aL}(hM:aj M' M)(h:JL P n w0 S ops Q l E M'):JL P n w0 S ops Q l E M:=
 ⟨fun a w ha hw=>h.go a w ha (hw.weak hM)⟩
theorem yp{e:TypeId}(rs:List ay)(q:Acc)(l:List Bt):aj (bh (rs++[eO q l])) (bh rs++bw e q (l.map U8)):=by
 unfold bh
 rw[List.flatMap_append]
 refine bI ?_ _
 show aj ((eO q l).an++[]) _
 rw[List.append_nil]
 exact iW q l
theorem fZ(q:Acc)(k:Nat):(aD q k).cells=#[aD q k]:=by cases q <;> rfl
theorem iI(q:Acc)(k:Nat):(aD q k).oneCell'=true:=by cases q <;> rfl
end
section
namespace gZ
open aq
def ow:List (List By × List By)->Nat
 | []=>0
 | q::r=>q.1.length+q.2.length+ow r
theorem lM:∀ b x:List By,ow (fk b x)<=b.length+x.length/\(fk b x).length<=b.length+1
 | [],x=>by
   unfold fk
   split
   · exact⟨Nat.zero_le _,Nat.zero_le _⟩
   · simp[ow]
 | c::b,x=>by
   unfold fk
   split
   · obtain⟨i1,i2⟩:=lM b []
     simp only[List.length_nil,Nat.add_zero] at i1
     constructor
     · unfold ow
       split
       · next h13=>
         have:0<x.length:=by cases x with
          | nil=>cases h13
          | cons y x=>simp
         simp only[List.length_dropLast,List.length_cons,List.length_nil];omega
       · simp only[List.length_cons,List.length_nil];omega
     · simp only[List.length_cons];omega
   · obtain⟨i1,i2⟩:=lM b (x++[c])
     simp only[List.length_append,List.length_cons,List.length_nil] at i1 i2⊢
     omega
theorem BW(bd:List By):∀ (r:List (List By × List By)) (p o:List By),(gT bd r p o).1.length+ow (gT bd r p o).2<=ow r+p.length+o.length
 | [],p,o=>by simp only[gT,ow];omega
 | (l,e)::r,p,o=>by
   unfold gT
   split
   · have:=BW bd r e (o++p++l)
     simp only[List.length_append,ow] at this⊢
     omega
   · simp only[ow];omega
theorem vJ(bd:List By):∀ (n:Nat) (r:List (List By × List By)) (out o:List (List By)),r.length<=n->fD bd r out=some o->o.length<=out.length+r.length/\∀ y∈o,y∈out\/y.length<=ow r:=by
 intro n
 induction n with
 | zero=>
   intro r out o hr h
   obtain rfl:r=[]:=List.eq_nil_of_length_eq_zero Y609
   rw[fD] at h
   cases h
 | succ n ih=>
   intro r out o hr h
   cases r with
   | nil=>rw[fD] at h;cases h
   | cons q r=>
     obtain⟨l,e⟩:=q
     rw[fD] at h
     have k1:=uh bd r [] []
     have k2:=BW bd r [] []
     simp only[List.length_nil,Nat.add_zero,List.length_cons] at k2 hr
     split at h
     · obtain⟨i1,i2⟩:=ih _ _ _ Y609 h
       rw[List.length_append] at i1
       simp only[List.length_cons,List.length_nil] at i1
       refine⟨by simp only[List.length_cons];omega,fun y hy=>?_⟩
       rcases i2 y hy with hy|hy
       · rcases List.mem_append.1 hy with hy|hy
         · exact .inl hy
         · rw[List.mem_singleton.1 hy];exact .inr (by simp only[ow];omega)
       · exact .inr (by simp only[ow];omega)
     · split at h
       · cases h
         exact⟨Nat.le_add_right _ _,fun y hy=>.inl hy⟩
       · cases h
theorem qx(f:List By × List By->Bool):∀ r:List (List By × List By),ow (r.dropWhile f)<=ow r/\(r.dropWhile f).length<=r.length
 | []=>⟨Nat.le_refl _,Nat.le_refl _⟩
 | q::r=>by
   rw[List.dropWhile_cons]
   obtain⟨i1,i2⟩:=qx f r
   split
   · simp only[ow,List.length_cons];omega
   · exact⟨Nat.le_refl _,Nat.le_refl _⟩
end gZ
end
section
open Sl aq Tok gZ
theorem sU:aJ Tryz.prog 52:=⟨_,Tryz.func52,rfl,by kernel_rfl⟩
theorem gI:aJ Tryz.prog 94:=⟨_,Tryz.func94,rfl,by kernel_rfl⟩
theorem OQ.xd{P:Program}{n:Nat}{E:Env}{C:World->Prop}{dst:Option Tmp}{t t' ty:TypeId}{pos:String}{aft:Array Edge}{g:Option (Nat × Bool)}{x y:Operand}{a b:BitVec 8}{c:Bool}(hx:ev E x=some (U8 a))(hy:ev E y=some (U8 b))(h:decide (a=b)=c):OQ P n E C ⟨dst,.binOp .eql t x y t',ty,pos,aft,g⟩ (.bool c):=h▸OQ.Pq hx hy
def HH(c:aq.By):Bool:=((decide ((48:Int)<=(c.toNat:Int))&&decide ((c.toNat:Int)<=57))||(decide ((65:Int)<=(c.toNat:Int))&&decide ((c.toNat:Int)<=90)))||(decide ((97:Int)<=(c.toNat:Int))&&decide ((c.toNat:Int)<=122))
theorem P2(c:aq.By):mP c=(HH c||(List.range 13).any fun k=>decide (c=AE.getD (k%12) 0)):=by
 have h:∀ c:Fin 256,mP (BitVec.ofNat 8 c.val)=(HH (BitVec.ofNat 8 c.val)||(List.range 13).any fun k=>decide (BitVec.ofNat 8 c.val=AE.getD (k%12) 0)):=by decide +kernel
 simpa using h ⟨c.toNat,c.isLt⟩
theorem vK(s:List Bt)(w:World)(hl:s.length<9223372036854775808):Calls Tryz.prog 52 [Z s].toArray w fun e w'=>e=.returned (.bool (cG s))/\Ext w w':=by
 refine enter (n:=60) Tryz.func52 rfl rfl rfl (aa.start w []) ?_
 refine Y7 ?_
 refine JC.loop (fun i:Nat=>[(0,Z s),(3,N i)]) (fun _=>[]) (fun i=>s.length-i) (fun i=>i<=s.length/\(s.take i).all mP=true) 0 ⟨Nat.zero_le _,rfl⟩ Y640 (aj.refl _) ?_
 rintro i ⟨hi,ha⟩
 refine Y8 ?_
 refine JC.cond rfl (fun h=>?_) (fun h=>?_)
 · have hi':i<s.length:=of_decide_eq_true h
   clear h hi
   have hall:=eK mP s 0 hi'
   have hbad:=gY mP s 0 hi'
   rw[ha,Bool.true_and] at hall
   have i0:=fun {n:Nat} {E:Env} {C:World->Prop} {dst:Option Tmp} {ty:TypeId} {pos:String} {aft:Array Edge} {g:Option (Nat × Bool)} {x y:Operand}=>dI hi' (n:=n) (E:=E) (C:=C) (dst:=dst) (ty:=ty) (pos:=pos) (aft:=aft) (g:=g) (x:=x) (y:=y)
   generalize s.getD i 0=c at hall hbad i0
   refine JC.skip (JE.next ?_)
   refine JC.seq (JC.block (JC.seq (JC.region ?_)))
   repeat(refine JL.q (by first|(apply i0;rfl;rfl)|exact Y323|exact Y324) rfl ?_)
   refine JL.nil (JE.next ?_)
   refine JC.mid (ι:=Unit) (fun _=>[(0,Z s),(3,N i),(4,U8 c),(5,.bool (HH c))]) (fun _=>[]) (fun _=>True) ?_ ?_
   · unfold HH
     cases h1:decide ((48:Int)<=(c.toNat:Int)) <;> cases h2:decide ((c.toNat:Int)<=57) <;> cases h3:decide ((65:Int)<=(c.toNat:Int)) <;> cases h4:decide ((c.toNat:Int)<=90) <;> cases h5:decide ((97:Int)<=(c.toNat:Int)) <;> cases h6:decide ((c.toNat:Int)<=122)
     all_goals (repeat(first|refine JL.q (by first|(apply OQ.dn (b:=48);rfl;rfl;exact h1)|(apply OQ.fA (b:=57);rfl;rfl;exact h2)|(apply OQ.dn (b:=65);rfl;rfl;exact h3)|(apply OQ.fA (b:=90);rfl;rfl;exact h4)|(apply OQ.dn (b:=97);rfl;rfl;exact h5)|(apply OQ.fA (b:=122);rfl;rfl;exact h6)|(apply OQ.az;rfl;rfl)|(apply OQ.av;rfl;rfl)|(apply OQ.move;rfl)|(apply OQ.assign;rfl)) rfl ?_|refine JC.region ?_|refine JL.nil ?_|refine JL.bG rfl rfl ?_|refine JL.aM rfl rfl rfl rfl ?_|refine JL.ic rfl rfl rfl rfl ?_))
     all_goals exact JE.mid () trivial Y640 (aj.refl _)
   intro _ _
   refine Y7 ?_
   refine JC.loop (fun k:Nat=>[(0,Z s),(3,N i),(4,U8 c),(5,.bool (HH c||(List.range k).any fun k=>decide (c=AE.getD (k%12) 0))),(6,N k)]) (fun _=>[]) (fun k=>13-k) (fun k=>k<=13) 0 Y610 ?_ (aj.refl _) ?_
   · rw[show(List.range 0).any (fun k=>decide (c=AE.getD (k%12) 0))=false from rfl,Bool.or_false]
     exact Y269
   intro k hk
   refine Y114 ?_
   refine JC.cond rfl (fun h=>?_) (fun h=>?_)
   · have hk':k<13:=of_decide_eq_true h
     have hs:(List.range (k+1)).any (fun k=>decide (c=AE.getD (k%12) 0))=((List.range k).any (fun k=>decide (c=AE.getD (k%12) 0))||decide (c=AE.getD (k%12) 0)):=by rw[List.range_succ,List.any_append,List.any_cons,List.any_nil,Bool.or_false]
     have hm:k%12<AE.length:=Nat.mod_lt _ Y610
     cases g1:(HH c||(List.range k).any fun k=>decide (c=AE.getD (k%12) 0))
     · cases g2:decide (c=AE.getD (k%12) 0)
       all_goals (repeat(first|refine JL.q (by first|(apply OQ.ru (l:=AE) (k:=.i64) (i:=k%12);exact Tryz.underlying9;rfl;rfl;exact hm)|(apply OQ.xd (b:=AE.getD (k%12) 0);rfl;rfl;exact g2)|exact Y331|exact Y323|exact Y324|exact Y337|exact Y430) rfl ?_|refine JC.seq ?_|refine JC.region ?_|refine JC.block ?_|refine JC.skip ?_|refine JL.nil ?_|refine JE.next ?_|refine JE.ah ?_|refine JL.bG rfl rfl ?_))
       all_goals refine JE.again (i:=k) (k+1) hk' Y609 ?_ (aj.refl _)
       all_goals rw[hs,<- Bool.or_assoc,g1,g2]
       all_goals exact Y640
     · repeat(first|refine JL.q (by first|exact Y330|exact Y323|exact Y324|exact Y337) rfl ?_|refine JC.seq ?_|refine JC.region ?_|refine JC.block ?_|refine JC.skip ?_|refine JL.nil ?_|refine JE.next ?_|refine JE.ah ?_|refine JL.aM rfl rfl rfl rfl ?_)
       refine JE.again (i:=k) (k+1) hk' Y609 ?_ (aj.refl _)
       rw[hs,<- Bool.or_assoc,g1]
       exact Y269
   · have h13:¬ k<13:=of_decide_eq_false h
     have hk':k=13:=by omega
     subst hk'
     rw[<- P2]
     cases hb:mP c
     · have hF:cG s=false:=by
        unfold cG
        rw[hbad hb]
        rfl
       rw[hF]
       refine Y115 ?_
       refine Y246 ?_
       refine Y3 ?_
       refine Y247 ?_
       refine Y2 ?_
       exact Y248
     · rw[hb] at hall
       refine Y115 ?_
       refine Y245 ?_
       refine Y10 ?_
       exact Y264
 · have hi':¬ i<s.length:=of_decide_eq_false h
   obtain rfl:i=s.length:=by omega
   rw[List.take_length] at ha
   unfold cG
   rw[ha,Bool.true_and]
   cases h1:decide (1<=s.length) <;> cases h2:decide (s.length<=70)
   all_goals (repeat(first|refine JL.q (by first|(apply OQ.dn (a:=s.length) (b:=1);rfl;rfl;exact((decide_eq_decide.2 Y609).trans h1))|(apply OQ.fA (a:=s.length) (b:=70);rfl;rfl;exact((decide_eq_decide.2 Y609).trans h2))) rfl ?_|refine JL.bG rfl rfl ?_|refine JL.aM rfl rfl rfl rfl ?_|refine Y78 ?_))
   all_goals exact JC.ret (JE.aK rfl (RV.tmp rfl) fun w' hw=>⟨rfl,hw.aH⟩)
theorem oe(s:ay)(bd:List Bt)(w:World)(hs:s.ok w)(hl:s.l.length<9223372036854775808)(hb:bd.length<9223372036854770000):Calls Tryz.prog 94 [s.v,Z bd].toArray w fun e w'=>e=.returned (N (aX bd s.l))/\Ext w w':=by
 refine enter (n:=43) Tryz.func94 rfl rfl rfl (aa.start w []) ?_
 refine Y92 ?_
 have hcap:=hs.len
 refine JC.p9 (ι:=Nat) (fun n=>[(0,s.v),(1,Z bd),(5,N n)]) (fun _=>[]) (fun n=>n<=s.l.length/\gL s.l=s.l.take n) ?_ ?_
 · refine JC.loop (fun n:Nat=>[(0,s.v),(1,Z bd),(5,N n)]) (fun _=>[]) (fun n=>n) (fun n=>n<=s.l.length/\gL s.l=gL (s.l.take n)) s.l.length ⟨Nat.le_refl _,by rw[List.take_length]⟩ Y640 (aj.refl _) ?_
   rintro n ⟨hn,hc⟩
   by_cases h0:0<n
   · obtain⟨m,rfl⟩:∃ m,n=m+1:=⟨n-1,by omega⟩
     have hm:m<s.l.length:=hn
     have hm1:m+1-1<s.l.length:=hm
     obtain⟨ba,ja,hae,hca⟩:=hs.reads.at Y624
     have hcl:=hca m _ (dF U8 0 hm)
     have hav:s.v=.slice (some ⟨ba,ja,none⟩) s.l.length s.cap:=by rw[<- hae];rfl
     have hgo:=I0 (s:=s.l) (n:=m) hn
     have hst:=AG (s:=s.l) (n:=m) hn
     have hbl:∀ c:Bt,bl c=(decide (c=32)||decide (c=9)):=fun c=>by
      unfold bl
      rw[Bool.eq_iff_iff]
      simp
     rw[hbl] at hgo hst
     generalize s.l.getD m 0=c at hcl hgo hst
     cases h32:decide (c=32)
     · cases h9:decide (c=9)
       · rw[hst (by rw[h32,h9];rfl)] at hc
         rw[hav]
         repeat(first|refine JL.q Y686 rfl ?_|refine JL.bG rfl rfl ?_|refine Y116 ?_)
         refine Y245 ?_
         refine Y46 ?_
         exact JE.mid (m+1) ⟨hn,hc⟩ Y640 (aj.refl _)
       · rw[hgo (by rw[h32,h9];rfl)] at hc
         rw[hav]
         repeat(first|refine JL.q Y686 rfl ?_|refine JL.bG rfl rfl ?_|refine Y116 ?_)
         refine Y246 ?_
         refine Y117 ?_
         exact Y274
     · rw[hgo (by rw[h32];rfl)] at hc
       rw[hav]
       repeat(first|refine JL.q (by first|(apply OQ.oJ;rfl;rfl;exact h0)|exact Y431|exact Y432|exact Y433|exact Y330|exact Y323|exact Y338) rfl ?_|refine JC.seq ?_|refine JC.region ?_|refine JL.nil ?_|refine JE.next ?_|refine JL.bG rfl rfl ?_|refine JL.aM rfl rfl rfl rfl ?_)
       refine Y246 ?_
       refine Y117 ?_
       exact Y274
   · obtain rfl:n=0:=by omega
     repeat(first|refine JL.q (by(apply OQ.zx;rfl;rfl;exact h0)) rfl ?_|refine JL.aM rfl rfl rfl rfl ?_|refine JL.ic rfl rfl rfl rfl ?_|refine Y71 ?_)
     refine Y245 ?_
     refine Y46 ?_
     exact JE.mid 0 ⟨hn,hc⟩ Y640 (aj.refl _)
 rintro n ⟨hn,hc⟩
 unfold aX
 rw[hc]
 have hfs:=hs.fst n
 cases h1:decide (s.l.take n=45::45::bd)
 · rw[if_neg (of_decide_eq_false h1)]
   cases h2:decide (s.l.take n=45::45::(bd++[45,45]))
   · rw[if_neg (of_decide_eq_false h2)]
     refine Y118 ?_
     refine Y245 ?_
     repeat(first|refine JL.q Y687 rfl ?_|refine Y68 ?_)
     refine Y245 ?_
     repeat(first|refine JL.q Y644 rfl ?_|refine JC.seq ?_|refine JC.region ?_|refine JC.skip ?_|refine JL.nil ?_|refine JE.next ?_)
     refine Y247 ?_
     exact Y248
   · rw[if_pos (of_decide_eq_true h2)]
     refine Y118 ?_
     refine Y245 ?_
     repeat(first|refine JL.q Y687 rfl ?_|refine Y68 ?_)
     refine Y246 ?_
     refine Y3 ?_
     refine Y247 ?_
     refine Y250 ?_
     exact Y248
 · rw[if_pos (of_decide_eq_true h1)]
   refine Y118 ?_
   refine Y246 ?_
   refine Y3 ?_
   refine Y247 ?_
   refine Y250 ?_
   exact Y248
end
section
open Sl aq gZ
theorem BX:aJ Tryz.prog 93:=⟨_,Tryz.func93,rfl,by kernel_rfl⟩
theorem BY:EI Tryz.prog 22 (.slice none 0 0) 1 24:=by unfold EI;kernel_rfl
namespace gZ
abbrev LS:=List (List By × List By) × List By
def NH(x:List By):List By × List By:=if x.getLast?=some 13 then(x.dropLast,[13,10]) else(x,[10])
def IW(s:LS)(c:By):LS:=if c=10 then(s.1++[NH s.2],[]) else(s.1,s.2++[c])
def KP(s:LS):List (List By × List By):=if s.2=[] then s.1 else s.1++[(s.2,[])]
theorem P3(L:List (List By × List By))(x:List By):IW (L,x) 10=(L++[NH x],[]):=by
 unfold IW
 rw[if_pos rfl]
theorem P4(L:List (List By × List By))(x:List By){c:By}(h:¬ c=10):IW (L,x) c=(L,x++[c]):=by
 unfold IW
 rw[if_neg h]
theorem rT:∀ (b:List By) (L:List (List By × List By)) (x:List By),KP (b.foldl IW (L,x))=L++fk b x
 | [],L,x=>by
   rw[List.foldl_nil]
   unfold fk KP
   by_cases h:x=[]
   · rw[if_pos h,if_pos h,List.append_nil]
   · rw[if_neg h,if_neg h]
 | c::b,L,x=>by
   rw[List.foldl_cons]
   by_cases h:c=10
   · subst h
     rw[P3,rT b (L++[NH x]) [],fk,if_pos rfl,List.append_assoc]
     unfold NH
     split <;> rfl
   · rw[P4 L x h,rT b L (x++[c]),fk,if_neg h]
def xe(l:List By)(i:Nat):LS:=(l.take i).foldl IW ([],[])
theorem FU(l:List By){i:Nat}(h:i<l.length):xe l (i+1)=IW (xe l i) (l.getD i 0):=by
 unfold xe
 rw[List.take_add_one,List.getElem?_eq_getElem h,Option.toList_some,List.foldl_append,List.getD_eq_getElem?_getD,List.getElem?_eq_getElem h]
 rfl
theorem NI(l:List By):di l=KP (xe l l.length):=by
 unfold xe di
 rw[List.take_length,rT]
 rfl
theorem NJ(s:LS)(c:By):(IW s c).1.length+(IW s c).2.length<=s.1.length+s.2.length+1:=by
 unfold IW
 split <;> simp <;> omega
theorem DY(l:List By):∀ i,(xe l i).1.length+(xe l i).2.length<=i
 | 0=>by simp[xe]
 | i+1=>by
   by_cases h:i<l.length
   · rw[FU l h]
     have:=DY l i
     have:=NJ (xe l i) (l.getD i 0)
     omega
   · have e:xe l (i+1)=xe l i:=by
      unfold xe
      rw[List.take_of_length_le Y609,List.take_of_length_le Y609]
     rw[e]
     exact Nat.le_succ_of_le (DY l i)
end gZ
structure Sa where
 i:Nat
 rs:List ay
 es:List ay
 zs:List ay
 b1:Nat
 c1:Nat
 b2:Nat
 c2:Nat
 b3:Nat
 c3:Nat
theorem rU{e:TypeId}{b cap:Nat}{l:List Bt}(h:l.length<=cap):aj (ay.an ⟨some ⟨b,0,none⟩,cap,l⟩) [⟨b,Row e (l.map U8),true⟩]:=
 .keep _ _ _ _ _ _ (fun o ho=>⟨Row.all o ho,h,rfl⟩) (.nil _)
theorem yq{e:TypeId}{b k cap m:Nat}{l:List Bt}:aj (ay.an ⟨some ⟨b,0,none⟩,cap,l.take m⟩) [⟨b,Sl.Own e 1 k cap (l.map U8),true⟩]:=
 .keep _ _ _ _ _ _ (fun o ho=>⟨(Sl.Own.has (m:=m) o ho).1,by
  obtain⟨sp,_,_,h2,h3⟩:=ho
  rw[List.length_map,Nat.mul_one] at h2
  show(l.take m).length<=cap
  rw[List.length_take];omega,rfl⟩) (.nil _)
theorem FV{zs:List ay}{w0 w:World}{S:List Nat}{A:List aL}{b cap:Nat}{e:TypeId}{rs:List ay}{wr:Bool}(hw:aa w0 S (A++bh zs) w)(hM:Has (A++bh zs) b (Sl.Own e 1 rs.length cap (rs.map ay.v)) wr)(h0:∀ x∈zs,x.ad=none->x.l=[])(hz:∀ x∈rs,x∈zs):tK.ok w ⟨some ⟨b,0,none⟩,cap,rs⟩:=by
 obtain⟨o,ho,hA⟩:=hw.get hM
 have hh:=Sl.Own.cells _ hA
 obtain⟨sp,rfl,h2,h3,h4⟩:=hA
 exact⟨h4,Reads.block ho hh,fun x hx=>p8 hw h0 x (hz x hx)⟩
theorem FW(a b c d:aL)(F:List aL):(a::b::c::d::F).Perm (c::d::b::a::F):=
 List.Perm.append_right F (l₁:=[a,b,c,d]) (l₂:=[c,d,b,a]) ((List.perm_append_comm (l₁:=[a,b]) (l₂:=[c,d])).trans (.cons _ (.cons _ (.swap _ _ _))))
theorem P5{x:List aq.By}(h:x.getLast?=some 13):NH x=(x.dropLast,[13,10]):=if_pos h
theorem P6{x:List aq.By}(h:¬ x.getLast?=some 13):NH x=(x,[10]):=if_neg h
theorem DZ(s:ay)(w:World)(hs:s.ok w)(hl:s.l.length<=4000000):Calls Tryz.prog 93 [s.v].toArray w
  fun e w'=>∃ q:{ q:tK × tK // q.1.ls=(di s.l).map (·.1)/\q.2.ls=(di s.l).map (·.2) },e=.returned (.tuple #[q.1.1.v,q.1.2.v])/\Ext w w'/\(q.1.1.ok w'/\q.1.2.ok w'):=by
 refine enter (n:=71) Tryz.func93 rfl rfl rfl (aa.start w []) ?_
 refine Y3 ?_
 refine JL.lB Tryz.underlying93 BY rfl fun b1 _=>?_
 refine JL.lB Tryz.underlying93 BY rfl fun b2 _=>?_
 refine Y3 ?_
 refine JL.lB Tryz.underlying22 dV rfl fun b3 _=>?_
 refine Y7 ?_
 refine JC.loop (fun z:Sa=>[(0,s.v),(4,.slice (some ⟨z.b1,0,none⟩) z.rs.length z.c1),(5,.slice (some ⟨z.b2,0,none⟩) z.es.length z.c2),(6,.slice (some ⟨z.b3,0,none⟩) (xe s.l z.i).2.length z.c3),(7,N z.i)])
  (fun z=>[⟨z.b3,Sl.Own 5 1 (xe s.l z.i).2.length z.c3 ((xe s.l z.i).2.map U8),true⟩,⟨z.b2,Sl.Own 22 1 z.es.length z.c2 (z.es.map ay.v),true⟩,⟨z.b1,Sl.Own 22 1 z.rs.length z.c1 (z.rs.map ay.v),true⟩]++bh z.zs)
  (fun z=>s.l.length-z.i) (fun z=>z.i<=s.l.length/\z.rs.map ay.l=(xe s.l z.i).1.map (·.1)/\z.es.map ay.l=(xe s.l z.i).1.map (·.2)/\(∀ y∈z.zs,y.ad=none->y.l=[])/\(∀ y∈z.rs,y∈z.zs)/\(∀ y∈z.es,y∈z.zs)) ⟨0,[],[],[],b1,0,b2,0,b3,0⟩
  ⟨Nat.zero_le _,rfl,rfl,nofun,nofun,nofun⟩ Y640 (aj.refl _) ?_
 rintro⟨i,rs,es,zs,b1,c1,b2,c2,b3,c3⟩ ⟨hi,hrs,hes,h0,hz1,hz2⟩
 dsimp only at hi hrs hes h0 hz1 hz2⊢
 have hle:=DY s.l i
 have hrl:rs.length=(xe s.l i).1.length:=by rw[<- List.length_map (f:=ay.l),hrs,List.length_map]
 have hel:es.length=(xe s.l i).1.length:=by rw[<- List.length_map (f:=ay.l),hes,List.length_map]
 refine Y77 ?_
 refine JC.cond rfl (fun h=>?_) (fun h=>?_)
 · have hi':i<s.l.length:=of_decide_eq_true h
   clear h hi
   obtain⟨ba,ja,hae,hca⟩:=hs.reads.at Y624
   have hc:=hca i _ (dF U8 0 hi')
   have hav:s.v=.slice (some ⟨ba,ja,none⟩) s.l.length s.cap:=by rw[<- hae];rfl
   have eT:=FU s.l hi'
   generalize s.l.getD i 0=c at hc eT
   generalize xe s.l i=T at *
   obtain⟨ls,cur⟩:=T
   dsimp only at hrs hes hle hrl hel⊢
   rw[hav]
   cases hq:decide (c=10)
   · have hn:¬ c=10:=of_decide_eq_false hq
     rw[IW,if_neg hn] at eT
     repeat(first|refine JL.q Y688 rfl ?_|refine Y9 ?_)
     refine Y245 ?_
     repeat(first|refine JL.q (by first|exact Y379|exact Y407) rfl ?_|refine Y119 ?_)
     refine JL.gi (v:=U8 c) (xs:=cur.map U8) (fun b' cap'=>[⟨b',Sl.Own 5 1 (cur.length+1) cap' (cur.map U8++[U8 c]),true⟩,⟨b2,Sl.Own 22 1 es.length c2 (es.map ay.v),true⟩,⟨b1,Sl.Own 22 1 rs.length c1 (rs.map ay.v),true⟩]++bh zs) Tryz.underlying22 dV rfl rfl rfl rfl (fun _=>rfl) Y642 Y609 Y609 rfl rfl fun bl b' cap'=>?_
     refine Y18 ?_
     rw[<- hav]
     refine JE.again (i:=Sa.mk i rs es zs b1 c1 b2 c2 b3 c3) (Sa.mk (i+1) rs es zs b1 c1 b2 c2 b' cap') ⟨hi',by rw[eT];exact hrs,by rw[eT];exact hes,h0,hz1,hz2⟩ Y661 ?_ ?_
     · dsimp only
       rw[eT,List.length_append]
       exact Y269
     · dsimp only
       rw[eT,List.length_append,List.map_append]
       exact aj.refl _
   · have hn:c=10:=of_decide_eq_true hq
     rw[IW,if_pos hn] at eT
     repeat(first|refine JL.q Y688 rfl ?_|refine Y9 ?_)
     refine Y246 ?_
     refine JC.seq (JC.region (JL.q9 (v:=U8 10) Tryz.underlying22 dV rfl rfl rfl rfl fun b8 _=>?_))
     refine JL.q (OQ.assign rfl) rfl (JL.nil (JE.next ?_))
     refine JC.mid (ι:=ay × ay) (fun q=>[(0,.slice (some ⟨ba,ja,none⟩) s.l.length s.cap),(4,.slice (some ⟨b1,0,none⟩) rs.length c1),(5,.slice (some ⟨b2,0,none⟩) es.length c2),(6,q.1.v),(7,N i),(8,q.2.v)]) (fun q=>[⟨b2,Sl.Own 22 1 es.length c2 (es.map ay.v),true⟩,⟨b1,Sl.Own 22 1 rs.length c1 (rs.map ay.v),true⟩]++(q.1.an++(q.2.an++bh zs))) (fun q=>(q.1.l,q.2.l)=NH cur/\(q.1.ad=none->q.1.l=[])/\(q.2.ad=none->q.2.l=[])) ?_ ?_
     · by_cases hcur:cur=[]
       · subst hcur
         repeat(first|refine JL.q Y689 rfl ?_|refine JL.aM rfl rfl rfl rfl ?_|refine Y120 ?_)
         refine Y245 ?_
         refine JC.skip (JE.perm (FW _ _ _ _ _) (JE.mid (⟨some ⟨b3,0,none⟩,c3,[]⟩,⟨some ⟨b8,0,none⟩,1,[10]⟩) ⟨rfl,nofun,nofun⟩ Y640 (.keep _ _ _ _ _ _ (fun _ h=>h) (.keep _ _ _ _ _ _ (fun _ h=>h) (gk (yq (m:=0)) (gk (rU (l:=[10]) (Nat.le_refl _)) (aj.refl _)))))))
       · have hpos:0<cur.length:=List.length_pos_iff.2 hcur
         have hlt:cur.length-1<cur.length:=by omega
         have hlast:cur.getLast?=some (cur.getD (cur.length-1) 0):=by
          rw[List.getLast?_eq_getElem?,List.getD_eq_getElem?_getD,List.getElem?_eq_getElem hlt];rfl
         have hcell:=dF U8 0 hlt
         generalize cur.getD (cur.length-1) 0=z at hlast hcell
         cases h13:decide (z=13)
         · have hne:¬ cur.getLast?=some 13:=fun e=>by rw[hlast] at e;exact of_decide_eq_false h13 (Option.some.inj e)
           repeat(first|refine JL.q Y690 rfl ?_|refine JL.bG rfl rfl ?_|refine Y121 ?_)
           refine Y245 ?_
           refine JC.skip (JE.perm (FW _ _ _ _ _) (JE.mid (⟨some ⟨b3,0,none⟩,c3,cur⟩,⟨some ⟨b8,0,none⟩,1,[10]⟩) ⟨(P6 hne).symm,nofun,nofun⟩ Y640 (.keep _ _ _ _ _ _ (fun _ h=>h) (.keep _ _ _ _ _ _ (fun _ h=>h) (gk (jf rfl) (gk (rU (l:=[10]) (Nat.le_refl _)) (aj.refl _)))))))
         · have hy:cur.getLast?=some 13:=by rw[hlast,of_decide_eq_true h13]
           have hdl:cur.dropLast=cur.take (cur.length-1):=List.dropLast_eq_take
           repeat(first|refine JL.q Y690 rfl ?_|refine JL.bG rfl rfl ?_|refine Y121 ?_)
           refine Y246 ?_
           refine JC.R4 (b:=b3) (.there .here) (fun ob hA=>by obtain⟨sp,_,_,_,h3⟩:=hA;exact h3) fun hcap=>?_
           repeat(first|refine JL.q (by first|(apply OQ.to;exact(OQ.JD (ad:=some ⟨b3,0,none⟩) (len:=cur.length) (cap:=c3) (hi:=cur.length-1) Tryz.underlying22 dD rfl rfl Y609);exact KJ)|exact Y323|exact Y324|exact Y378|exact Y338) rfl ?_|refine JC.seq ?_|refine JC.region ?_|refine JL.nil ?_|refine JE.next ?_)
           refine JL.zz (xs:=[.const (U8 13),.const (U8 10)]) (vs:=[U8 13,U8 10]) Tryz.underlying22 dV rfl rfl rfl (by simp[Value.oneCell']) (by simp[Value.cells]) rfl Y610 Y610 rfl fun b9 _=>?_
           refine Y122 ?_
           refine JE.less (.keep _ _ _ _ _ _ (fun _ h=>h) (.drop _ _ _ (aj.refl _))) (JE.perm (FW _ _ _ _ _) (JE.mid (⟨some ⟨b3,0,none⟩,c3,cur.take (cur.length-1)⟩,⟨some ⟨b9,0,none⟩,2,[13,10]⟩) ⟨by rw[P5 hy,hdl],nofun,nofun⟩ ?_ (.keep _ _ _ _ _ _ (fun _ h=>h) (.keep _ _ _ _ _ _ (fun _ h=>h) (gk yq (gk (rU (l:=[13,10]) (Nat.le_refl _)) (aj.refl _)))))))
           have e1:ay.v ⟨some ⟨b3,0,none⟩,c3,cur.take (cur.length-1)⟩=.slice (some ⟨b3,0,none⟩) (cur.length-1) c3:=by
            show Value.slice _ (cur.take (cur.length-1)).length _=_
            rw[List.length_take,Nat.min_eq_left Y609]
           dsimp only
           rw[e1]
           exact Y269
     · rintro⟨x,y⟩ ⟨hxy,hx0,hy0⟩
       dsimp only at hxy hx0 hy0⊢
       refine Y61 ?_
       refine JL.gi (v:=x.v) (xs:=rs.map ay.v) (fun b' cap'=>[⟨b2,Sl.Own 22 1 es.length c2 (es.map ay.v),true⟩,⟨b',Sl.Own 22 1 (rs.length+1) cap' (rs.map ay.v++[x.v]),true⟩]++(x.an++(y.an++bh zs))) Tryz.underlying93 BY rfl rfl rfl rfl (fun _=>rfl) Y642 Y609 Y609 rfl rfl fun bl b1' c1'=>?_
       refine Y24 ?_
       refine JL.gi (v:=y.v) (xs:=es.map ay.v) (fun b' cap'=>[⟨b',Sl.Own 22 1 (es.length+1) cap' (es.map ay.v++[y.v]),true⟩,⟨b1',Sl.Own 22 1 (rs.length+1) c1' (rs.map ay.v++[x.v]),true⟩]++(x.an++(y.an++bh zs))) Tryz.underlying93 BY rfl rfl rfl rfl (fun _=>rfl) Y642 Y609 Y609 rfl rfl fun bl' b2' c2'=>?_
       refine Y87 ?_
       refine JL.lB Tryz.underlying22 dV rfl fun b3' _=>?_
       rw[<- hav]
       refine Y18 ?_
       have hx1:x.l=(NH cur).1:=congrArg (·.1) hxy
       have hy1:y.l=(NH cur).2:=congrArg (·.2) hxy
       refine JE.again (i:=Sa.mk i rs es zs b1 c1 b2 c2 b3 c3) (Sa.mk (i+1) (rs++[x]) (es++[y]) (x::y::zs) b1' c1' b2' c2' b3' 0) ⟨hi',?_,?_,?_,?_,?_⟩ Y661 ?_ ?_
       · rw[eT];dsimp only;rw[List.map_append,List.map_append,hrs];exact congrArg (fun z=>_++[z]) hx1
       · rw[eT];dsimp only;rw[List.map_append,List.map_append,hes];exact congrArg (fun z=>_++[z]) hy1
       · intro u hu
         rcases List.mem_cons.1 hu with rfl|hu
         · exact hx0
         rcases List.mem_cons.1 hu with rfl|hu
         · exact hy0
         · exact h0 u hu
       · intro u hu
         rcases List.mem_append.1 hu with hu|hu
         · exact List.mem_cons_of_mem _ (List.mem_cons_of_mem _ (hz1 u hu))
         · rw[List.mem_singleton.1 hu];exact List.mem_cons_self
       · intro u hu
         rcases List.mem_append.1 hu with hu|hu
         · exact List.mem_cons_of_mem _ (List.mem_cons_of_mem _ (hz2 u hu))
         · rw[List.mem_singleton.1 hu];exact List.mem_cons_of_mem _ List.mem_cons_self
       · dsimp only
         rw[eT,List.length_append,List.length_append]
         exact Y269
       · dsimp only
         rw[eT,List.length_append,List.length_append,List.map_append,List.map_append]
         exact aj.refl _
 · have hi':¬ i<s.l.length:=of_decide_eq_false h
   clear h
   obtain rfl:i=s.l.length:=by omega
   have hE:=NI s.l
   generalize xe s.l s.l.length=T at *
   obtain⟨ls,cur⟩:=T
   dsimp only at hrs hes hle hrl hel⊢
   by_cases hcur:cur=[]
   · subst hcur
     rw[KP,if_pos rfl] at hE
     dsimp only at hE
     rw[hE]
     repeat(first|refine JL.q Y689 rfl ?_|refine Y123 ?_)
     refine Y245 ?_
     refine Y5 ?_
     refine Y247 ?_
     skip
     exact JE.aV rfl (RV.tmp rfl) (RV.tmp rfl) fun w' hw=>⟨⟨(⟨some ⟨b1,0,none⟩,c1,rs⟩,⟨some ⟨b2,0,none⟩,c2,es⟩),hrs,hes⟩,rfl,hw.aH,FV hw (.there (.there .here)) h0 hz1,FV hw (.there .here) h0 hz2⟩
   · have hpos:0<cur.length:=List.length_pos_iff.2 hcur
     rw[KP,if_neg hcur] at hE
     dsimp only at hE
     rw[hE]
     repeat(first|refine JL.q (by(apply OQ.oJ;rfl;rfl;exact hpos)) rfl ?_|refine Y123 ?_)
     refine Y246 ?_
     refine Y61 ?_
     refine JL.gi (v:=.slice (some ⟨b3,0,none⟩) cur.length c3) (xs:=rs.map ay.v) (fun b' cap'=>[⟨b3,Sl.Own 5 1 cur.length c3 (cur.map U8),true⟩,⟨b2,Sl.Own 22 1 es.length c2 (es.map ay.v),true⟩,⟨b',Sl.Own 22 1 (rs.length+1) cap' (rs.map ay.v++[.slice (some ⟨b3,0,none⟩) cur.length c3]),true⟩]++bh zs) Tryz.underlying93 BY rfl rfl rfl rfl (fun _=>rfl) Y642 Y609 Y609 rfl rfl fun bl b1' c1'=>?_
     refine Y124 ?_
     refine JL.lB Tryz.underlying22 dV rfl fun b9 _=>?_
     refine JL.gi (v:=.slice (some ⟨b9,0,none⟩) 0 0) (xs:=es.map ay.v) (fun b' cap'=>[⟨b9,Sl.Own 5 1 0 0 [],true⟩,⟨b3,Sl.Own 5 1 cur.length c3 (cur.map U8),true⟩,⟨b',Sl.Own 22 1 (es.length+1) cap' (es.map ay.v++[.slice (some ⟨b9,0,none⟩) 0 0]),true⟩,⟨b1',Sl.Own 22 1 (rs.length+1) c1' (rs.map ay.v++[.slice (some ⟨b3,0,none⟩) cur.length c3]),true⟩]++bh zs) Tryz.underlying93 BY rfl rfl rfl rfl (fun _=>rfl) Y642 Y609 Y609 rfl rfl fun bl' b2' c2'=>?_
     refine Y24 ?_
     refine Y247 ?_
     skip
     refine JE.aV rfl (RV.tmp rfl) (RV.tmp rfl) fun w' hw=>?_
     let x:ay:=⟨some ⟨b3,0,none⟩,c3,cur⟩
     let y:ay:=⟨some ⟨b9,0,none⟩,0,[]⟩
     have n1:(rs++[x]).length=rs.length+1:=List.length_append
     have n2:(es++[y]).length=es.length+1:=List.length_append
     have m1:(rs++[x]).map ay.v=rs.map ay.v++[x.v]:=List.map_append
     have m2:(es++[y]).map ay.v=es.map ay.v++[y.v]:=List.map_append
     have hw2:aa w [] ([⟨b2',Sl.Own 22 1 (es++[y]).length c2' ((es++[y]).map ay.v),true⟩,⟨b1',Sl.Own 22 1 (rs++[x]).length c1' ((rs++[x]).map ay.v),true⟩]++bh (x::y::zs)) w':=by
      rw[n1,n2,m1,m2]
      exact Sl.aa.weak (aa.perm' (FW _ _ _ _ _) hw) (.keep _ _ _ _ _ _ (fun _ h=>h) (.keep _ _ _ _ _ _ (fun _ h=>h) (gk (jf (l:=cur) rfl) (gk (jf (l:=[]) rfl) (aj.refl _)))))
     have k0:∀ u∈x::y::zs,u.ad=none->u.l=[]:=by
      intro u hu
      rcases List.mem_cons.1 hu with rfl|hu
      · nofun
      rcases List.mem_cons.1 hu with rfl|hu
      · nofun
      · exact h0 u hu
     refine⟨⟨(⟨some ⟨b1',0,none⟩,c1',rs++[x]⟩,⟨some ⟨b2',0,none⟩,c2',es++[y]⟩),?_,?_⟩,?_,hw.aH,FV hw2 (.there .here) k0 ?_,FV hw2 .here k0 ?_⟩
     · show(rs++[x]).map ay.l=_
       rw[List.map_append,List.map_append,hrs];rfl
     · show(es++[y]).map ay.l=_
       rw[List.map_append,List.map_append,hes];rfl
     · show _=Ending.returned (.tuple #[Value.slice _ (rs++[x]).length _,Value.slice _ (es++[y]).length _])
       rw[n1,n2]
     · intro u hu
       rcases List.mem_append.1 hu with hu|hu
       · exact List.mem_cons_of_mem _ (List.mem_cons_of_mem _ (hz1 u hu))
       · rw[List.mem_singleton.1 hu];exact List.mem_cons_self
     · intro u hu
       rcases List.mem_append.1 hu with hu|hu
       · exact List.mem_cons_of_mem _ (List.mem_cons_of_mem _ (hz2 u hu))
       · rw[List.mem_singleton.1 hu];exact List.mem_cons_of_mem _ List.mem_cons_self
end
section
open Sl
end
section
open Sl aq gZ
theorem nw:gD Tryz.prog 22=true:=by kernel_rfl
theorem vM:gX Tryz.prog 22=some 1:=by kernel_rfl
theorem tK.ok.at{w:World}{s:tK}(h:s.ok w){i:Nat}(hi:i<s.rs.length):∃ b j,s.ad=some ⟨b,j,none⟩/\b<w.heap.size/\w.cell? ⟨b,j+i,none⟩=some (s.rs.getD i aB).v/\(s.rs.getD i aB).ok w:=by
 have h1:(s.rs.map ay.v)[i]?=some (s.rs.getD i aB).v:=dF ay.v aB hi
 obtain⟨b,j,e1,c1⟩:=h.reads _ _ h1
 refine⟨b,j,e1,block_lt_of_cell c1,c1,h.all _ ?_⟩
 rw[List.getD_eq_getElem?_getD,List.getElem?_eq_getElem hi]
 exact List.getElem_mem hi
theorem BZ{α:Type}{s:tK}{xs:List α}{f:α->List Bt}{d:α}(h:s.ls=xs.map f){i:Nat}(hi:i<xs.length):i<s.rs.length/\(s.rs.getD i aB).l=f (xs.getD i d):=by
 have hl:s.rs.length=xs.length:=by rw[<- List.length_map (f:=ay.l)];show s.ls.length=_;rw[h,List.length_map]
 refine⟨by omega,?_⟩
 have h1:(s.rs.map ay.l)[i]?=(xs.map f)[i]?:=by show s.ls[i]?=_;rw[h]
 rw[List.getElem?_map,List.getElem?_map,List.getElem?_eq_getElem hi,List.getElem?_eq_getElem (show i<s.rs.length by omega)] at h1
 rw[List.getD_eq_getElem?_getD,List.getD_eq_getElem?_getD,List.getElem?_eq_getElem hi,List.getElem?_eq_getElem (show i<s.rs.length by omega)]
 exact Option.some.inj h1
theorem drop_at{α:Type}{xs:List α}{i:Nat}(d:α)(h:i<xs.length):xs.drop i=xs.getD i d::xs.drop (i+1):=by
 rw[List.drop_eq_getElem_cons h,List.getD_eq_getElem?_getD,List.getElem?_eq_getElem h];rfl
theorem FX(bd s:List aq.By):aX bd s=0\/aX bd s=1\/aX bd s=2:=by
 unfold aX
 split
 · exact .inr (.inl rfl)
 · split
   · exact .inr (.inr rfl)
   · exact .inl rfl
theorem P7{bd l e:List aq.By}{r:List (List aq.By × List aq.By)}{o:List (List aq.By)}(h:aX bd l=1):fD bd ((l,e)::r) o=fD bd (gT bd r [] []).2 (o++[(gT bd r [] []).1]):=by
 rw[fD];simp[h]
theorem P8{bd l e:List aq.By}{r:List (List aq.By × List aq.By)}{o:List (List aq.By)}(h:aX bd l=2):fD bd ((l,e)::r) o=some o:=by
 rw[fD];simp[h]
theorem P9{bd l e:List aq.By}{r:List (List aq.By × List aq.By)}{o:List (List aq.By)}(h:aX bd l=0):fD bd ((l,e)::r) o=none:=by
 rw[fD];simp[h]
theorem B0{bd:List aq.By}{o:List (List aq.By)}:fD bd [] o=none:=by rw[fD]
theorem Qa{bd l e p o:List aq.By}{r:List (List aq.By × List aq.By)}(h:aX bd l=0):gT bd ((l,e)::r) p o=gT bd r e (o++p++l):=by
 rw[gT,if_pos h]
theorem Qb{bd l e p o:List aq.By}{r:List (List aq.By × List aq.By)}(h:aX bd l≠0):gT bd ((l,e)::r) p o=(o,(l,e)::r):=by
 rw[gT,if_neg h]
theorem vN:∀ (b x:List aq.By),(fk b x).length<=b.length+x.length/\∀ q∈fk b x,q.1.length+q.2.length<=b.length+x.length+1
 | [],x=>by
   unfold fk
   split
   · simp
   · next h=>
     have:0<x.length:=List.length_pos_iff.2 h
     simp only[List.length_cons,List.length_nil,List.mem_singleton]
     exact⟨by omega,fun q hq=>by subst hq;simp only[List.length_nil];omega⟩
 | c::b,x=>by
   unfold fk
   by_cases h:c=10
   · rw[if_pos h]
     obtain⟨i1,i2⟩:=vN b []
     simp only[List.length_nil,Nat.add_zero] at i1 i2
     refine⟨by simp only[List.length_cons];omega,fun q hq=>?_⟩
     rcases List.mem_cons.1 hq with rfl|hq
     · split
       · next h13=>
         have:0<x.length:=by cases x with
          | nil=>cases h13
          | cons y x=>simp
         simp only[List.length_dropLast,List.length_cons,List.length_nil];omega
       · simp only[List.length_cons,List.length_nil];omega
     · have:=i2 q hq;simp only[List.length_cons];omega
   · rw[if_neg h]
     obtain⟨i1,i2⟩:=vN b (x++[c])
     simp only[List.length_append,List.length_cons,List.length_nil] at i1 i2⊢
     exact⟨by omega,fun q hq=>by have:=i2 q hq;omega⟩
def OS(o:Option (List (List aq.By))):List (List aq.By) × Nat:=match o with
 | none=>([],3)
 | some out=>(out,0)
theorem KQ(b:List aq.By){bd:List aq.By}(h:cG bd=true):de b bd=OS (fD bd ((di b).dropWhile fun x=>aX bd x.1 != 1) []):=by
 unfold de OS
 rw[if_neg (by rw[h];decide)]
 cases fD bd ((di b).dropWhile fun x=>aX bd x.1 != 1) [] <;> rfl
structure Rc where
 i:Nat
 os:List ay
 zs:List ay
 bo:Nat
 co:Nat
structure OT where
 i:Nat
 o:List Bt
 b:Nat
 c:Nat
structure B1 (out:List (List Bt)) where
 q:Acc
 rs:List ay
 zs:List ay
 hrs:rs.map ay.l=out
 hq:q=none->rs=[]
 h0:∀ x∈zs,x.ad=none->x.l=[]
 sub:∀ x∈rs,x∈zs
def B1.v{out:List (List Bt)}(z:B1 out):Value:=aD z.q (z.rs.map ay.v).length
def B1.an{out:List (List Bt)}(z:B1 out):List aL:=bw 22 z.q (z.rs.map ay.v)++bh z.zs
theorem B1.wr{out:List (List Bt)}(z:B1 out):∀ e∈z.an,e.wr=true:=fun e he=>by
 rcases List.mem_append.1 he with h|h
 · exact kz _ _ _ e h
 · obtain⟨x,_,hx⟩:=List.mem_flatMap.1 h
   exact x.bH e hx
def B1.nil:B1 []:=⟨none,[],[],rfl,fun _=>rfl,nofun,nofun⟩
theorem B2(s:ay)(bd:List Bt)(w:World)(hs:s.ok w)(hl:s.l.length<=1000000)(hb:bd.length<1000000):Calls Tryz.prog 53 [s.v,Z bd].toArray w
  fun e w'=>∃ z:B1 (de s.l bd).1,e=.returned (.tuple #[z.v,N (de s.l bd).2])/\aa w [] z.an w':=by
 refine enter (n:=106) Tryz.func53 rfl rfl rfl (aa.start w []) ?_
 have cb:=fun w'=>vK bd w' Y609
 cases hbd:cG bd
 · have e0:de s.l bd=([],1):=by rw[de,if_pos hbd]
   rw[e0]
   repeat(first|refine JL.q (by exact Y441) rfl ?_|refine Y42 ?_)
   refine Y246 ?_
   refine Y3 ?_
   refine Y247 ?_
   refine Y250 ?_
   exact JE.aV rfl (RV.tmp rfl) (RV.tmp rfl) fun w' hw=>⟨B1.nil,rfl,Sl.aa.weak hw (.nil _)⟩
 repeat(first|refine JL.q (by exact Y441) rfl ?_|refine Y42 ?_)
 refine Y245 ?_
 refine Y94 ?_
 refine JL.Bi (vs:=[s.v]) (S':=[]) (ι:={ q:tK × tK // q.1.ls=(di s.l).map (·.1)/\q.2.ls=(di s.l).map (·.2) }) (fun q=>.tuple #[q.1.1.v,q.1.2.v]) (fun q w2=>q.1.1.ok w2/\q.1.2.ok w2) [] BX rfl rfl (fun w' hw'=>DZ s w' (hs.holds hw' rfl) Y609) (.nil _) nofun ?_
 rintro⟨⟨L,T⟩,hL,hT⟩ w1 hw1 ⟨okL,okT⟩
 dsimp only at hL hT okL okT⊢
 have hx1:Ext w w1:=hw1.aH
 clear hw1 cb hs
 have hsp:=KQ s.l hbd
 have hln:(di s.l).length<=1000000/\∀ q∈di s.l,q.1.length+q.2.length<=1000001:=by
  obtain⟨i1,i2⟩:=vN s.l []
  simp only[List.length_nil,Nat.add_zero] at i1 i2
  exact⟨by unfold di;omega,fun q hq=>by have:=i2 q hq;omega⟩
 rw[hsp]
 clear hsp hbd
 generalize di s.l=xs at *
 obtain⟨hx0,hxl⟩:=hln
 have nL:L.rs.length=xs.length:=by rw[<- List.length_map (f:=ay.l)];show L.ls.length=_;rw[hL,List.length_map]
 have nT:T.rs.length=xs.length:=by rw[<- List.length_map (f:=ay.l)];show T.ls.length=_;rw[hT,List.length_map]
 have lenAt:∀ i,i<xs.length->(xs.getD i ([],[])).1.length+(xs.getD i ([],[])).2.length<=1000001:=fun i hi=>hxl _ (by
  rw[List.getD_eq_getElem?_getD,List.getElem?_eq_getElem hi];exact List.getElem_mem hi)
 refine Y125 ?_
 refine JL.lB Tryz.underlying93 BY rfl fun bo0 _=>?_
 refine Y7 ?_
 refine JC.p9 (ι:=Nat) (fun i=>[(1,Z bd),(6,L.v),(7,T.v),(8,.slice (some ⟨bo0,0,none⟩) 0 0),(9,N i)]) (fun _=>[⟨bo0,Sl.Own 22 1 0 0 [],true⟩]) (fun i=>i<=xs.length/\(xs.dropWhile fun x=>aX bd x.1 != 1)=xs.drop i) ?_ ?_
 · refine JC.loop (fun i:Nat=>[(1,Z bd),(6,L.v),(7,T.v),(8,.slice (some ⟨bo0,0,none⟩) 0 0),(9,N i)]) (fun _=>[⟨bo0,Sl.Own 22 1 0 0 [],true⟩]) (fun i=>xs.length-i) (fun i=>i<=xs.length/\(xs.dropWhile fun x=>aX bd x.1 != 1)=(xs.drop i).dropWhile fun x=>aX bd x.1 != 1) 0 ⟨Nat.zero_le _,rfl⟩ Y640 (aj.refl _) ?_
   rintro i ⟨hi,hd⟩
   by_cases hlt:i<xs.length
   · obtain⟨hr,hxe⟩:=BZ (d:=([],[])) hL hlt
     obtain⟨bL,jL,eL,lL,cL,hx⟩:=okL.at hr
     have vL:L.v=.slice (some ⟨bL,jL,none⟩) L.rs.length L.cap:=by rw[<- eL];rfl
     have lz:=lenAt i hlt
     have cm:=fun w' h=>oe (L.rs.getD i aB) bd w' h Y691 Y609
     rw[hxe] at cm
     rw[drop_at ([],[]) hlt,List.dropWhile_cons] at hd
     generalize hg:xs.getD i ([],[])=g at *
     have hlt':i<L.rs.length:=hr
     rw[vL]
     cases h0:decide ((aX bd g.1:Int)=1)
     · have hne:¬ aX bd g.1=1:=fun e=>of_decide_eq_false h0 Y613
       rw[if_pos (by simpa using hne)] at hd
       repeat(first|refine JL.q Y692 rfl ?_|refine JL.bG rfl rfl ?_|refine Y126 ?_)
       refine Y246 ?_
       refine Y51 ?_
       rw[<- vL]
       exact JE.again (i:=i) (i+1) ⟨hlt,hd⟩ Y609 Y640 (aj.refl _)
     · have hne:aX bd g.1=1:=by have:=of_decide_eq_true h0;omega
       rw[if_neg (by simp[hne]),<- hg,<- drop_at ([],[]) hlt] at hd
       repeat(first|refine JL.q Y692 rfl ?_|refine JL.bG rfl rfl ?_|refine Y126 ?_)
       refine Y245 ?_
       refine Y46 ?_
       rw[<- vL]
       exact JE.mid i ⟨hi,hd⟩ Y640 (aj.refl _)
   · have hlt':¬ i<L.rs.length:=by omega
     rw[List.drop_eq_nil_of_le Y609] at hd
     repeat(first|refine JL.q (by(apply OQ.Dj;rfl;rfl;exact hlt')) rfl ?_|refine JL.aM rfl rfl rfl rfl ?_|refine Y127 ?_)
     refine Y245 ?_
     refine Y46 ?_
     exact JE.mid i ⟨hi,by rw[hd,List.drop_eq_nil_of_le Y609];rfl⟩ Y640 (aj.refl _)
 rintro i0 ⟨hi0,hd0⟩
 rw[hd0]
 clear hd0
 refine Y49 ?_
 refine JC.p9 (ι:=Rc) (fun z=>[(1,Z bd),(6,L.v),(7,T.v),(8,.slice (some ⟨z.bo,0,none⟩) z.os.length z.co),(9,N z.i)]) (fun z=>[⟨z.bo,Sl.Own 22 1 z.os.length z.co (z.os.map ay.v),true⟩]++bh z.zs) (fun z=>z.i<=xs.length/\(∀ y∈z.zs,y.ad=none->y.l=[])/\(∀ y∈z.os,y∈z.zs)/\fD bd (xs.drop i0) []=fD bd (xs.drop z.i) (z.os.map ay.l)/\(z.i<xs.length->aX bd (xs.getD z.i ([],[])).1≠1)) ?_ ?_
 · refine JC.loop (fun z:Rc=>[(1,Z bd),(6,L.v),(7,T.v),(8,.slice (some ⟨z.bo,0,none⟩) z.os.length z.co),(9,N z.i)]) (fun z=>[⟨z.bo,Sl.Own 22 1 z.os.length z.co (z.os.map ay.v),true⟩]++bh z.zs) (fun z=>xs.length-z.i) (fun z=>z.i<=xs.length/\z.os.length<=z.i/\(∀ y∈z.zs,y.ad=none->y.l=[])/\(∀ y∈z.os,y∈z.zs)/\fD bd (xs.drop i0) []=fD bd (xs.drop z.i) (z.os.map ay.l)) ⟨i0,[],[],bo0,0⟩ ⟨hi0,Nat.zero_le _,nofun,nofun,rfl⟩ Y640 (aj.refl _) ?_
   rintro⟨i,os,zs,bo,co⟩ ⟨hi,hos,h0,hz,hd⟩
   dsimp only at hi hos h0 hz hd⊢
   by_cases hlt:i<xs.length
   · obtain⟨hr,hxe⟩:=BZ (d:=([],[])) hL hlt
     obtain⟨bL,jL,eL,lL,cL,hx⟩:=okL.at hr
     have vL:L.v=.slice (some ⟨bL,jL,none⟩) L.rs.length L.cap:=by rw[<- eL];rfl
     have lz:=lenAt i hlt
     have cm:=fun w' h=>oe (L.rs.getD i aB) bd w' h Y691 Y609
     rw[hxe] at cm
     have hlt':i<L.rs.length:=hr
     rw[vL]
     cases hm:decide ((aX bd (xs.getD i ([],[])).1:Int)=1)
     · have hne:¬ aX bd (xs.getD i ([],[])).1=1:=fun e=>of_decide_eq_false hm Y613
       repeat(first|refine JL.q Y693 rfl ?_|refine JL.bG rfl rfl ?_|refine Y126 ?_)
       refine Y245 ?_
       refine Y46 ?_
       rw[<- vL]
       exact JE.mid (Rc.mk i os zs bo co) ⟨hi,h0,hz,hd,fun _=>hne⟩ Y640 (aj.refl _)
     · have hone:aX bd (xs.getD i ([],[])).1=1:=by have:=of_decide_eq_true hm;omega
       rw[drop_at ([],[]) hlt,P7 hone] at hd
       repeat(first|refine JL.q Y693 rfl ?_|refine JL.bG rfl rfl ?_|refine Y126 ?_)
       refine Y246 ?_
       repeat(first|refine JL.q Y672 rfl ?_|refine JC.seq ?_|refine JC.region ?_|refine JC.block ?_|refine JC.skip ?_|refine JL.nil ?_|refine JE.next ?_)
       refine JL.lB Tryz.underlying22 dV rfl fun bp0 _=>?_
       rw[<- vL]
       repeat refine Y89 ?_
       clear hm hone cm lz cL lL hx hxe vL eL hlt' hr
       refine JC.p9 (ι:=OT) (fun z=>[(1,Z bd),(6,L.v),(7,T.v),(8,.slice (some ⟨bo,0,none⟩) os.length co),(9,N z.i),(10,.slice (some ⟨z.b,0,none⟩) z.o.length z.c)]) (fun z=>[⟨z.b,Sl.Own 5 1 z.o.length z.c (z.o.map U8),true⟩,⟨bo,Sl.Own 22 1 os.length co (os.map ay.v),true⟩]++bh zs) (fun z=>i+1<=z.i/\z.i<=xs.length/\gT bd (xs.drop (i+1)) [] []=(z.o,xs.drop z.i)) ?_ ?_
       · refine JC.loop (fun z:OT=>[(1,Z bd),(6,L.v),(7,T.v),(8,.slice (some ⟨bo,0,none⟩) os.length co),(9,N z.i),(10,.slice (some ⟨z.b,0,none⟩) z.o.length z.c),(11,N (i+1))]) (fun z=>[⟨z.b,Sl.Own 5 1 z.o.length z.c (z.o.map U8),true⟩,⟨bo,Sl.Own 22 1 os.length co (os.map ay.v),true⟩]++bh zs) (fun z=>xs.length-z.i) (fun z=>i+1<=z.i/\z.i<=xs.length/\z.o.length<=z.i*3000003/\gT bd (xs.drop (i+1)) [] []=gT bd (xs.drop z.i) (if i+1<z.i then(xs.getD (z.i-1) ([],[])).2 else []) z.o) ⟨i+1,[],bp0,0⟩ ⟨Nat.le_refl _,hlt,Nat.zero_le _,by dsimp only;rw[if_neg (Nat.lt_irrefl _)]⟩ Y640 (aj.refl _) ?_
         rintro⟨k,o,b,c⟩ ⟨hk,hkx,hol,hc⟩
         dsimp only at hk hkx hol hc⊢
         by_cases hkl:k<xs.length
         · obtain⟨hr,hxe⟩:=BZ (d:=([],[])) hL hkl
           obtain⟨bL,jL,eL,lL,cL,hx⟩:=okL.at hr
           have vL:L.v=.slice (some ⟨bL,jL,none⟩) L.rs.length L.cap:=by rw[<- eL];rfl
           have lz:=lenAt k hkl
           have cm:=fun w' h=>oe (L.rs.getD k aB) bd w' h Y691 Y609
           rw[hxe] at cm
           have hkl':k<L.rs.length:=hr
           rw[drop_at ([],[]) hkl] at hc
           rw[vL]
           cases hm:decide ((aX bd (xs.getD k ([],[])).1:Int)=0)
           · have hne:¬ aX bd (xs.getD k ([],[])).1=0:=fun e=>of_decide_eq_false hm Y613
             rw[Qb hne] at hc
             repeat(first|refine JL.q Y694 rfl ?_|refine JL.bG rfl rfl ?_|refine Y126 ?_)
             refine Y245 ?_
             refine Y46 ?_
             rw[<- vL]
             exact JE.mid (OT.mk k o b c) ⟨hk,hkx,by dsimp only;rw[hc,drop_at ([],[]) hkl]⟩ Y640 (aj.refl _)
           · have hone:aX bd (xs.getD k ([],[])).1=0:=by have:=of_decide_eq_true hm;omega
             rw[Qa hone] at hc
             have hn1:i+1<k+1:=by omega
             have hk1:k+1-1=k:=by omega
             repeat(first|refine JL.q Y694 rfl ?_|refine JL.bG rfl rfl ?_|refine Y126 ?_)
             refine Y246 ?_
             rw[<- vL]
             by_cases hfk:i+1<k
             · obtain⟨hr2,hxe2⟩:=BZ (d:=([],[])) hT (show k-1<xs.length by omega)
               obtain⟨bT,jT,eT,lT,cT,hx2⟩:=okT.at hr2
               have vT:T.v=.slice (some ⟨bT,jT,none⟩) T.rs.length T.cap:=by rw[<- eT];rfl
               have lz2:=lenAt (k-1) Y609
               rw[if_pos hfk] at hc
               have hgt:decide (i+1<k)=true:=decide_eq_true hfk
               rw[vT]
               repeat(first|refine JL.q (by(apply OQ.oJ;rfl;rfl;exact hfk)) rfl ?_|refine Y9 ?_)
               refine Y246 ?_
               repeat(first|refine JL.q (by first|(apply OQ.dz;exact Tryz.underlying93;exact vM;rfl;rfl;exact hr2)|(apply OQ.aI;exact nw;rfl;exact lT;exact Y614;exact cT)|exact Y323|exact Y338) rfl ?_|refine JC.region ?_)
               refine JL.append (cs:=(T.rs.getD (k-1) aB).l.map U8) (m:=(T.rs.getD (k-1) aB).l.length) (ad:=(T.rs.getD (k-1) aB).ad) (sc:=(T.rs.getD (k-1) aB).cap) (xs:=o.map U8) (fun b' cap'=>[⟨b',Sl.Own 5 1 (o.length+(T.rs.getD (k-1) aB).l.length) cap' (o.map U8++(T.rs.getD (k-1) aB).l.map U8),true⟩,⟨bo,Sl.Own 22 1 os.length co (os.map ay.v),true⟩]++bh zs) Tryz.underlying22 dV rfl rfl Y642 Y614 (fun w' hw'=>(hx2.holds hw' rfl).reads) (sG _) rfl Y610 (by rw[hxe2];omega) (by rw[hxe2];omega) rfl fun b' c'=>?_
               rw[<- List.map_append,<- List.length_append,hxe2]
               rw[<- vT,vL]
               repeat(first|refine JL.q (by first|exact Y446|exact Y444) rfl ?_|refine Y0 ?_)
               refine JL.append (cs:=(L.rs.getD k aB).l.map U8) (m:=(L.rs.getD k aB).l.length) (ad:=(L.rs.getD k aB).ad) (sc:=(L.rs.getD k aB).cap) (xs:=(o++(xs.getD (k-1) ([],[])).2).map U8) (fun b' cap'=>[⟨b',Sl.Own 5 1 ((o++(xs.getD (k-1) ([],[])).2).length+(L.rs.getD k aB).l.length) cap' ((o++(xs.getD (k-1) ([],[])).2).map U8++(L.rs.getD k aB).l.map U8),true⟩,⟨bo,Sl.Own 22 1 os.length co (os.map ay.v),true⟩]++bh zs) Tryz.underlying22 dV rfl rfl Y642 Y614 (fun w' hw'=>(hx.holds hw' rfl).reads) (sG _) rfl Y610 Y695 Y695 rfl fun b2 c2=>?_
               rw[<- List.map_append,<- List.length_append,hxe]
               rw[<- vL]
               refine Y18 ?_
               exact JE.again (i:=OT.mk k o b c) (OT.mk (k+1) (o++(xs.getD (k-1) ([],[])).2++(xs.getD k ([],[])).1) b2 c2) ⟨by dsimp only;omega,hkl,by dsimp only;(try simp only[List.length_append]);omega,by dsimp only;rw[if_pos hn1,hk1,hc]⟩ Y661 Y640 (aj.refl _)
             · rw[if_neg hfk] at hc
               rw[vL]
               repeat(first|refine JL.q (by(apply OQ.zx;rfl;rfl;exact hfk)) rfl ?_|refine Y9 ?_)
               refine Y245 ?_
               repeat(first|refine JL.q (by first|exact Y446|exact Y444) rfl ?_|refine Y128 ?_)
               refine JL.append (cs:=(L.rs.getD k aB).l.map U8) (m:=(L.rs.getD k aB).l.length) (ad:=(L.rs.getD k aB).ad) (sc:=(L.rs.getD k aB).cap) (xs:=(o).map U8) (fun b' cap'=>[⟨b',Sl.Own 5 1 ((o).length+(L.rs.getD k aB).l.length) cap' ((o).map U8++(L.rs.getD k aB).l.map U8),true⟩,⟨bo,Sl.Own 22 1 os.length co (os.map ay.v),true⟩]++bh zs) Tryz.underlying22 dV rfl rfl Y642 Y614 (fun w' hw'=>(hx.holds hw' rfl).reads) (sG _) rfl Y610 Y695 Y695 rfl fun b2 c2=>?_
               rw[<- List.map_append,<- List.length_append,hxe]
               rw[<- vL]
               refine Y18 ?_
               exact JE.again (i:=OT.mk k o b c) (OT.mk (k+1) (o++(xs.getD k ([],[])).1) b2 c2) ⟨by dsimp only;omega,hkl,by dsimp only;(try simp only[List.length_append]);omega,by dsimp only;rw[if_pos hn1,hk1,hc,List.append_nil]⟩ Y661 Y640 (aj.refl _)
         · have hkl':¬ k<L.rs.length:=by omega
           have e0:xs.drop k=[]:=List.drop_eq_nil_of_le Y609
           rw[e0,gT] at hc
           repeat(first|refine JL.q (by(apply OQ.Dj;rfl;rfl;exact hkl')) rfl ?_|refine JL.aM rfl rfl rfl rfl ?_|refine Y127 ?_)
           refine Y245 ?_
           refine Y46 ?_
           exact JE.mid (OT.mk k o b c) ⟨hk,hkx,by dsimp only;rw[hc,e0]⟩ Y640 (aj.refl _)
       rintro⟨k,o,b,c⟩ ⟨hk,hkx,hc⟩
       dsimp only at hk hkx hc⊢
       rw[hc] at hd
       dsimp only at hd
       have hEq:decide ((k:Int)=(L.rs.length:Int))=decide (k=xs.length):=decide_eq_decide.2 Y609
       by_cases hkl:k=xs.length
       · have hq:decide ((k:Int)=(L.rs.length:Int))=true:=hEq.trans (decide_eq_true hkl)
         have e0:xs.drop k=[]:=List.drop_eq_nil_of_le Y609
         rw[e0,B0] at hd
         rw[hd]
         repeat(first|refine JL.q (by exact Y448) rfl ?_|refine Y129 ?_)
         refine Y246 ?_
         refine Y3 ?_
         refine Y247 ?_
         refine Y2 ?_
         exact Y275
       · have hq:decide ((k:Int)=(L.rs.length:Int))=false:=hEq.trans (decide_eq_false hkl)
         repeat(first|refine JL.q (by exact Y448) rfl ?_|refine Y129 ?_)
         refine Y245 ?_
         repeat refine Y104 ?_
         refine JL.gi (v:=.slice (some ⟨b,0,none⟩) o.length c) (xs:=os.map ay.v) (fun b' cap'=>[⟨b,Sl.Own 5 1 o.length c (o.map U8),true⟩,⟨b',Sl.Own 22 1 (os.length+1) cap' (os.map ay.v++[.slice (some ⟨b,0,none⟩) o.length c]),true⟩]++bh zs) Tryz.underlying93 BY rfl rfl rfl rfl (fun _=>rfl) Y642 Y609 Y609 rfl rfl fun bl b' c'=>?_
         refine Y130 ?_
         have n1:(os++[(⟨some ⟨b,0,none⟩,c,o⟩:ay)]).length=os.length+1:=List.length_append
         refine JE.perm (.swap _ _ _) (JE.again (i:=Rc.mk i os zs bo co) (Rc.mk k (os++[⟨some ⟨b,0,none⟩,c,o⟩]) (⟨some ⟨b,0,none⟩,c,o⟩::zs) b' c') ⟨hkx,by dsimp only;rw[n1];omega,?_,?_,?_⟩ Y661 ?_ ?_)
         · intro u hu
           rcases List.mem_cons.1 hu with rfl|hu
           · nofun
           · exact h0 u hu
         · intro u hu
           rcases List.mem_append.1 hu with hu|hu
           · exact List.mem_cons_of_mem _ (hz u hu)
           · rw[List.mem_singleton.1 hu];exact List.mem_cons_self
         · dsimp only
           rw[hd,List.map_append]
           rfl
         · dsimp only
           rw[n1]
           exact Y269
         · dsimp only
           rw[n1,List.map_append]
           exact .keep _ _ _ _ _ _ (fun _ h=>h) (gk (jf rfl) (aj.refl _))
   · have hlt':¬ i<L.rs.length:=by omega
     repeat(first|refine JL.q (by(apply OQ.Dj;rfl;rfl;exact hlt')) rfl ?_|refine JL.aM rfl rfl rfl rfl ?_|refine Y127 ?_)
     refine Y245 ?_
     refine Y46 ?_
     exact JE.mid (Rc.mk i os zs bo co) ⟨hi,h0,hz,hd,fun h=>absurd h hlt⟩ Y640 (aj.refl _)
 rintro⟨i,os,zs,bo,co⟩ ⟨hi,h0,hz,hd,hne⟩
 dsimp only at hi h0 hz hd hne⊢
 rw[hd]
 by_cases hlt:i<xs.length
 · obtain⟨hr,hxe⟩:=BZ (d:=([],[])) hL hlt
   obtain⟨bL,jL,eL,lL,cL,hx⟩:=okL.at hr
   have vL:L.v=.slice (some ⟨bL,jL,none⟩) L.rs.length L.cap:=by rw[<- eL];rfl
   have lz:=lenAt i hlt
   have cm:=fun w' h=>oe (L.rs.getD i aB) bd w' h Y691 Y609
   rw[hxe] at cm
   have hlt':¬ L.rs.length<=i:=by omega
   have hne':=hne hlt
   rw[vL,drop_at ([],[]) hlt]
   cases hm:decide ((aX bd (xs.getD i ([],[])).1:Int)=2)
   · have hn2:¬ aX bd (xs.getD i ([],[])).1=2:=fun e=>of_decide_eq_false hm Y613
     have hm0:aX bd (xs.getD i ([],[])).1=0:=by rcases FX bd (xs.getD i ([],[])).1 with h|h|h <;> omega
     rw[P9 hm0]
     repeat(first|refine JL.q Y696 rfl ?_|refine JL.bG rfl rfl ?_|refine Y127 ?_)
     refine Y246 ?_
     refine Y3 ?_
     refine Y247 ?_
     refine Y250 ?_
     exact Y275
   · have hm2:aX bd (xs.getD i ([],[])).1=2:=by have:=of_decide_eq_true hm;omega
     rw[P8 hm2]
     repeat(first|refine JL.q Y696 rfl ?_|refine JL.bG rfl rfl ?_|refine Y127 ?_)
     refine Y245 ?_
     refine Y5 ?_
     refine Y247 ?_
     skip
     exact JE.aV rfl (RV.tmp rfl) (RV.tmp rfl) fun w' hw=>⟨⟨some (bo,co),os,zs,rfl,nofun,h0,hz⟩,by show _=Ending.returned (.tuple #[aD _ (os.map ay.v).length,_]);rw[List.length_map];rfl,Sl.aa.base hx1 (by show aa _ _ (bw _ _ _++bh zs) _;unfold bw;rw[List.length_map];exact hw)⟩
 · have e0:xs.drop i=[]:=List.drop_eq_nil_of_le Y609
   have hlt':L.rs.length<=i:=by omega
   rw[e0,B0]
   repeat(first|refine JL.q (by(apply OQ.dn (a:=(i:Int)) (b:=(L.rs.length:Int));rfl;rfl;exact(decide_eq_true Y609))) rfl ?_|refine JL.aM rfl rfl rfl rfl ?_|refine Y126 ?_)
   refine Y246 ?_
   refine Y3 ?_
   refine Y247 ?_
   refine Y250 ?_
   exact Y275
structure IX (out:List (List Bt)) where
 q:Acc
 rs:List ay
 hrs:rs.map ay.l=out
 hq:q=none->rs=[]
 h0:∀ x∈rs,x.ad=none->x.l=[]
def IX.v{out:List (List Bt)}(z:IX out):Value:=aD z.q (z.rs.map ay.v).length
def IX.an{out:List (List Bt)}(z:IX out):List aL:=bw 22 z.q (z.rs.map ay.v)++bh z.rs
theorem IX.wr{out:List (List Bt)}(z:IX out):∀ e∈z.an,e.wr=true:=fun e he=>by
 rcases List.mem_append.1 he with h|h
 · exact kz _ _ _ e h
 · obtain⟨x,_,hx⟩:=List.mem_flatMap.1 h
   exact x.bH e hx
theorem qy:aJ Tryz.prog 137:=⟨_,Tryz.func137,rfl,by kernel_rfl⟩
theorem FY:Tryz.prog.follows .mixedOrders=true:=by kernel_rfl
theorem T6:zc Tryz.prog 93=some [.slice none 0 0]:=by kernel_rfl
theorem Um:zc Tryz.prog 30=some [.int .i64 0]:=by kernel_rfl
theorem T7:zc Tryz.prog 9=some [Z []]:=by kernel_rfl
theorem Un:zc Tryz.prog 4=some [.bool false]:=by kernel_rfl
theorem Uo:zc Tryz.prog 3=some [.int .i64 0]:=by kernel_rfl
theorem Sb:gX Tryz.prog 93=some 1:=by kernel_rfl
theorem Ts:gX Tryz.prog 30=some 1:=by kernel_rfl
theorem OU:gX Tryz.prog 9=some 1:=by kernel_rfl
theorem FZ:gX Tryz.prog 3=some 1:=by kernel_rfl
theorem mH:gX Tryz.prog 22=some 1:=by kernel_rfl
theorem Re:gD Tryz.prog 93=true:=by kernel_rfl
theorem Tt:gD Tryz.prog 30=true:=by kernel_rfl
theorem OV:gD Tryz.prog 9=true:=by kernel_rfl
theorem OW:gD Tryz.prog 3=true:=by kernel_rfl
theorem xg:gD Tryz.prog 22=true:=by kernel_rfl
theorem qz:EI Tryz.prog 22 (.slice none 0 0) 1 24:=by unfold EI;kernel_rfl
structure Qc where
 st:Option Nat
 q:Acc
 rs:List ay
section
variable (s:ay) (bd:List Bt) (be b2 b4 b5 b6 b7 b8 b9 b10:Nat)
def NK(z:Qc):List aL:=[⟨be,Row 22 [s.v],false⟩,⟨b10,Row 3 [N (z.st.getD 0)],true⟩,⟨b9,Row 4 [.bool z.st.isSome],true⟩]
def SR:List aL:=[⟨b7,Row 9 [Z (45::45::(bd++[45,45]))],true⟩,⟨b6,Row 9 [Z (45::45::bd)],true⟩,⟨b5,Row 30 [.int .i64 0],true⟩,⟨b4,Row 93 [.slice none 0 0],true⟩,⟨b2,Row 22 [s.v],true⟩]
def KR(z:Qc):List aL:=NK s be b9 b10 z++⟨b8,Row 93 [aD z.q (z.rs.map ay.v).length],true⟩::(SR s bd b2 b4 b5 b6 b7++(bw 22 z.q (z.rs.map ay.v)++bh z.rs))
def Tu(z:Qc):List aL:=⟨b5,Row 30 [.int .i64 0],true⟩::⟨b4,Row 93 [aD z.q (z.rs.map ay.v).length],true⟩::(bw 22 z.q (z.rs.map ay.v)++bh z.rs)
end
def Up(s:ay)(bd:List Bt)(k:Nat)(z:Qc):Prop:=j4 bd s.l (dw s.l k) z.st (z.rs.map ay.l)/\(z.q=none->z.rs=[])/\(∀ x∈z.rs,x.ad=none->x.l=[])/\z.rs.length<=k
def Uq(s:ay)(bd:List Bt)(z:Qc):Prop:=qt bd s.l=some (z.rs.map ay.l)/\(z.q=none->z.rs=[])/\(∀ x∈z.rs,x.ad=none->x.l=[])
theorem rV{e:TypeId}{l:List Value}:∀ o,Row e l o->o.isCells=true:=by rintro o rfl;rfl
theorem HI{e:TypeId}{k sz cap:Nat}{l:List Value}:∀ o,Sl.Own e sz k cap l o->o.isCells=true:=by rintro o ⟨_,rfl,_⟩;rfl
theorem vO{e:TypeId}{q:Acc}{l:List Value}:∀ x∈bw e q l,∀ o,x.A o->o.isCells=true:=by
 intro x hx o hA
 cases q with
 | none=>cases hx
 | some p=>
   rw[List.mem_singleton.1 hx] at hA
   exact HI o hA
theorem D2{x:ay}:∀ e∈x.an,∀ o,e.A o->o.isCells=true:=by
 intro e he o hA
 obtain⟨ad,cap,l⟩:=x
 cases ad with
 | none=>cases he
 | some a=>
   unfold ay.an at he
   rw[List.mem_singleton.1 he] at hA
   obtain⟨⟨c,e,fr,rfl,_⟩,_⟩:=hA
   rfl
theorem vQ{rs:List ay}:∀ e∈bh rs,∀ o,e.A o->o.isCells=true:=by
 intro e he o hA
 obtain⟨x,_,hx⟩:=List.mem_flatMap.1 he
 exact D2 e hx o hA
theorem fj{M N:List aL}{b:Nat}{A:Obj->Prop}{wr:Bool}(h:Has M b A wr):Has (M++N) b A wr:=by
 induction h with
 | here=>exact .here
 | there _ ih=>exact .there ih
theorem dA(N:List aL){M:List aL}{b:Nat}{A:Obj->Prop}{wr:Bool}(h:Has M b A wr):Has (N++M) b A wr:=by
 induction N with
 | nil=>exact h
 | cons e N ih=>exact .there ih
theorem kH{M M':List aL}(h:M'=M):aj M' M:=h▸aj.refl _
theorem HJ(M:List aL):aj (M++[]) M:=by
 rw[List.append_nil]
 exact aj.refl _
theorem yt(M:List aL):aj M (M++[]):=by
 rw[List.append_nil]
 exact aj.refl _
theorem Qf{bd x:List aq.By}:aX bd x=1↔gL x=45::45::bd:=by
 unfold aX
 by_cases h1:gL x=45::45::bd
 · rw[if_pos h1];exact⟨fun _=>h1,fun _=>rfl⟩
 · rw[if_neg h1]
   refine⟨fun h=>?_,fun h=>absurd h h1⟩
   split at h <;> cases h
theorem Qg{bd x:List aq.By}:aX bd x=2↔gL x=45::45::(bd++[45,45]):=by
 unfold aX
 by_cases h1:gL x=45::45::bd
 · rw[if_pos h1,h1]
   refine⟨fun h=>absurd h Y610,fun h=>?_⟩
   have:=congrArg List.length h
   simp at this
 · rw[if_neg h1]
   by_cases h2:gL x=45::45::(bd++[45,45])
   · rw[if_pos h2];exact⟨fun _=>h2,fun _=>rfl⟩
   · rw[if_neg h2];exact⟨fun h=>absurd h Y610,fun h=>absurd h h2⟩
theorem pM{bd b:List aq.By}{k bg:Nat}{out:List (List aq.By)}(h:j4 bd b k (some bg) out):bg<=k:=h.1
theorem F0(s:ay)(lo hi:Nat):(s.mid lo hi).l.length<=s.l.length:=by
 show((s.l.take hi).drop lo).length<=_
 rw[List.length_drop,List.length_take]
 omega
theorem vR(s:ay)(bd:List Bt)(w:World)(hs:s.ok w)(hl:s.l.length<=1073741824)(hb:bd.length<=1000):Calls Tryz.prog 137 [s.v,Z bd].toArray w fun e w'=>∃ z:IX (de s.l bd).1,e=.returned (.tuple #[z.v,N (de s.l bd).2])/\aa w [] z.an w':=by
 have hN:(di s.l).length<=s.l.length+1:=(lM s.l []).2
 refine Ab (n:=64) Tryz.func137 rfl rfl rfl (aa.start w []) ?_
 refine JC.seq (JC.region (JL.box (r:=[s.v]) rfl rfl rfl fun b2 _=>?_))
 refine JL.alloc T6 rfl fun b4 _=>?_
 refine JL.alloc Um rfl fun b5 _=>?_
 have cb:=fun w'=>vk bd w' Y609
 cases hB:cG bd
 · rw[hB] at cb
   have e1:de s.l bd=([],1):=by
    unfold de
    rw[if_pos hB]
   rw[e1]
   repeat(first|refine JL.q (by exact Y451) rfl ?_|refine Y131 ?_)
   refine Y246 ?_
   refine JC.seq (JC.region ?_)
   refine JL.aP (v:=.slice none 0 0) (r':=[.slice none 0 0]) Sb rfl rfl rfl rfl (.there .here) Y610 rfl ?_
   refine JL.aP (v:=.int .i64 1) (r':=[.int .i64 1]) Ts rfl rfl rfl rfl .here Y610 rfl ?_
   refine JL.nil (JE.next ?_)
   refine Y247 ?_
   refine JE.ag ?_
   refine JE.R2 rfl (RV.cell rfl Re (.there .here) (Row.cell (v:=.slice none 0 0) rfl)) (RV.cell rfl Tt .here (Row.cell (v:=.int .i64 1) rfl)) fun w' hw=>?_
   exact Y276
 rw[hB] at cb
 have hsp:=Hx (b:=s.l) hB
 rw[hsp]
 clear hsp
 have e2:=fun w'=>xY bd w' Y609
 have e3:=fun w'=>vl bd w' Y609
 repeat(first|refine JL.q (by exact Y451) rfl ?_|refine Y131 ?_)
 refine Y245 ?_
 repeat(first|refine JL.q (by first|(apply OQ.ai (vs:=[Z bd]);exact vj;rfl;exact(fun w' _=>e2 w'))|(apply OQ.ai (vs:=[Z bd]);exact sJ;rfl;exact(fun w' _=>e3 w'))) rfl ?_|refine Y128 ?_)
 refine JL.alloc T7 rfl fun b6 _=>?_
 refine JL.alloc T7 rfl fun b7 _=>?_
 refine JL.aP (v:=Z (45::45::bd)) (r':=[Z (45::45::bd)]) OU rfl rfl rfl rfl (.there .here) Y610 rfl ?_
 refine JL.aP (v:=Z (45::45::(bd++[45,45]))) (r':=[Z (45::45::(bd++[45,45]))]) OU rfl rfl rfl rfl .here Y610 rfl ?_
 refine Y132 ?_
 refine JL.alloc T6 rfl fun b8 _=>?_
 refine Y132 ?_
 refine JL.alloc Un rfl fun b9 _=>?_
 refine JL.alloc Uo rfl fun b10 _=>?_
 refine JL.aP (v:=.bool false) (r':=[.bool false]) Q9 rfl rfl rfl rfl (.there .here) Y610 rfl ?_
 refine JL.aP (v:=.int .i64 0) (r':=[.int .i64 0]) FZ rfl rfl rfl rfl .here Y610 rfl ?_
 repeat(first|refine JL.q (by(apply OQ.load;exact xg;rfl;exact Y697;exact(Row.cell (v:=s.v) rfl))) rfl ?_|refine Y133 ?_)
 refine JL.bD (ι:=Nat) (vs:=[s.v]) (fun b=>OR b) (fun b=>[⟨b,Row 22 [s.v],true⟩]) HG rfl rfl (fun b e he=>by rw[List.mem_singleton.1 he]) (fun w' _=>KN s w') fun be=>?_
 refine Y134 ?_
 refine JC.PU (ι:=Qc) (κ:=Qc) (PY s) (be::NG s) (di s.l).length (KR s bd be b2 b4 b5 b6 b7 b8 b9 b10) (Up s bd) (Tu b4 b5) (Uq s bd) rfl (enters_of Tryz.func229 Y636 rfl) ?hseq ?hcell ?hcelx ?hL ⟨none,none,[]⟩ ⟨DP bd s.l,fun _=>rfl,by simp,Nat.le_refl _⟩ ?hMz rfl rfl rfl rfl (fun _ _=>rfl) (fun _ _=>rfl) ?hbody ?hdone ?hstop
 case hseq=>
  intro W hW
  obtain⟨o1,h1,h1'⟩:=hW.get (b:=be) (A:=Row 22 [s.v]) (wr:=true) Y697
  exact DX s be Y609 W (hs.holds hW rfl) h1 (Row.cell rfl _ h1')
 case hcell=>
  intro z e he o hA
  unfold KR NK SR at he
  simp only[List.mem_cons,List.mem_append,List.not_mem_nil,or_false] at he
  rcases he with(rfl|rfl|rfl)|rfl|(rfl|rfl|rfl|rfl|rfl)|h|h
  all_goals first|exact rV o hA|skip
  · exact vO e h o hA
  · exact vQ e h o hA
 case hcelx=>
  intro z e he o hA
  unfold Tu at he
  simp only[List.mem_cons,List.mem_append] at he
  rcases he with rfl|rfl|h|h
  · exact rV o hA
  · exact rV o hA
  · exact vO e h o hA
  · exact vQ e h o hA
 case hL=>
  intro z k hk
  rcases List.mem_cons.1 hk with rfl|hk
  · exact .inr ⟨_,by unfold KR NK SR;exact Y697⟩
  · exact .inl (FR hs k hk)
 case hMz=>
  intro w' hw'
  exact hw'.FN (.keep _ _ _ _ _ _ _ (fun _ h=>h) Y614 (.keep _ _ _ _ _ _ _ (fun _ h=>h) Y614 (.keep _ _ _ _ _ _ _ (fun _ h=>h) Y614 (.keep _ _ _ _ _ _ _ (fun _ h=>h) Y614 (.keep _ _ _ _ _ _ _ (fun _ h=>h) Y614 (.keep _ _ _ _ _ _ _ (fun _ h=>h) Y614 (.keep _ _ _ _ _ _ _ (fun _ h=>h) Y614 (.keep _ _ _ _ _ _ _ (fun _ h=>h) Y614 (.keep _ _ _ _ _ _ _ (fun _ h=>h) Y614 (.nil _))))))))))
 case hbody=>
  rintro l k ⟨st,q,rs⟩ w1 ⟨hsc,hq,h0,hrl⟩ hk hx hge
  dsimp only at hsc hq h0 hrl
  have hat:dw s.l k<s.l.length:=(Ad s.l k).1 hk
  have hle2:=Ac s.l (k+1)
  have hge2:dw s.l k<=dw s.l (k+1):=Nat.le_add_right _ _
  have hcap:=hs.len
  have oks:∀ {M'} w',aa w1 (AF (KR s bd be b2 b4 b5 b6 b7 b8 b9 b10 ⟨st,q,rs⟩)) M' w'->s.ok w':=fun w' hw'=>hs.ext (hw'.FO hx hge)
  generalize AF (KR s bd be b2 b4 b5 b6 b7 b8 b9 b10 ⟨st,q,rs⟩)=S1 at oks⊢
  have hyl:(s.mid (dw s.l k) (dw s.l (k+1))).l=fM s.l (dw s.l k):=KO s k
  have hyn:=F0 s (dw s.l k) (dw s.l (k+1))
  have hyN:(s.mid (dw s.l k) (dw s.l (k+1))).l.length=dw s.l (k+1)-dw s.l k:=by
   show((s.l.take (dw s.l (k+1))).drop (dw s.l k)).length=_
   rw[List.length_drop,List.length_take]
   omega
  have oky:∀ {M'} w',aa w1 S1 M' w'->(s.mid (dw s.l k) (dw s.l (k+1))).ok w':=fun w' hw'=>(oks w' hw').mid hge2 hle2
  show JR _ _ _ _ _ _ _ _ ((12,(s.mid (dw s.l k) (dw s.l (k+1))).v)::(11,N (dw s.l k))::_) _
  generalize (s.mid (dw s.l k) (dw s.l (k+1)))=y at hyl hyn hyN oky⊢
  have n1:(br y.l).length<=y.l.length:=by
   obtain⟨m,_,e⟩:=rP y.l
   rw[e,List.length_take]
   omega
  have ok1:∀ {M'} w',aa w1 S1 M' w'->(y.hd (br y.l)).ok w':=fun w' hw'=>FM (oky w' hw')
  have Mo:∀ {M'} w',aa w1 S1 M' w'->((y.hd (br y.l)).hd (gL (br y.l))).ok w':=fun w' hw'=>by
   obtain⟨m,_,e⟩:=HD (br y.l)
   rw[e]
   exact ay.FI (ok1 w' hw') m
  have c28:∀ {M'} w',aa w1 S1 M' w'->Calls Tryz.prog 192 [y.v].toArray w' fun e w2=>e=.returned (y.hd (br y.l)).v/\Ext w' w2:=fun w' hw'=>yj y w' (oky w' hw') Y609
  have c29:∀ {M'} w',aa w1 S1 M' w'->Calls Tryz.prog 191 [(y.hd (br y.l)).v,Z [32,9]].toArray w' fun e w2=>e=.returned ((y.hd (br y.l)).hd (gL (br y.l))).v/\Ext w' w2:=fun w' hw'=>Ny (y.hd (br y.l)) w' (ok1 w' hw') (by show(br y.l).length<_;omega)
  refine JR.perm (M':=⟨b8,Row 93 [aD q (rs.map ay.v).length],true⟩::([⟨be,Row 22 [s.v],false⟩,⟨b10,Row 3 [N (st.getD 0)],true⟩,⟨b9,Row 4 [.bool st.isSome],true⟩,⟨b7,Row 9 [Z (45::45::(bd++[45,45]))],true⟩,⟨b6,Row 9 [Z (45::45::bd)],true⟩,⟨b5,Row 30 [.int .i64 0],true⟩,⟨b4,Row 93 [.slice none 0 0],true⟩,⟨b2,Row 22 [s.v],true⟩]++(bw 22 q (rs.map ay.v)++bh rs))) List.perm_middle ?_
  repeat(first|refine JL.q (by first|(apply OQ.ai (vs:=[y.v]);exact oY;rfl;exact c28)|(apply OQ.ai (vs:=[(y.hd (br y.l)).v,Z [32,9]]);exact KB;rfl;exact c29)|exact Y323|exact Y324) rfl ?_|refine JR.seq ?_|refine JR.block ?_|refine JL.nil ?_|with_reducible refine JE.gH ?_|refine JR.region rfl Y698 ?_)
  have hcut:((y.hd (br y.l)).hd (gL (br y.l))).l=gL (br y.l):=rfl
  obtain⟨p,hp⟩:∃ p,decide (gL (br y.l)=45::45::bd)=p:=⟨_,rfl⟩
  obtain⟨e,he⟩:∃ e,decide (gL (br y.l)=45::45::(bd++[45,45]))=e:=⟨_,rfl⟩
  have m1:=Qf (bd:=bd) (x:=br y.l)
  have m2:=Qg (bd:=bd) (x:=br y.l)
  have m0:=FX bd (br y.l)
  generalize (y.hd (br y.l)).hd (gL (br y.l))=y2 at hcut Mo⊢
  generalize gL (br y.l)=cw at hcut hp he m1 m2
  obtain⟨MM,hMM⟩:∃ MM,MM=⟨b8,Row 93 [aD q (rs.map ay.v).length],true⟩::([⟨be,Row 22 [s.v],false⟩,⟨b10,Row 3 [N (st.getD 0)],true⟩,⟨b9,Row 4 [.bool st.isSome],true⟩,⟨b7,Row 9 [Z (45::45::(bd++[45,45]))],true⟩,⟨b6,Row 9 [Z (45::45::bd)],true⟩,⟨b5,Row 30 [.int .i64 0],true⟩,⟨b4,Row 93 [.slice none 0 0],true⟩,⟨b2,Row 22 [s.v],true⟩]++(bw 22 q (rs.map ay.v)++bh rs)):=⟨_,rfl⟩
  have h6:Has MM b6 (Row 9 [Z (45::45::bd)]) true:=hMM▸Y697
  have h7:Has MM b7 (Row 9 [Z (45::45::(bd++[45,45]))]) true:=hMM▸Y697
  have h9:Has MM b9 (Row 4 [.bool st.isSome]) true:=hMM▸Y697
  rw[<- hMM]
  let vs:Nat->Nat->Value:=fun j _=>match j with
   | 0=>y2.v
   | 1=>Z cw
   | 2=>Z (45::45::bd)
   | 3=>.bool p
   | 4=>y2.v
   | 5=>Z cw
   | 6=>Z (45::45::(bd++[45,45]))
   | 7=>.bool e
   | 8=>.bool p
   | _=>.bool e
  let Ms:Nat->Nat->List aL:=fun j _=>match j with
   | 10=>MM
   | _=>[]
  have cv:∀ {E:Env} {M':List aL} {x:Operand} {dst:Option Tmp} {ty:TypeId} {pos:String} {aft:Array Edge} {g:Option (Nat × Bool)},ev E x=some y2.v->OQ Tryz.prog 64 E (aa w1 S1 M') ⟨dst,.convert 22 9 x,ty,pos,aft,g⟩ (Z cw):=fun h=>OQ.to (OQ.wU Tryz.underlying22 Tryz.underlying5 Tryz.underlying9 h Mo) (congrArg Z hcut)
  refine JR.nt (g:=⟨[(13,y2.v),(11,N (dw s.l k)),(12,y.v),(2,Pt b2 0),(4,Pt b4 0),(5,Pt b5 0),(6,Pt b6 0),(7,Pt b7 0),(8,Pt b8 0),(9,Pt b9 0),(10,Pt b10 0)],11,vs,Ms,(fun j=>match j with|1=>[(0,30)]|3=>[(1,31),(2,32)]|5=>[(4,34)]|7=>[(5,35),(6,36)]|8=>[(3,33)]|9=>[(7,37)]|_=>[]),(fun j=>match j with|2=>[10]|6=>[10]|_=>[]),(fun _=>[]),(fun _=>none),fun _=>[],fun _ _ _=>True⟩) [(8,14),(9,15)] [10] rfl Y699 FY Y640 (fun _ _=>.nil) (HJ _) Y636 Y636 Y636 ?_ ?_
  · refine⟨?_,?_,?_,?_,?_,?_,?_,?_,?_,?_,trivial⟩
    · (intro x EF MF Q kk;exact JL.q (OQ.move rfl) rfl (JL.nil (kk default nofun)))
    · (intro x EF MF Q kk;exact JL.q (cv rfl) rfl (JL.nil (kk default nofun)))
    · (intro x EF MF Q kk;exact JL.q (OQ.load OV rfl (fj (fj h6)) (Row.cell (v:=Z (45::45::bd)) rfl)) rfl (JL.nil (kk default nofun)))
    · (intro x EF MF Q kk;exact JL.q (OQ.fR (l:=cw) (r:=45::45::bd) rfl rfl hp) rfl (JL.nil (kk default nofun)))
    · (intro x EF MF Q kk;exact JL.q (OQ.move rfl) rfl (JL.nil (kk default nofun)))
    · (intro x EF MF Q kk;exact JL.q (cv rfl) rfl (JL.nil (kk default nofun)))
    · (intro x EF MF Q kk;exact JL.q (OQ.load OV rfl (fj (fj h7)) (Row.cell (v:=Z (45::45::(bd++[45,45]))) rfl)) rfl (JL.nil (kk default nofun)))
    · (intro x EF MF Q kk;exact JL.q (OQ.fR (l:=cw) (r:=45::45::(bd++[45,45])) rfl rfl he) rfl (JL.nil (kk default nofun)))
    · (intro x EF MF Q kk;exact JL.q (OQ.assign rfl) rfl (JL.nil (kk default nofun)))
    · (intro x EF MF Q kk;exact JL.q (OQ.assign rfl) rfl (JL.nil (kk default nofun)))
  intro x hxx
  refine JE.less (M':=MM) (yt MM) ?_
  show JE _ _ _ _ _ [(14,.bool p),(15,.bool e),(13,y2.v),(11,N (dw s.l k)),(12,y.v),(2,Pt b2 0),(4,Pt b4 0),(5,Pt b5 0),(6,Pt b6 0),(7,Pt b7 0),(8,Pt b8 0),(9,Pt b9 0),(10,Pt b10 0)] MM
  clear hxx x vs Ms cv Mo hcut c28 c29 ok1
  have hmk:(aX bd (br y.l)=0/\p=false/\e=false)\/(aX bd (br y.l)=1/\p=true/\e=false)\/(aX bd (br y.l)=2/\p=false/\e=true):=by
   rcases m0 with h|h|h
   · refine .inl ⟨h,hp▸decide_eq_false fun k=>?_,he▸decide_eq_false fun k=>?_⟩
     · rw[m1.2 k] at h;cases h
     · rw[m2.2 k] at h;cases h
   · refine .inr (.inl ⟨h,hp▸decide_eq_true (m1.1 h),he▸decide_eq_false fun k=>?_⟩)
     rw[m2.2 k] at h;cases h
   · refine .inr (.inr ⟨h,hp▸decide_eq_false fun k=>?_,he▸decide_eq_true (m2.1 h)⟩)
     rw[m1.2 k] at h;cases h
  rw[hyl] at hmk
  clear m1 m2 m0 hp he
  have hnext:dw s.l (k+1)=dw s.l k+fY (s.l.drop (dw s.l k)):=rfl
  have hsum:dw s.l k+y.l.length=dw s.l (k+1):=by omega
  refine JE.gH (JR.seq (JR.seq (JR.region rfl Y699 ?_)))
  cases st with
  | none=>
    obtain rfl:rs=[]:=by simpa using hsc.1
    have hsc:j4 bd s.l (dw s.l k) none []:=hsc
    rcases hmk with⟨hm,rfl,rfl⟩|⟨hm,rfl,rfl⟩|⟨hm,rfl,rfl⟩
    · repeat(first|refine JL.q Y700 rfl ?_|refine JL.aM rfl rfl rfl rfl ?_|refine JL.ic rfl rfl rfl rfl ?_|refine Y135 ?_)
      refine Y277 ?_
      repeat(first|refine JL.q Y700 rfl ?_|refine JL.aM rfl rfl rfl rfl ?_|refine JR.region rfl Y698 ?_|refine Y136 ?_)
      refine Y277 ?_
      repeat(first|refine JR.region rfl Y698 ?_|refine Y137 ?_)
      refine Y277 ?_
      refine Y138 ?_
      subst hMM
      refine Y278 ?_
      exact Y279
    · repeat(first|refine JL.q Y700 rfl ?_|refine JL.aM rfl rfl rfl rfl ?_|refine JL.ic rfl rfl rfl rfl ?_|refine Y135 ?_)
      refine Y277 ?_
      repeat(first|refine JL.q Y700 rfl ?_|refine JL.aM rfl rfl rfl rfl ?_|refine JR.region rfl Y698 ?_|refine Y136 ?_)
      refine Y277 ?_
      repeat(first|refine JR.region rfl Y698 ?_|refine Y137 ?_)
      refine JR.cond rfl (fun _=>?_) (fun h=>by cases h)
      repeat(first|refine JL.q (by exact Y453) rfl ?_|refine JR.region rfl Y698 ?_|refine Y139 ?_)
      subst hMM
      refine Y280 ?_
      refine Y281 ?_
      refine Y140 ?_
      refine JE.perm (M':=KR s bd be b2 b4 b5 b6 b7 b8 b9 b10 ⟨some (dw s.l (k+1)),q,[]⟩) (List.perm_middle (l₁:=NK s be b9 b10 ⟨some (dw s.l (k+1)),q,[]⟩)).symm ?_
      exact JE.vI ⟨some (dw s.l (k+1)),q,[]⟩ ⟨Ky hat hsc hm,fun _=>rfl,by simp,Nat.zero_le _⟩ (aj.refl _)
    · repeat(first|refine JL.q Y700 rfl ?_|refine JL.aM rfl rfl rfl rfl ?_|refine JL.ic rfl rfl rfl rfl ?_|refine Y135 ?_)
      refine Y277 ?_
      repeat(first|refine JL.q Y700 rfl ?_|refine JL.aM rfl rfl rfl rfl ?_|refine JR.region rfl Y698 ?_|refine Y136 ?_)
      refine Y277 ?_
      repeat(first|refine JR.region rfl Y698 ?_|refine Y137 ?_)
      refine Y277 ?_
      refine Y138 ?_
      subst hMM
      refine Y278 ?_
      exact Y279
  | some bg=>
    have hble:bg<=dw s.l k:=pM hsc
    by_cases hm0:aX bd (br (fM s.l (dw s.l k)))=0
    · obtain⟨hm,rfl,rfl⟩:aX bd (br (fM s.l (dw s.l k)))=0/\p=false/\e=false:=by
       rcases hmk with h|h|h
       · exact h
       · rw[h.1] at hm0;cases hm0
       · rw[h.1] at hm0;cases hm0
      repeat(first|refine JL.q (by exact Y454) rfl ?_|refine JL.bG rfl rfl ?_|refine Y141 ?_)
      refine Y277 ?_
      repeat(first|refine JL.q Y701 rfl ?_|refine JR.seq ?_|refine JL.nil ?_|with_reducible refine JE.gH ?_|refine JR.skip ?_|refine JL.bG rfl rfl ?_|refine JR.region rfl Y698 ?_)
      refine Y277 ?_
      repeat(first|refine JR.region rfl Y698 ?_|refine Y137 ?_)
      refine Y277 ?_
      refine Y138 ?_
      subst hMM
      refine JE.perm (M':=KR s bd be b2 b4 b5 b6 b7 b8 b9 b10 ⟨some bg,q,rs⟩) (List.perm_middle (l₁:=NK s be b9 b10 ⟨some bg,q,rs⟩)).symm ?_
      exact JE.vI ⟨some bg,q,rs⟩ ⟨Hu hat hsc hm,hq,h0,by show rs.length<=k+1;omega⟩ (aj.refl _)
    · have hmk:(aX bd (br (fM s.l (dw s.l k)))=1/\p=true/\e=false)\/(aX bd (br (fM s.l (dw s.l k)))=2/\p=false/\e=true):=by
       rcases hmk with h|h|h
       · exact absurd h.1 hm0
       · exact .inl h
       · exact .inr h
      have okx:∀ {M'} w',aa w1 S1 M' w'->(s.mid bg (dw s.l k)).ok w':=fun w' hw'=>(oks w' hw').mid hble Y609
      have hxl:(s.mid bg (dw s.l k)).l=(s.l.take (dw s.l k)).drop bg:=rfl
      have hxn:=F0 s bg (dw s.l k)
      have hmid:∀ {E:Env} {M':List aL} {x y z:Operand} {dst:Option Tmp} {ty:TypeId} {pos:String} {aft:Array Edge} {g:Option (Nat × Bool)},ev E x=some s.v->ev E y=some (N bg)->ev E z=some (N (dw s.l k))->OQ Tryz.prog 64 E (aa w1 S1 M') ⟨dst,.slice 22 x (some y) (some z) none,ty,pos,aft,g⟩ (s.mid bg (dw s.l k)).v:=fun h1 h2 h3=>OQ.R7 (s:=s) (lo:=bg) (hi:=dw s.l k) Tryz.underlying22 dD h1 h2 h3 hble Y609 hcap
      generalize s.mid bg (dw s.l k)=x at okx hxl hxn hmid
      have hun:(br x.l).length<=x.l.length:=by
       obtain⟨m,_,e⟩:=rP x.l
       rw[e,List.length_take]
       omega
      have oku:∀ {M'} w',aa w1 S1 M' w'->(x.hd (br x.l)).ok w':=fun w' hw'=>FM (okx w' hw')
      have c50:∀ {M'} w',aa w1 S1 M' w'->Calls Tryz.prog 192 [x.v].toArray w' fun e w2=>e=.returned (x.hd (br x.l)).v/\Ext w' w2:=fun w' hw'=>yj x w' (okx w' hw') Y609
      have hul:(x.hd (br x.l)).l=br x.l:=rfl
      generalize x.hd (br x.l)=u at oku c50 hul
      have hulen:u.l.length<=1073741824:=by rw[hul];omega
      have c51:∀ {M'} w',aa w1 S1 M' w'->Calls Tryz.prog 72 [u.v].toArray w' fun e w2=>∃ z:{ z:Acc // z=none->u.l=[] },e=.returned (aD z.1 u.l.length)/\aa w' [] (bw 5 z.1 (u.l.map U8)) w2:=fun w' hw'=>(n9 u w' (oku w' hw') Y609).mono fun e w2 ⟨z,h1,h2,h3⟩=>⟨⟨z,h2⟩,h1,h3⟩
      have hrsl:(rs.map ay.v).length<=1073741825:=by rw[List.length_map];omega
      have hq1:q=none->rs.map ay.v=[]:=fun h=>by rw[hq h];rfl
      subst hMM
      have inh:Inhabited { z:Acc // z=none->u.l=[] }:=⟨⟨some (0,0),nofun⟩⟩
      let vs:Nat->{ z:Acc // z=none->u.l=[] } × Acc × Nat->Value:=fun j y=>match j with
       | 0=>aD q (rs.map ay.v).length
       | 1=>s.v
       | 2=>N bg
       | 3=>N (dw s.l k)
       | 4=>x.v
       | 5=>u.v
       | 6=>aD y.1.1 u.l.length
       | 7=>.slice (some ⟨y.2.2,0,none⟩) 1 1
       | _=>aD y.2.1 (rs.map ay.v++[aD y.1.1 u.l.length]).length
      let Ms:Nat->{ z:Acc // z=none->u.l=[] } × Acc × Nat->List aL:=fun j y=>match j with
       | 6=>bw 5 y.1.1 (u.l.map U8)
       | 7=>[⟨y.2.2,Row 22 [aD y.1.1 u.l.length],true⟩]
       | 8=>bw 22 y.2.1 (rs.map ay.v++[aD y.1.1 u.l.length])
       | 9=>[⟨b8,Row 93 [aD y.2.1 (rs.map ay.v++[aD y.1.1 u.l.length]).length],true⟩]
       | 10=>[⟨b8,Row 93 [aD q (rs.map ay.v).length],true⟩]
       | 11=>[⟨be,Row 22 [s.v],false⟩,⟨b10,Row 3 [N bg],true⟩,⟨b9,Row 4 [.bool true],true⟩,⟨b7,Row 9 [Z (45::45::(bd++[45,45]))],true⟩,⟨b6,Row 9 [Z (45::45::bd)],true⟩,⟨b5,Row 30 [.int .i64 0],true⟩,⟨b4,Row 93 [.slice none 0 0],true⟩,⟨b2,Row 22 [s.v],true⟩]
       | 12=>bw 22 q (rs.map ay.v)
       | 13=>bh rs
       | _=>[]
      have h2:Has ([⟨be,Row 22 [s.v],false⟩,⟨b10,Row 3 [N bg],true⟩,⟨b9,Row 4 [.bool true],true⟩,⟨b7,Row 9 [Z (45::45::(bd++[45,45]))],true⟩,⟨b6,Row 9 [Z (45::45::bd)],true⟩,⟨b5,Row 30 [.int .i64 0],true⟩,⟨b4,Row 93 [.slice none 0 0],true⟩,⟨b2,Row 22 [s.v],true⟩]) b2 (Row 22 [s.v]) true:=Y697
      have h10:Has ([⟨be,Row 22 [s.v],false⟩,⟨b10,Row 3 [N bg],true⟩,⟨b9,Row 4 [.bool true],true⟩,⟨b7,Row 9 [Z (45::45::(bd++[45,45]))],true⟩,⟨b6,Row 9 [Z (45::45::bd)],true⟩,⟨b5,Row 30 [.int .i64 0],true⟩,⟨b4,Row 93 [.slice none 0 0],true⟩,⟨b2,Row 22 [s.v],true⟩]) b10 (Row 3 [N bg]) true:=Y697
      let Rl:Nat->{ z:Acc // z=none->u.l=[] } × Acc × Nat->{ z:Acc // z=none->u.l=[] } × Acc × Nat->Prop:=fun i a b=>match i with
       | 9=>a.1=b.1/\a.2.1=b.2.1
       | 8=>a.1=b.1/\a.2.1≠none
       | _=>a.1=b.1
      rcases hmk with⟨hm,rfl,rfl⟩|⟨hm,rfl,rfl⟩
      · repeat(first|refine JL.q Y701 rfl ?_|refine JL.nil ?_|with_reducible refine JE.gH ?_|refine JL.bG rfl rfl ?_|refine JL.aM rfl rfl rfl rfl ?_)
        refine JR.cond rfl (fun _=>?_) (fun h=>by cases h)
        refine JR.nt (g:=⟨[(11,N (dw s.l k)),(12,y.v),(2,Pt b2 0),(4,Pt b4 0),(5,Pt b5 0),(6,Pt b6 0),(7,Pt b7 0),(8,Pt b8 0),(9,Pt b9 0),(10,Pt b10 0),(14,.bool true),(15,.bool false)],14,vs,Ms,(fun j=>match j with|4=>[(1,46),(2,47),(3,48)]|5=>[(4,49)]|6=>[(5,50)]|7=>[(6,51)]|8=>[(0,45),(7,52)]|9=>[(8,53)]|_=>[]),(fun j=>match j with|0=>[10]|1=>[11]|2=>[11]|8=>[12,7]|9=>[10]|_=>[]),(fun j=>match j with|8=>[12,7]|9=>[10]|_=>[]),(fun j=>match j with|7=>some 6|8=>some 7|9=>some 8|_=>none),fun _=>[],Rl⟩) [] [9,11,8,13,6] rfl Y699 FY Y640 (fun _ _=>.nil) ?_ Y636 Y636 Y636 ?_ ?_
        · exact kH Y702
        · refine⟨?_,?_,?_,?_,?_,?_,?_,?_,?_,?_,trivial⟩
          · (intro z EF MF Q kk;exact JL.q (OQ.load Re rfl .here (Row.cell (v:=aD q (rs.map ay.v).length) rfl)) rfl (JL.nil (kk default nofun)))
          · (intro z EF MF Q kk;exact JL.q (OQ.load xg rfl (fj (fj h2)) (Row.cell (v:=s.v) rfl)) rfl (JL.nil (kk default nofun)))
          · (intro z EF MF Q kk;exact JL.q (OQ.load OW rfl (fj (fj h10)) (Row.cell (v:=N bg) rfl)) rfl (JL.nil (kk default nofun)))
          · (intro z EF MF Q kk;exact JL.q (OQ.move rfl) rfl (JL.nil (kk default nofun)))
          · (intro z EF MF Q kk;exact JL.q (hmid rfl rfl rfl) rfl (JL.nil (kk default nofun)))
          · (intro z EF MF Q kk;exact JL.q (OQ.ai (vs:=[x.v]) oY rfl c50) rfl (JL.nil (kk default nofun)))
          · (intro z EF MF Q kk;exact JL.bD (vs:=[u.v]) (ι:={ z:Acc // z=none->u.l=[] }) (fun z=>aD z.1 u.l.length) (fun z=>bw 5 z.1 (u.l.map U8)) j5 rfl rfl (fun z=>kz _ _ _) c51 fun z=>JL.nil (kk (z,default,0) nofun))
          · (intro z EF MF Q kk;exact JL.q9 (v:=aD (z 6).1.1 u.l.length) Tryz.underlying93 qz rfl rfl (fZ _ _) rfl fun bl _=>JL.nil (kk ((z 6).1,default,bl) (fun k h=>by cases h;rfl)))
          · intro z EF MF Q kk
            show JL _ _ _ _ _ _ _ _ ((bw 22 q (rs.map ay.v)++([⟨(z 7).2.2,Row 22 [aD (z 7).1.1 u.l.length],true⟩]++[]))++MF)
            rw[List.append_assoc]
            refine JL.je (xs:=rs.map ay.v) (cs:=[aD (z 7).1.1 u.l.length]) (m:=1) (ad:=some ⟨(z 7).2.2,0,none⟩) (sc:=1) q Tryz.underlying93 qz hq1 rfl rfl rfl (fun w' hw'=>?_) (fun v hv=>by rw[List.mem_singleton.1 hv];exact iI _ _) rfl Y609 Y609 rfl fun q' hq'=>?_
            · obtain⟨o,ho,hA⟩:=hw'.get (b:=(z 7).2.2) (A:=Row 22 [aD (z 7).1.1 u.l.length]) (wr:=true) (dA _ .here)
              exact Y242
            · exact Y282
          · (intro z EF MF Q kk;exact JL.aP (v:=aD (z 8).2.1 (rs.map ay.v++[aD (z 8).1.1 u.l.length]).length) (r':=[aD (z 8).2.1 (rs.map ay.v++[aD (z 8).1.1 u.l.length]).length]) Sb rfl rfl (iI _ _) (fZ _ _) .here Y614 rfl (JL.nil (kk ((z 8).1,(z 8).2.1,0) (fun k h=>by cases h;exact⟨rfl,rfl⟩))))
        intro z hz
        have z7:(z 7).1=(z 6).1:=hz 7 6 Y610 rfl
        have z8:(z 8).1=(z 7).1/\(z 8).2.1≠none:=hz 8 7 Y610 rfl
        have z9:(z 9).1=(z 8).1/\(z 9).2.1=(z 8).2.1:=hz 9 8 Y610 rfl
        obtain⟨c,hc⟩:∃ c,(z 6).1=c:=⟨_,rfl⟩
        have e8:(z 8).1=c:=z8.1.trans (z7.trans hc)
        have e9:(z 9).1=c:=z9.1.trans e8
        obtain⟨q',hq'⟩:∃ q',(z 8).2.1=q':=⟨_,rfl⟩
        have e9':(z 9).2.1=q':=z9.2.trans hq'
        have emap:(rs++[eO c.1 u.l]).map ay.v=rs.map ay.v++[aD c.1 u.l.length]:=by rw[List.map_append,List.map_cons,List.map_nil,iV]
        show JE _ _ _ _ _ [(11,N (dw s.l k)),(12,y.v),(2,Pt b2 0),(4,Pt b4 0),(5,Pt b5 0),(6,Pt b6 0),(7,Pt b7 0),(8,Pt b8 0),(9,Pt b9 0),(10,Pt b10 0),(14,.bool true),(15,.bool false)] _
        refine JE.less (M':=⟨b8,Row 93 [aD q' ((rs++[eO c.1 u.l]).map ay.v).length],true⟩::([⟨be,Row 22 [s.v],false⟩,⟨b10,Row 3 [N bg],true⟩,⟨b9,Row 4 [.bool true],true⟩,⟨b7,Row 9 [Z (45::45::(bd++[45,45]))],true⟩,⟨b6,Row 9 [Z (45::45::bd)],true⟩,⟨b5,Row 30 [.int .i64 0],true⟩,⟨b4,Row 93 [.slice none 0 0],true⟩,⟨b2,Row 22 [s.v],true⟩]++(bw 22 q' ((rs++[eO c.1 u.l]).map ay.v)++bh (rs++[eO c.1 u.l])))) ?_ ?_
        · show aj _ ([⟨b8,Row 93 [aD (z 9).2.1 (rs.map ay.v++[aD (z 9).1.1 u.l.length]).length],true⟩]++([⟨be,Row 22 [s.v],false⟩,⟨b10,Row 3 [N bg],true⟩,⟨b9,Row 4 [.bool true],true⟩,⟨b7,Row 9 [Z (45::45::(bd++[45,45]))],true⟩,⟨b6,Row 9 [Z (45::45::bd)],true⟩,⟨b5,Row 30 [.int .i64 0],true⟩,⟨b4,Row 93 [.slice none 0 0],true⟩,⟨b2,Row 22 [s.v],true⟩]++(bw 22 (z 8).2.1 (rs.map ay.v++[aD (z 8).1.1 u.l.length])++(bh rs++(bw 5 (z 6).1.1 (u.l.map U8)++[])))))
          rw[e9,e9',e8,hq',hc,emap,List.append_nil]
          exact .keep _ _ _ _ _ _ (fun _ h=>h) (bI (bI (yp rs c.1 u.l) _) _)
        have hq2:q'=none->rs++[eO c.1 u.l]=[]:=fun h=>absurd (hq'.trans h) z8.2
        have h02:∀ y∈rs++[eO c.1 u.l],y.ad=none->y.l=[]:=fun y hy=>by
         rcases List.mem_append.1 hy with h|h
         · exact h0 y h
         · rw[List.mem_singleton.1 h];exact jN
        have hmap:(rs++[eO c.1 u.l]).map ay.l=rs.map ay.l++[br ((s.l.take (dw s.l k)).drop bg)]:=by
         rw[List.map_append,List.map_cons,List.map_nil,mb c.2,hul,hxl]
        have hlen2:(rs++[eO c.1 u.l]).length=rs.length+1:=List.length_append
        generalize rs++[eO c.1 u.l]=rs2 at hq2 h02 hmap hlen2⊢
        clear z7 z8 z9 e8 e9 hc hq' e9' emap hz z vs Ms Rl
        refine JE.gH ?_
        repeat(first|refine JL.q (by exact Y455) rfl ?_|refine JL.bG rfl rfl ?_|refine JR.region rfl Y698 ?_|refine Y142 ?_)
        refine Y277 ?_
        repeat(first|refine JR.region rfl Y698 ?_|refine Y137 ?_)
        refine JR.cond rfl (fun _=>?_) (fun h=>by cases h)
        repeat(first|refine JL.q (by exact Y453) rfl ?_|refine JR.region rfl Y698 ?_|refine Y139 ?_)
        refine Y280 ?_
        refine Y281 ?_
        refine JL.nil ?_
        refine JE.ah ?_
        refine JE.perm (M':=KR s bd be b2 b4 b5 b6 b7 b8 b9 b10 ⟨some (dw s.l (k+1)),q',rs2⟩) (List.perm_middle (l₁:=NK s be b9 b10 ⟨some (dw s.l (k+1)),q',rs2⟩)).symm ?_
        refine JE.vI ⟨some (dw s.l (k+1)),q',rs2⟩ ⟨?_,hq2,h02,by show rs2.length<=k+1;omega⟩ (aj.refl _)
        show j4 bd s.l (dw s.l (k+1)) (some (dw s.l (k+1))) (rs2.map ay.l)
        rw[hmap]
        exact Hv hat hsc hm
      · repeat(first|refine JL.q (by exact Y454) rfl ?_|refine JL.bG rfl rfl ?_|refine Y141 ?_)
        refine JR.cond rfl (fun _=>?_) (fun h=>by cases h)
        refine JR.nt (g:=⟨[(11,N (dw s.l k)),(12,y.v),(2,Pt b2 0),(4,Pt b4 0),(5,Pt b5 0),(6,Pt b6 0),(7,Pt b7 0),(8,Pt b8 0),(9,Pt b9 0),(10,Pt b10 0),(14,.bool false),(15,.bool true)],14,vs,Ms,(fun j=>match j with|4=>[(1,46),(2,47),(3,48)]|5=>[(4,49)]|6=>[(5,50)]|7=>[(6,51)]|8=>[(0,45),(7,52)]|9=>[(8,53)]|_=>[]),(fun j=>match j with|0=>[10]|1=>[11]|2=>[11]|8=>[12,7]|9=>[10]|_=>[]),(fun j=>match j with|8=>[12,7]|9=>[10]|_=>[]),(fun j=>match j with|7=>some 6|8=>some 7|9=>some 8|_=>none),fun _=>[],Rl⟩) [] [9,11,8,13,6] rfl Y699 FY Y640 (fun _ _=>.nil) ?_ Y636 Y636 Y636 ?_ ?_
        · exact kH Y702
        · refine⟨?_,?_,?_,?_,?_,?_,?_,?_,?_,?_,trivial⟩
          · (intro z EF MF Q kk;exact JL.q (OQ.load Re rfl .here (Row.cell (v:=aD q (rs.map ay.v).length) rfl)) rfl (JL.nil (kk default nofun)))
          · (intro z EF MF Q kk;exact JL.q (OQ.load xg rfl (fj (fj h2)) (Row.cell (v:=s.v) rfl)) rfl (JL.nil (kk default nofun)))
          · (intro z EF MF Q kk;exact JL.q (OQ.load OW rfl (fj (fj h10)) (Row.cell (v:=N bg) rfl)) rfl (JL.nil (kk default nofun)))
          · (intro z EF MF Q kk;exact JL.q (OQ.move rfl) rfl (JL.nil (kk default nofun)))
          · (intro z EF MF Q kk;exact JL.q (hmid rfl rfl rfl) rfl (JL.nil (kk default nofun)))
          · (intro z EF MF Q kk;exact JL.q (OQ.ai (vs:=[x.v]) oY rfl c50) rfl (JL.nil (kk default nofun)))
          · (intro z EF MF Q kk;exact JL.bD (vs:=[u.v]) (ι:={ z:Acc // z=none->u.l=[] }) (fun z=>aD z.1 u.l.length) (fun z=>bw 5 z.1 (u.l.map U8)) j5 rfl rfl (fun z=>kz _ _ _) c51 fun z=>JL.nil (kk (z,default,0) nofun))
          · (intro z EF MF Q kk;exact JL.q9 (v:=aD (z 6).1.1 u.l.length) Tryz.underlying93 qz rfl rfl (fZ _ _) rfl fun bl _=>JL.nil (kk ((z 6).1,default,bl) (fun k h=>by cases h;rfl)))
          · intro z EF MF Q kk
            show JL _ _ _ _ _ _ _ _ ((bw 22 q (rs.map ay.v)++([⟨(z 7).2.2,Row 22 [aD (z 7).1.1 u.l.length],true⟩]++[]))++MF)
            rw[List.append_assoc]
            refine JL.je (xs:=rs.map ay.v) (cs:=[aD (z 7).1.1 u.l.length]) (m:=1) (ad:=some ⟨(z 7).2.2,0,none⟩) (sc:=1) q Tryz.underlying93 qz hq1 rfl rfl rfl (fun w' hw'=>?_) (fun v hv=>by rw[List.mem_singleton.1 hv];exact iI _ _) rfl Y609 Y609 rfl fun q' hq'=>?_
            · obtain⟨o,ho,hA⟩:=hw'.get (b:=(z 7).2.2) (A:=Row 22 [aD (z 7).1.1 u.l.length]) (wr:=true) (dA _ .here)
              exact Y242
            · exact Y282
          · (intro z EF MF Q kk;exact JL.aP (v:=aD (z 8).2.1 (rs.map ay.v++[aD (z 8).1.1 u.l.length]).length) (r':=[aD (z 8).2.1 (rs.map ay.v++[aD (z 8).1.1 u.l.length]).length]) Sb rfl rfl (iI _ _) (fZ _ _) .here Y614 rfl (JL.nil (kk ((z 8).1,(z 8).2.1,0) (fun k h=>by cases h;exact⟨rfl,rfl⟩))))
        intro z hz
        have z7:(z 7).1=(z 6).1:=hz 7 6 Y610 rfl
        have z8:(z 8).1=(z 7).1/\(z 8).2.1≠none:=hz 8 7 Y610 rfl
        have z9:(z 9).1=(z 8).1/\(z 9).2.1=(z 8).2.1:=hz 9 8 Y610 rfl
        obtain⟨c,hc⟩:∃ c,(z 6).1=c:=⟨_,rfl⟩
        have e8:(z 8).1=c:=z8.1.trans (z7.trans hc)
        have e9:(z 9).1=c:=z9.1.trans e8
        obtain⟨q',hq'⟩:∃ q',(z 8).2.1=q':=⟨_,rfl⟩
        have e9':(z 9).2.1=q':=z9.2.trans hq'
        have emap:(rs++[eO c.1 u.l]).map ay.v=rs.map ay.v++[aD c.1 u.l.length]:=by rw[List.map_append,List.map_cons,List.map_nil,iV]
        show JE _ _ _ _ _ [(11,N (dw s.l k)),(12,y.v),(2,Pt b2 0),(4,Pt b4 0),(5,Pt b5 0),(6,Pt b6 0),(7,Pt b7 0),(8,Pt b8 0),(9,Pt b9 0),(10,Pt b10 0),(14,.bool false),(15,.bool true)] _
        refine JE.less (M':=⟨b8,Row 93 [aD q' ((rs++[eO c.1 u.l]).map ay.v).length],true⟩::([⟨be,Row 22 [s.v],false⟩,⟨b10,Row 3 [N bg],true⟩,⟨b9,Row 4 [.bool true],true⟩,⟨b7,Row 9 [Z (45::45::(bd++[45,45]))],true⟩,⟨b6,Row 9 [Z (45::45::bd)],true⟩,⟨b5,Row 30 [.int .i64 0],true⟩,⟨b4,Row 93 [.slice none 0 0],true⟩,⟨b2,Row 22 [s.v],true⟩]++(bw 22 q' ((rs++[eO c.1 u.l]).map ay.v)++bh (rs++[eO c.1 u.l])))) ?_ ?_
        · show aj _ ([⟨b8,Row 93 [aD (z 9).2.1 (rs.map ay.v++[aD (z 9).1.1 u.l.length]).length],true⟩]++([⟨be,Row 22 [s.v],false⟩,⟨b10,Row 3 [N bg],true⟩,⟨b9,Row 4 [.bool true],true⟩,⟨b7,Row 9 [Z (45::45::(bd++[45,45]))],true⟩,⟨b6,Row 9 [Z (45::45::bd)],true⟩,⟨b5,Row 30 [.int .i64 0],true⟩,⟨b4,Row 93 [.slice none 0 0],true⟩,⟨b2,Row 22 [s.v],true⟩]++(bw 22 (z 8).2.1 (rs.map ay.v++[aD (z 8).1.1 u.l.length])++(bh rs++(bw 5 (z 6).1.1 (u.l.map U8)++[])))))
          rw[e9,e9',e8,hq',hc,emap,List.append_nil]
          exact .keep _ _ _ _ _ _ (fun _ h=>h) (bI (bI (yp rs c.1 u.l) _) _)
        have hq2:q'=none->rs++[eO c.1 u.l]=[]:=fun h=>absurd (hq'.trans h) z8.2
        have h02:∀ y∈rs++[eO c.1 u.l],y.ad=none->y.l=[]:=fun y hy=>by
         rcases List.mem_append.1 hy with h|h
         · exact h0 y h
         · rw[List.mem_singleton.1 h];exact jN
        have hmap:(rs++[eO c.1 u.l]).map ay.l=rs.map ay.l++[br ((s.l.take (dw s.l k)).drop bg)]:=by
         rw[List.map_append,List.map_cons,List.map_nil,mb c.2,hul,hxl]
        have hlen2:(rs++[eO c.1 u.l]).length=rs.length+1:=List.length_append
        generalize rs++[eO c.1 u.l]=rs2 at hq2 h02 hmap hlen2⊢
        clear z7 z8 z9 e8 e9 hc hq' e9' emap hz z vs Ms Rl
        refine JE.gH ?_
        repeat(first|refine JL.q (by exact Y455) rfl ?_|refine JL.bG rfl rfl ?_|refine JR.region rfl Y698 ?_|refine Y142 ?_)
        refine JR.cond rfl (fun _=>?_) (fun h=>by cases h)
        refine JR.seq (JR.region rfl Y699 ?_)
        refine JL.q (OQ.load Re rfl .here (Row.cell (v:=aD q' (rs2.map ay.v).length) rfl)) rfl ?_
        refine JL.aP (v:=aD q' (rs2.map ay.v).length) (r':=[aD q' (rs2.map ay.v).length]) Sb rfl rfl (iI _ _) (fZ _ _) Y703 Y614 rfl ?_
        refine JL.aP (v:=.int .i64 0) (r':=[.int .i64 0]) Ts rfl rfl rfl rfl Y703 Y610 rfl ?_
        refine JL.nil (JE.gH (JR.ret ?_))
        refine JE.ag (JE.aQ ?_)
        refine JE.rR ⟨none,q',rs2⟩ ⟨?_,hq2,h02⟩ (.drop _ _ _ (.drop _ _ _ (.drop _ _ _ (.drop _ _ _ (.drop _ _ _ (.drop _ _ _ (.keep _ _ _ _ _ _ (fun _ h=>h) (.keep _ _ _ _ _ _ (fun _ h=>h) (.drop _ _ _ (aj.refl _))))))))))
        show qt bd s.l=some (rs2.map ay.l)
        rw[hmap]
        exact Hw hat hsc hm
 case hdone=>
  rintro D z ⟨hsc,hq,h0,_⟩
  have hg:qt bd s.l=none:=by
   rw[NF] at hsc
   exact jP hsc
  rw[hg]
  unfold KR NK SR
  refine KE.ah (KE.next (KC.seq (KC.region ?_)))
  refine KL.aP (v:=.slice none 0 0) (r':=[.slice none 0 0]) Sb rfl rfl rfl rfl Y703 Y610 rfl ?_
  refine KL.aP (v:=.int .i64 3) (r':=[.int .i64 3]) Ts rfl rfl rfl rfl Y703 Y610 rfl ?_
  refine KL.nil (KE.next (KC.ret ?_))
  refine KE.OP rfl (RV.cell rfl Re (b:=b4) Y697 (Row.cell (v:=.slice none 0 0) rfl)) (RV.cell rfl Tt (b:=b5) Y697 (Row.cell (v:=.int .i64 3) rfl)) fun w' hw=>?_
  exact Y276
 case hstop=>
  rintro D z ⟨hg,hq,h0⟩
  rw[hg]
  unfold Tu
  refine KE.aQ (KE.ag ?_)
  refine KE.OP rfl (RV.cell rfl Re (b:=b4) Y697 (Row.cell rfl)) (RV.cell rfl Tt (b:=b5) Y697 (Row.cell rfl)) fun w' hw=>?_
  exact⟨⟨z.q,z.rs,rfl,hq,h0⟩,rfl,hw.weak (.drop _ _ _ (.drop _ _ _ (aj.refl _)))⟩
end
section
namespace gZ
open aq Tok
theorem Qh{b l r:List By}(h:cut b=some (l,r)):r.length<=b.length:=by
 unfold cut at h
 split at h
 · cases h
   rw[List.length_drop]
   omega
 · cases h
theorem Qi:∀ (n k:Nat) (b:List By) (fs:List fP) (R:List By),b.length<=n->k<=200->rd k b=.ok (fs,R)->R.length<=b.length/\fs.length+k<=200/\∀ p∈fs,p.1.length<=64/\p.2.length<=8192:=by
 intro n
 induction n with
 | zero=>
   intro k b fs R hb hk h
   obtain rfl:b=[]:=List.eq_nil_of_length_eq_zero Y609
   rw[zi (by rfl)] at h
   cases h
 | succ n ih=>
   intro k b fs R hb hk h
   unfold rd at h
   split at h
   · cases h
   · next l r hc=>
     have hr:=Qh hc
     split at h
     · cases h
       exact⟨hr,by simpa using hk,by simp⟩
     · split at h
       · cases h
       · next hnm=>
         split at h
         · cases h
         · next hk2=>
           split at h
           · cases h
           · next vs r' hcn=>
             split at h
             · cases h
             · next hv=>
               split at h
               · cases h
               · split at h
                 · next hlt=>
                   cases hq:rd (k+1) r' with
                   | error e=>rw[hq] at h;cases h
                   | ok q=>
                     rw[hq] at h
                     obtain⟨qf,qr⟩:=q
                     cases h
                     obtain⟨i1,i2,i3⟩:=ih (k+1) r' qf _ Y609 Y609 hq
                     refine⟨by show qr.length<=b.length;omega,by simp only[List.length_cons];omega,fun p hp=>?_⟩
                     rcases List.mem_cons.1 hp with rfl|hp
                     · refine⟨?_,by show(trim _).length<=8192;omega⟩
                       have hn:c8 (l.takeWhile (· != 58))=true:=Decidable.byContradiction fun hh=>hnm (.inr hh)
                       unfold c8 at hn
                       rw[Bool.and_eq_true,Bool.and_eq_true] at hn
                       exact of_decide_eq_true hn.2
                     · exact i3 p hp
                 · cases h
theorem yu{m:List By}{fs:List fP}{R:List By}(h:ir m=.ok (fs,R)):R.length<=m.length/\fs.length<=200/\∀ p∈fs,p.1.length<=64/\p.2.length<=8192:=by
 unfold ir jQ at h
 split at h
 · cases h
 · split at h
   · cases h
   · obtain⟨h1,h2,h3⟩:=Qi _ 0 m fs R (Nat.le_refl _) Y610 h
     exact⟨h1,by omega,h3⟩
theorem NL{b bd:List By}:∀ y∈(de b bd).1,y.length<=b.length:=by
 intro y hy
 unfold de at hy
 split at hy
 · cases hy
 · have h0:=lM b []
   have h1:=qx (fun x=>aX bd x.1 != 1) (di b)
   split at hy
   · cases hy
   · next out ho=>
     obtain⟨_,h2⟩:=vJ bd _ _ [] out (Nat.le_refl _) ho
     rcases h2 y hy with h|h
     · cases h
     · have:ow (di b)<=b.length+0:=h0.1
       omega
section
variable (Qd:List By->Except Nat (List By))
def dS(sub:Option (List By->Except Nat Part))(b bd:List By):Except Nat (List Part):=
 if cG bd=false then .error 3
 else match sub with
  | none=>.error 5
  | some g=>if (de b bd).2≠0 then .error (de b bd).2 else fc g (de b bd).1
def vS(r:Except Nat (List Part))(k:List By)(ps:List fP):Except Nat Part:=match r with
 | .error e=>.error e
 | .ok l=>.ok (.mk k ps 0 [] l)
def sV(r:Option Int)(b:List By)(k:List By)(ps:List fP):Except Nat Part:=match r with
 | none=>.error 3
 | some c=>match jY Qd c b with
   | .error e=>.error e
   | .ok x=>.ok (.mk k ps c x [])
theorem qA(sub:Option (List By->Except Nat Part))(f:List fP)(b:List By):mD Qd sub f b =
  if (e7 f).2.2≠0 then .error (e7 f).2.2
  else if fo (e7 f).1 then vS (dS sub b (cJ (e7 f).2.1 fF)) (e7 f).1 (e7 f).2.1
  else sV Qd (kL (xD f)) b (e7 f).1 (e7 f).2.1:=by
 unfold mD dS vS sV
 by_cases h1:(e7 f).2.2≠0
 · rw[if_pos h1,if_pos h1]
 · rw[if_neg h1,if_neg h1]
   by_cases h2:fo (e7 f).1=true
   · rw[if_pos h2,if_pos h2]
     by_cases h3:cG (cJ (e7 f).2.1 fF)=false
     · rw[if_pos h3,if_pos h3]
     · rw[if_neg h3,if_neg h3]
       cases sub with
       | none=>rfl
       | some g=>
         dsimp only
         by_cases h4:(de b (cJ (e7 f).2.1 fF)).2≠0
         · rw[if_pos h4,if_pos h4]
         · rw[if_neg h4,if_neg h4] <;> (cases fc g (de b (cJ (e7 f).2.1 fF)).1 <;> rfl)
   · rw[if_neg h2,if_neg h2]
     all_goals cases kL (xD f) with
     | none=>rfl
     | some c=>dsimp only;cases jY Qd c b <;> rfl
end
theorem yw{α β:Type}{f:α->Except Nat β}{l:List α}{xs:List β}{a:α}{y:β}(h:fc f l=.ok xs)(ha:f a=.ok y):fc f (l++[a])=.ok (xs++[y]):=by
 induction l generalizing xs with
 | nil=>
   cases h
   show fc f [a]=_
   unfold fc
   rw[ha]
   rfl
 | cons b l ih=>
   rw[List.cons_append]
   unfold fc at h⊢
   cases e1:f b with
   | error e=>rw[e1] at h;cases h
   | ok z=>
     rw[e1] at h
     cases e2:fc f l with
     | error e=>rw[e2] at h;cases h
     | ok zs=>
       rw[e2] at h
       cases h
       rw[ih e2]
       rfl
theorem vU{α β:Type}{f:α->Except Nat β}{l r:List α}{xs:List β}{a:α}{e:Nat}(h:fc f l=.ok xs)(ha:f a=.error e):fc f (l++a::r)=.error e:=by
 induction l generalizing xs with
 | nil=>
   show fc f (a::r)=_
   unfold fc
   rw[ha]
 | cons b l ih=>
   rw[List.cons_append]
   unfold fc at h⊢
   cases e1:f b with
   | error e'=>rw[e1] at h;cases h
   | ok z=>
     rw[e1] at h
     cases e2:fc f l with
     | error e'=>rw[e2] at h;cases h
     | ok zs=>
       rw[ih e2]
theorem NM(f:List fP):dP cF f=dP xC f:=by
 have e:cF.map small=xC.map small:=by decide
 unfold dP bY
 rw[e]
theorem NN(f:List fP):dP fu f=dP wT f:=by
 have e:fu.map small=wT.map small:=by decide
 unfold dP bY
 rw[e]
theorem KS(f:List fP):xD f=(trim ((dP wT f).headD [])).map small:=by
 unfold xD
 cases dP wT f with
 | nil=>rfl
 | cons v l=>rfl
theorem B4{f:List fP}{n:List By}{m:Nat}(h:∀ p∈f,bY p.1 n=true->p.2.length<=m):((dP n f).headD []).length<=m:=by
 cases e:dP n f with
 | nil=>exact Nat.zero_le _
 | cons v l=>
   have hv:v∈dP n f:=by rw[e];exact List.mem_cons_self
   unfold dP at hv
   obtain⟨p,hp,rfl⟩:=List.mem_map.1 hv
   obtain⟨h1,h2⟩:=List.mem_filter.1 hp
   exact h p h1 h2
theorem Sc:∀ (n k:Nat) (b:List By) (e:Nat),b.length<=n->rd k b=.error e->e≠0:=by
 intro n
 induction n with
 | zero=>
   intro k b e hb h
   obtain rfl:b=[]:=List.eq_nil_of_length_eq_zero Y609
   rw[zi (by rfl)] at h
   cases h
   decide
 | succ n ih=>
   intro k b e hb h
   unfold rd at h
   split at h
   · cases h;decide
   · next l r hc=>
     split at h
     · cases h
     · split at h
       · cases h;decide
       · split at h
         · cases h;decide
         · split at h
           · cases h;decide
           · next vs r' hcn=>
             split at h
             · cases h;decide
             · split at h
               · cases h;decide
               · split at h
                 · next hlt=>
                   cases hq:rd (k+1) r' with
                   | error e'=>
                     rw[hq] at h
                     cases h
                     exact ih _ _ _ Y609 hq
                   | ok q=>rw[hq] at h;cases h
                 · cases h;decide
theorem vV{m:List By}{e:Nat}(h:ir m=.error e):e≠0:=by
 unfold ir jQ at h
 split at h
 · cases h;decide
 · split at h
   · cases h;decide
   · exact Sc _ 0 m e (Nat.le_refl _) h
theorem Ae{α β:Type}{f:α->Except Nat β}(hf:∀ a e,f a=.error e->e≠0):∀ (l:List α) (e:Nat),fc f l=.error e->e≠0
 | [],e,h=>by cases h
 | a::l,e,h=>by
   unfold fc at h
   cases e1:f a with
   | error e'=>rw[e1] at h;cases h;exact hf _ _ e1
   | ok y=>
     rw[e1] at h
     cases e2:fc f l with
     | error e'=>rw[e2] at h;cases h;exact Ae hf l _ e2
     | ok ys=>rw[e2] at h;cases h
theorem B5{Qd:List By->Except Nat (List By)}(hQ:∀ b e,Qd b=.error e->e≠0){sub:Option (List By->Except Nat Part)}(hs:∀ g,sub=some g->∀ m e,g m=.error e->e≠0){f:List fP}{b:List By}{e:Nat}(h:mD Qd sub f b=.error e):e≠0:=by
 rw[qA] at h
 split at h
 · next hk=>cases h;exact hk
 · split at h
   · cases hp:dS sub b (cJ (e7 f).2.1 fF) with
     | error e'=>
       rw[hp] at h
       unfold vS at h
       cases h
       unfold dS at hp
       split at hp
       · cases hp;decide
       · cases sub with
         | none=>cases hp;decide
         | some g=>
           dsimp only at hp
           split at hp
           · next hk=>cases hp;exact hk
           · exact Ae (hs g rfl) _ _ hp
     | ok l=>rw[hp] at h;unfold vS at h;cases h
   · unfold sV at h
     cases hc:kL (xD f) with
     | none=>rw[hc] at h;cases h;decide
     | some c=>
       rw[hc] at h
       dsimp only at h
       cases hb:jY Qd c b with
       | error e'=>
         rw[hb] at h
         cases h
         unfold jY wX at hb
         split at hb
         · split at hb <;> cases hb
           decide
         · split at hb
           · exact hQ _ _ hb
           · cases hb
       | ok y=>rw[hb] at h;cases h
theorem ny{Qd:List By->Except Nat (List By)}(hQ:∀ b e,Qd b=.error e->e≠0):∀ (k:Nat) (f:List fP) (b:List By) (e:Nat),dK Qd k f b=.error e->e≠0
 | 0,f,b,e,h=>B5 hQ (fun g hg=>by cases hg) h
 | k+1,f,b,e,h=>B5 hQ (fun g hg m e he=>by
    cases hg
    unfold tf at he
    cases hr:ir m with
    | error e'=>rw[hr] at he;cases he;exact vV hr
    | ok x=>rw[hr] at he;exact ny hQ k _ _ _ he) h
end gZ
end
section
open Sl aq
structure R9 where
 i:Nat
 fs:List Pr
 b:Nat
 cap:Nat
structure V9 where
 t:Nat
 m:Nat
 v:List Bt
 b:Nat
 cap:Nat
theorem fN:EI Tryz.prog 65 (.agg (pc ([],[])).toArray) 2 32:=by unfold EI;kernel_rfl
theorem KT:gD Tryz.prog 27=true:=by kernel_rfl
theorem og{l:List Pr}{i:Nat}(h:i<l.length):l.drop i=l.getD i ([],[])::l.drop (i+1):=by
 rw[List.drop_eq_getElem_cons h,List.getD_eq_getElem?_getD,List.getElem?_eq_getElem h];rfl
structure AT where
 i:Nat
 o:List (List Bt)
 b:Nat
 cap:Nat
theorem u5(p:Pr):∀ v∈pc p,v.oneCell'=true:=by
 intro v hv
 simp only[pc,List.mem_cons,List.not_mem_nil,or_false] at hv
 rcases hv with rfl|rfl <;> rfl
structure DT where
 i:Nat
 o:List Pr
 b:Nat
 cap:Nat
theorem OQ.gU{n:Nat}{E:Env}{C:World->Prop}{dst:Option Tmp}{ty:TypeId}{pos:String}{aft:Array Edge}{g:Option (Nat × Bool)}{x y:Operand}{a b:List Bt}(hx:ev E x=some (Z a))(hy:ev E y=some (Z b)):OQ Tryz.prog n E C ⟨dst,.build 65 #[(0,x),(1,y)],ty,pos,aft,g⟩ (.agg (pc (a,b)).toArray):=by
 refine OQ.run fun k hk w _=>?_
 have h1:=hk.eval hx
 have h2:=hk.eval hy
 have h3:=run_build (P:=Tryz.prog) w 65 #[(0,Z a),(1,Z b)] #[Z a,Z b] Y636
 simp[execOp,h1,h2,Sem.run_bind,h3,pc]
structure ST where
 i:Nat
 o:List Pr
 d:Bool
 b:Nat
 cap:Nat
end
section
open Sl aq gZ
theorem sW:aJ Tryz.prog 51:=⟨_,Tryz.func51,rfl,by kernel_rfl⟩
theorem KU:gX Tryz.prog 63=some 2:=by kernel_rfl
theorem vW(k:List Bt)(w:World)(hl:k.length<9223372036854775808):Calls Tryz.prog 51 [Z k].toArray w fun e w'=>e=.returned (.bool (fo k))/\Ext w w':=by
 refine enter (n:=11) Tryz.func51 rfl rfl rfl (aa.start w []) ?_
 have e:fo k=(decide ((10:Int)<=(k.length:Int))&&decide (k.take 10=lU)):=by
  unfold fo
  by_cases h:10<=k.length
  · rw[decide_eq_true (show(10:Int)<=(k.length:Int) by omega),Bool.true_and]
  · rw[decide_eq_false (show ¬ (10:Int)<=(k.length:Int) by omega),Bool.false_and]
    refine decide_eq_false fun e=>?_
    have:=congrArg List.length e
    rw[List.length_take] at this
    simp only[lU,List.length_cons,List.length_nil] at this
    omega
 rw[e]
 cases h1:decide ((10:Int)<=(k.length:Int))
 · repeat(first|refine JL.q (by(apply OQ.dn (b:=10);rfl;rfl;exact h1)) rfl ?_|refine JL.aM rfl rfl rfl rfl ?_|refine Y40 ?_)
   exact Y244
 · have hk:10<=k.length:=by have:=of_decide_eq_true h1;omega
   cases h2:decide (k.take 10=lU)
   all_goals (repeat(first|refine JL.q (by first|(apply OQ.dn (b:=10);rfl;rfl;exact h1)|(apply OQ.gu (j:=10);exact Tryz.underlying9;rfl;rfl;exact hk)|(apply OQ.fR (r:=lU);rfl;rfl;exact h2)) rfl ?_|refine JL.bG rfl rfl ?_|refine Y41 ?_))
   all_goals exact JC.ret (JE.aK rfl (RV.tmp rfl) fun w' hw=>⟨rfl,hw.aH⟩)
theorem yx(p:Pr)(l:List Pr)(n:List Bt):cJ (p::l) n=if p.1=n then p.2 else cJ l n:=by
 unfold cJ
 rw[List.find?_cons]
 by_cases h:p.1=n
 · rw[decide_eq_true h,if_pos h];rfl
 · rw[decide_eq_false h,if_neg h]
theorem Af(f:gm)(n:List Bt)(w:World)(hf:f.ok w)(hl:f.l.length<9223372036854775807):Calls Tryz.prog 44 [f.v,Z n].toArray w fun e w'=>e=.returned (Z (cJ f.l n))/\Ext w w':=by
 refine enter (n:=24) Tryz.func44 rfl rfl rfl (aa.start w []) ?_
 refine Y7 ?_
 refine JC.loop (fun i:Nat=>[(0,f.v),(1,Z n),(5,N i)]) (fun _=>[]) (fun i=>f.l.length-i) (fun i=>i<=f.l.length/\cJ f.l n=cJ (f.l.drop i) n) 0 ⟨Nat.zero_le _,rfl⟩ Y640 (aj.refl _) ?_
 rintro i ⟨hi,hp⟩
 refine Y74 ?_
 refine JC.cond rfl (fun h=>?_) (fun h=>?_)
 · have hi':i<f.l.length:=of_decide_eq_true h
   clear h hi
   obtain⟨ba,ja,eA,la,ca1,ca2⟩:=hf.at hi'
   have vA:f.v=.slice (some ⟨ba,ja,none⟩) f.l.length f.cap:=by rw[<- eA];rfl
   rw[og hi',yx] at hp
   generalize f.l.getD i ([],[])=p at hp ca1 ca2
   obtain⟨a,v⟩:=p
   dsimp only at hp ca1 ca2
   rw[vA]
   cases h1:decide (a=n)
   · rw[if_neg (of_decide_eq_false h1)] at hp
     repeat(first|refine JL.q Y704 rfl ?_|refine Y143 ?_)
     refine Y252 ?_
     rw[<- vA]
     refine Y10 ?_
     exact JE.again (i:=i) (i+1) ⟨hi',hp⟩ Y609 Y640 (aj.refl _)
   · rw[if_pos (of_decide_eq_true h1)] at hp
     rw[hp]
     repeat(first|refine JL.q Y704 rfl ?_|refine Y143 ?_)
     refine Y271 ?_
     repeat(first|refine JL.q (by first|exact Y456|exact Y376) rfl ?_|refine Y144 ?_)
     refine Y247 ?_
     refine Y2 ?_
     exact Y248
 · have hi':¬ i<f.l.length:=of_decide_eq_false h
   clear h
   rw[List.drop_eq_nil_of_le Y609] at hp
   rw[hp]
   refine Y11 ?_
   refine Y247 ?_
   exact Y248
end
section
open Sl gZ
namespace Sl
section
variable {P:Program} {n:Nat} {w0:World} {S:List Nat} {ops:Array Oper} {Q:Exit->Act->World->Prop} {l:List Oper} {E:Env} {M M' M0:List aL} {d:Nat} {t e ty:TypeId} {pos:String} {aft:Array Edge} {x y:Operand}
def mJ(e:TypeId)(sz:Nat)(q:Acc)(L:List (List Value)):List aL:=match q with
 | none=>[]
 | some p=>[⟨p.1,Sl.Own e sz L.length p.2 L.flatten,true⟩]
theorem F1(e:TypeId)(sz:Nat)(q:Acc)(L:List (List Value)):∀ x∈mJ e sz q L,x.wr=true:=by
 cases q with
 | none=>nofun
 | some p=>intro x hx;rw[List.mem_singleton.1 hx]
theorem JL.F2{z:Value}{by' bl sz:Nat}{c:List Value}{L:List (List Value)}(q:Acc)(hu:P.underlying t=some (.slice e))(hi:EI P e z sz by')(hq:q=none->L=[])(hx:ev E x=some (aD q L.length))(hy:ev E y=some (.slice (some ⟨bl,0,none⟩) 1 1))
  (hcl:c.length=sz) (h1:∀ v∈c,v.oneCell'=true) (hzz:z.cells.size=sz) (h0:0<sz) (hsm:(L.length+1)*by'<=140737488355328) (hsm2:L.length+1<9223372036854775808) (hd:Nat.blt d n=true)
  (kk:∀ b' cap',JL P n w0 S ops Q l ((d,aD (some (b',cap')) (L++[c]).length)::E) (mJ e sz (some (b',cap')) (L++[c])++M0)) :
  JL P n w0 S ops Q (⟨some d,.call ⟨.builtin .append,#[x,y],#[t,t]⟩,ty,pos,aft,none⟩::l) E (⟨bl,Row e c,true⟩::(mJ e sz q L++M0)):=by
 have hr:∀ w,aa w0 S (⟨bl,Row e c,true⟩::(mJ e sz q L++M0)) w->Reads w (some ⟨bl,0,none⟩) c:=fun w hw=>by
  obtain⟨o,ho,hA⟩:=hw.get (b:=bl) (A:=Row e c) (wr:=true) .here
  exact Y242
 have eN:(L++[c]).length=L.length+1:=List.length_append
 have eF:(L++[c]).flatten=L.flatten++c:=by rw[List.flatten_append];simp
 cases q with
 | none=>
   obtain rfl:=hq rfl
   refine JL.append_nil (cs:=c) (m:=1) hu hi hx hy (by rw[hcl,Nat.one_mul]) hr Y610 hzz h0 Y639 Y610 hd fun b' cap' _=>?_
   refine(kk b' cap').kC ?_
   refine .keep _ _ _ _ _ _ (fun o h=>?_) (.drop _ _ _ (aj.refl _))
   rw[eF]
   exact h
 | some r=>
   refine JL.append (cs:=c) (m:=1) (b:=r.1) (cap:=r.2) (k:=L.length) (xs:=L.flatten) (fun b' cap'=>⟨bl,Row e c,true⟩::(mJ e sz (some (b',cap')) (L++[c])++M0)) hu hi hx hy (fun b' cap'=>?_) (by rw[hcl,Nat.one_mul]) hr h1 hzz h0 hsm hsm2 hd fun b' cap'=>?_
   · show aR (_::⟨r.1,Sl.Own e sz L.length r.2 L.flatten,true⟩::M0) _ _ _ _ (_::⟨b',Sl.Own e sz (L++[c]).length cap' (L++[c]).flatten,true⟩::M0)
     rw[eN,eF]
     exact .there .here
   · have:=kk b' cap'
     rw[show aD (some (b',cap')) (L++[c]).length=Value.slice (some ⟨b',0,none⟩) (L.length+1) cap' by rw[eN];rfl] at this
     exact this.kC (.drop _ _ _ (aj.refl _))
end
end Sl
structure kI (d:Nat) (p:Part) (cs:List Value) (M:List aL):Prop where
 len:cs.length=5
 one:cs.all Value.oneCell'=true
 wr:∀ e∈M,e.wr=true
 is:∀ (w0:World) (S:List Nat) (w':World),aa w0 S M w'->dJ d w' p cs
theorem kI.less{d:Nat}{p:Part}{cs:List Value}{M M':List aL}(h:kI d p cs M)(hM:aj M M')(hw:∀ e∈M',e.wr=true):kI d p cs M':=⟨h.len,h.one,hw,fun w0 S w' hw'=>h.is w0 S w' (Sl.aa.weak hw' hM)⟩
theorem D3{k:List aq.By}{ps:gm}{c:Int}{x:ay}(h2:ps.ad=none->ps.l=[])(hx:x.ad=none->x.l=[]):kI 1 (.mk k ps.l c x.l []) [Z k,ps.v,.int .i64 c,x.v,.slice none 0 0] (x.an++ps.an) where
 len:=rfl
 one:=rfl
 wr:=fun e he=>by
  rcases List.mem_append.1 he with h|h
  · exact x.bH e h
  · exact ps.bH e h
 is:=fun w0 S w' hw=>⟨ps,x,none,0,[],rfl,⟨gm.bU (M:=x.an) (hw.perm' List.perm_append_comm) h2,rfl⟩,⟨ay.bU hw hx,rfl⟩,Nat.le_refl _,Reads.nil _ _,rfl,nofun⟩
theorem D4{Ms:List (List aL)}{i:Nat}(h:i<Ms.length):aj (Ms.getD i []) Ms.flatten:=by
 rw[List.getD_eq_getElem?_getD,List.getElem?_eq_getElem h]
 exact fU (List.sublist_flatten_of_mem (List.getElem_mem h))
theorem D5{d:Nat}{k:List aq.By}{ps:gm}{L:List Part}{bK:List (List Value)}{Ms:List (List aL)}{q:Acc}(h2:ps.ad=none->ps.l=[])(hq:q=none->bK=[])(hl:bK.length=L.length)(hm:Ms.length=L.length)
  (hs:∀ i,i<bK.length->kI d (L.getD i default) (bK.getD i []) (Ms.getD i [])):kI (d+1) (.mk k ps.l 0 [] L) [Z k,ps.v,.int .i64 0,aB.v,aD q L.length] (mJ 59 5 q bK++(ps.an++Ms.flatten)) where
 len:=rfl
 one:=by cases q <;> rfl
 wr:=fun e he=>by
  rcases List.mem_append.1 he with h|h
  · exact F1 _ _ _ _ e h
  rcases List.mem_append.1 h with h|h
  · exact ps.bH e h
  · obtain⟨M,hM,hm'⟩:=List.mem_flatten.1 h
    obtain⟨i,hi,rfl⟩:=List.getElem_of_mem hM
    have:=(hs i Y609).wr e
    rw[List.getD_eq_getElem?_getD,List.getElem?_eq_getElem hi] at this
    exact this hm'
 is:=fun w0 S w' hw=>by
  have hps:ps.ok w':=gm.bU (M:=Ms.flatten) (Sl.aa.weak hw (fU (List.sublist_append_right _ _))) h2
  have hsub:∀ i,i<bK.length->dJ d w' (L.getD i default) (bK.getD i []):=fun i hi=>
   (hs i hi).is w0 S w' (Sl.aa.weak (Sl.aa.weak hw (fU ((List.sublist_append_right _ _).trans (List.sublist_append_right _ _)))) (D4 Y609))
  cases q with
  | none=>
    have h0:=hq rfl
    have hL:L=[]:=List.eq_nil_of_length_eq_zero (by rw[<- hl,h0];rfl)
    subst h0 hL
    exact⟨ps,aB,none,0,[],rfl,⟨hps,rfl⟩,⟨dN w',rfl⟩,Nat.le_refl _,Reads.nil _ _,rfl,nofun⟩
  | some r=>
    obtain⟨o,ho,hA⟩:=hw.get (b:=r.1) (A:=Sl.Own 59 5 bK.length r.2 bK.flatten) (wr:=true) .here
    have hh:=Sl.Own.cells _ hA
    obtain⟨sp,_,_,_,h4⟩:=hA
    exact⟨ps,aB,some ⟨r.1,0,none⟩,r.2,bK,rfl,⟨hps,rfl⟩,⟨dN w',rfl⟩,by show L.length<=r.2;omega,Reads.block ho hh,hl,hsub⟩
end
end Go.Proofs.YtdabhneehconeaaGreatDoor
