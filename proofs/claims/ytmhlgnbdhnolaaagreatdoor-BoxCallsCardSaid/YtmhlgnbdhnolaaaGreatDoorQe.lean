/-
  Of no statement by itself: the texts BoxF, BoxG, BoxH, BoxI, BoxJ, BoxW, BoxX, BoxY, BoxK, BoxM, BoxR, BoxV, BoxCp, BoxDv, BoxEx in one.
  Conditions: each theorem's own.
-/
import Derived.Test.YtmhlgnbdhnolaaaGreatDoorQd
set_option linter.unusedSimpArgs false
set_option linter.unusedVariables false
namespace Go.Proofs.YtmhlgnbdhnolaaaGreatDoor
section
set_option maxRecDepth 10000
open Sl cY dy fI Bx
theorem Step.box {x : Bz} {af bh : List Bk} {vs vs' : VL} {R1 : Rb} {n1 code : Nat} {ps : List Pq} {z' : Sz} (st : Step x.z af vs ps code z' bh vs') (hok : fV ps=true) (hv : Bv (cy vs ps) R1) (hr : R1.ok n1) :
    (code=0∧vs'=cy vs ps∧(Bz.mk x.b z').ok bh vs' R1 n1)∨(code=6∧z'=x.z∧bh=af∧vs'=vs):=by
  obtain ⟨k',_,st⟩:=st
  rcases st with ⟨h1,h2,h3,h | h⟩ | ⟨_,h1,h2,_⟩
  · rw [hok] at h;exact absurd h.1 (by decide)
  · exact .inr ⟨h.2.1,h1,h2,h3⟩
  · exact .inl ⟨h1,h2,k',h2 ▸ hv,hr⟩
section
variable {n : Nat} {w0 : World} {S : List Nat} {ops : Array Oper} {Q : Exit→Act→World→Prop} {l : List Oper} {E : Env} {M : List ai}
variable {d : Nat} {ty : TypeId} {pos : String} {aft : Array Edge} {x1 x2 x3 : Operand} {ats : Array TypeId} {x : Bz} {af : List Bk} {vs : VL} {R : Rb} {nd : Nat} {f : Bk} {u : Int}
theorem JL.AP (k : x.ok af vs R nd) (hf : f.length<1000000000000000) (e1 : ev E x1=some (Pt x.b 0)) (e2 : ev E x2=some (Z f)) (hd : Nat.blt d n=true)
    (kk : JL Tryz.prog n w0 S ops Q l ((d,N (R.next f))::E) (x.E++M)) : JL Tryz.prog n w0 S ops Q (⟨some d,.call ⟨.value (.func 22),#[x1,x2],ats⟩,ty,pos,aft,none⟩::l) E (x.E++M):=
  JL.bE (ι:=Unit) (xs:=[x1,x2]) (vs:=[Pt x.b 0,Z f]) (fun _=>N (R.next f)) (fun _=>x.E) tf (by simp [gr,e1,e2]) hd x.wr (fun _=>x.wr)
    (fun w _ hw=>(vO x af vs R nd k f hf w hw).mono fun _ _ h=>⟨(),h⟩) fun _=>kk
theorem JL.AQ (k : x.ok af vs R nd) (hf : f.length<1000000000000000) (hn : R.ms.length≤1000000) (e1 : ev E x1=some (Pt x.b 0)) (e2 : ev E x2=some (Z f)) (hd : Nat.blt d n=true)
    (kk : ∀ q : {q : Acc // q=none→R.list f=[]},JL Tryz.prog n w0 S ops Q l ((d,ah q.1 (R.list f).length)::E) (aa 3 q.1 (au (R.list f))++(x.E++M))) : JL Tryz.prog n w0 S ops Q (⟨some d,.call ⟨.value (.func 21),#[x1,x2],ats⟩,ty,pos,aft,none⟩::l) E (x.E++M):=
  JL.bE (ι:={q : Acc // q=none→R.list f=[]}) (xs:=[x1,x2]) (vs:=[Pt x.b 0,Z f]) (fun q=>ah q.1 (R.list f).length) (fun q=>aa 3 q.1 (au (R.list f))++x.E) tg (by simp [gr,e1,e2]) hd x.wr
    (fun q e he=>(List.mem_append.1 he).elim (aP _ _ _ e) (x.wr e)) (fun w _ hw=>vP x af vs R nd k f hf hn w hw) fun q=>by rw [List.append_assoc];exact kk q
theorem JL.tj (k : x.ok af vs R nd) (hf : f.length<1000000000000000) (hu0 : -9223372036854775808≤u) (hu1 : u≤9223372036854775807) (hT : dS S w0) (e1 : ev E x1=some (Pt x.b 0)) (e2 : ev E x2=some (Z f)) (e3 : ev E x3=some (cU u)) (hd : Nat.blt d n=true)
    (kk : ∀ r : Nat × Nat,JL Tryz.prog n w0 S ops Q l ((d,BV u (R.find f u) r)::E) (z8 (R.find f u) r++(x.E++M))) : JL Tryz.prog n w0 S ops Q (⟨some d,.call ⟨.value (.func 19),#[x1,x2,x3],ats⟩,ty,pos,aft,none⟩::l) E (x.E++M):=
  JL.bE (ι:=Nat × Nat) (xs:=[x1,x2,x3]) (vs:=[Pt x.b 0,Z f,cU u]) (fun r=>BV u (R.find f u) r) (fun r=>z8 (R.find f u) r++x.E) ru (by simp [gr,e1,e2,e3]) hd x.wr
    (fun r e he=>(List.mem_append.1 he).elim (Aa _ _ e) (x.wr e)) (fun w h0 hw=>th x af vs R nd k f u hf hu0 hu1 w hw (hT.keys x.wr h0)) fun r=>by rw [List.append_assoc];exact kk r
end
def cC (f : Bk) (u fl : Int) (b : Bk) : Pq:=⟨bg f u,BitVec.ofInt 8 fl::b,false⟩
structure Ab (x : Bz) (af : List Bk) (vs : VL) (R : Rb) (n : Nat) (f : Bk) (u fl : Int) where
  code : Nat
  z' : Sz
  bh : List Bk
  vs' : VL
  R' : Rb
  ok : (Bz.mk x.b z').ok bh vs' R' n
  p : z'.p=x.z.p
  out : ((fl<0∨15<fl)∧code=1∧z'=x.z∧bh=af∧vs'=vs∧R'=R)∨
    (¬ (fl<0∨15<fl)∧R.find f u=none∧code=7∧z'=x.z∧bh=af∧vs'=vs∧R'=R)∨
    (¬ (fl<0∨15<fl)∧∃ m,R.find f u=some m∧Step x.z af vs [cC f u fl m.b] code z' bh vs'∧((code=0∧R'=R.mark f u fl.toNat)∨(code=6∧z'=x.z∧bh=af∧vs'=vs∧R'=R)))
theorem nA : dH Tryz.prog 3=some 1:=by kernel_rfl
abbrev Bz.own (x : Bz) : List ai:=[⟨x.b,Row 76 [Pt x.z.p 0],true⟩]
theorem yj (x : Bz) (A B MF : List ai) : (x.E++(A++(B++[])))++MF=x.z.E++(x.own++(A++(B++MF))):=by
  unfold Bz.E
  simp only [List.append_assoc,List.append_nil]
theorem uy (x : Bz) (z' : Sz) (hp : z'.p=x.z.p) (A B MF : List ai) : (Bz.mk x.b z').E++((A++(B++[]))++MF)=z'.E++(x.own++(A++(B++MF))):=by
  unfold Bz.E Bz.own
  rw [hp]
  simp only [List.append_assoc,List.append_nil]
abbrev Cy (x : Bz) (af : List Bk) (vs : VL) (ps : List Pq):=(Nat × Nat) × Nat × Option (mQ x.z af vs ps)
def DL {x : Bz} {af : List Bk} {vs : VL} {ps : List Pq} (y : Cy x af vs ps) : Nat:=match y.2.2 with
  | none=>0
  | some s=>s.code
def Em {x : Bz} {af : List Bk} {vs : VL} {ps : List Pq} (y : Cy x af vs ps) : List ai:=match y.2.2 with
  | none=>[]
  | some s=>(Bz.mk x.b s.z').E
theorem gh {f : Bk} {u : Nat} (hf : okF f=true) (hu : u<10 ^ 10) : 1≤(bg f (u : Int)).length∧(bg f (u : Int)).length≤53:=by
  have:=(oW hf).2
  rw [ga,List.length_append,de hu,gb,gZ]
  have h : (bk f).length=f.length+3:=by unfold bk;simp
  omega
theorem tn : aL Tryz.prog 13:=⟨_,Tryz.func13,rfl,by kernel_rfl⟩
set_option maxHeartbeats 16000000 in
theorem vR (x : Bz) (af : List Bk) (vs : VL) (R : Rb) (n : Nat) (k : x.ok af vs R n) (f : Bk) (u fl : Int) (hf : f.length<1000000000000000) (hu0 : -9223372036854775808≤u) (hu1 : u≤9223372036854775807) (hb : ∀ m ∈ R.ms,m.b.length≤3000000 - 1000) (hz : ∀ m ∈ R.ms,m.b.length≤2000000) (w : World) (h0 : Holds w (keys x.E) x.E w) (hT : dS (keys x.E) w) :
    Calls Tryz.prog 13 [Pt x.b 0,Z f,cU u,cU fl].toArray w fun e w'=>∃ r : Ab x af vs R n f u fl,e=.returned (N r.code)∧Holds w (keys x.E) (Bz.mk x.b r.z').E w':=by
  generalize keys x.E=S at h0 hT ⊢
  refine enter (n:=38) Tryz.func13 rfl rfl rfl h0 ?_
  obtain ⟨g1,hg1⟩ : ∃ g1,decide (fl<0)=g1:=⟨_,rfl⟩
  obtain ⟨g2,hg2⟩ : ∃ g2,decide (15<fl)=g2:=⟨_,rfl⟩
  by_cases hbad : fl<0∨15<fl
  · have fin : JC Tryz.prog 38 w S (bodyPost Tryz.prog Tryz.f13 fun e w'=>∃ r : Ab x af vs R n f u fl,e=.returned (N r.code)∧Holds w S (Bz.mk x.b r.z').E w') .ret [(8,N 1)] x.E:=by
      exact JC.ret (JE.aR rfl (RV.tmp rfl) fun w' hw=>⟨⟨1,x.z,af,vs,R,k,rfl,.inl ⟨hbad,rfl,rfl,rfl,rfl,rfl⟩⟩,rfl,hw⟩)
    cases g1
    · have h2 : g2=true:=by rw [← hg2];exact decide_eq_true (hbad.resolve_left (of_decide_eq_false hg1))
      subst h2
      repeat (first | refine JL.q (by first|(apply OQ.gv (b:=0);rfl;rfl;exact hg1)|(apply OQ.cD (b:=15);rfl;rfl;exact hg2)|(apply OQ.aJ;rfl;rfl)|(apply OQ.move;rfl)|(apply OQ.assign;rfl)) rfl ?_ | refine JC.seq ?_ | refine JC.region ?_ | refine JL.nil ?_ | refine JE.next ?_ | refine JL.aB rfl rfl ?_)
      refine JC.cond_true rfl rfl ?_
      repeat (first | refine JL.q (by (apply OQ.assign;rfl)) rfl ?_ | refine JC.seq ?_ | refine JC.region ?_ | refine JL.nil ?_ | refine JE.next ?_)
      refine JC.ret ?_
      repeat (refine JE.aA ?_)
      exact JE.aR rfl (RV.tmp rfl) fun w' hw=>⟨⟨1,x.z,af,vs,R,k,rfl,.inl ⟨hbad,rfl,rfl,rfl,rfl,rfl⟩⟩,rfl,hw⟩
    · repeat (first | refine JL.q (by first|(apply OQ.gv (b:=0);rfl;rfl;exact hg1)|(apply OQ.aS;rfl;rfl)|(apply OQ.move;rfl)|(apply OQ.assign;rfl)) rfl ?_ | refine JC.seq ?_ | refine JC.region ?_ | refine JL.nil ?_ | refine JE.next ?_ | refine JL.bC rfl rfl rfl rfl ?_)
      refine JC.cond_true rfl rfl ?_
      repeat (first | refine JL.q (by (apply OQ.assign;rfl)) rfl ?_ | refine JC.seq ?_ | refine JC.region ?_ | refine JL.nil ?_ | refine JE.next ?_)
      refine JC.ret ?_
      repeat (refine JE.aA ?_)
      exact JE.aR rfl (RV.tmp rfl) fun w' hw=>⟨⟨1,x.z,af,vs,R,k,rfl,.inl ⟨hbad,rfl,rfl,rfl,rfl,rfl⟩⟩,rfl,hw⟩
  have h1 : g1=false:=by rw [← hg1];exact decide_eq_false fun h=>hbad (.inl h)
  have h2 : g2=false:=by rw [← hg2];exact decide_eq_false fun h=>hbad (.inr h)
  subst h1 h2
  repeat (first | refine JL.q (by first|(apply OQ.gv (b:=0);rfl;rfl;exact hg1)|(apply OQ.cD (b:=15);rfl;rfl;exact hg2)|(apply OQ.aJ;rfl;rfl)|(apply OQ.move;rfl)|(apply OQ.assign;rfl)) rfl ?_ | refine JC.seq ?_ | refine JC.region ?_ | refine JL.nil ?_ | refine JE.next ?_ | refine JL.aB rfl rfl ?_)
  refine JC.cond_false rfl rfl ?_
  repeat (first | refine JL.q (by (apply OQ.move;rfl)) rfl ?_ | refine JC.seq ?_ | refine JC.region ?_ | refine JC.skip ?_ | refine JE.next ?_)
  refine JL.perm (M':=x.E++[]) ?_ (by rw [List.append_nil])
  refine JL.tj (f:=f) (u:=u) k hf hu0 hu1 hT rfl rfl rfl rfl fun r=>?_
  cases hn : R.find f u with
  | none=>
    show JL Tryz.prog _ _ _ _ _ _ ((21,.tuple #[.agg (cm 0 0 bG).toArray,N 7])::_) (x.E++[])
    repeat (refine JL.q (by first|(apply OQ.extract;rfl;rfl)|(apply OQ.move;rfl)) rfl ?_)
    refine JL.alloc Cj rfl fun b9 _=>?_
    refine JL.aq (cs:=cm 0 0 bG) mU rfl rfl rfl rfl .here rfl ?_
    repeat (first | refine JL.q (by first|(apply OQ.fQ (a:=7) (b:=0) (c:=false);rfl;rfl;rfl)|(apply OQ.move;rfl)|(apply OQ.assign;rfl)) rfl ?_ | refine JC.seq ?_ | refine JC.region ?_ | refine JL.nil ?_ | refine JE.next ?_)
    refine JC.cond_true rfl rfl ?_
    repeat (first | refine JL.q (by first|(apply OQ.move;rfl)|(apply OQ.assign;rfl)) rfl ?_ | refine JC.seq ?_ | refine JC.region ?_ | refine JL.nil ?_ | refine JE.next ?_)
    refine JC.ret ?_
    repeat (refine JE.aA ?_)
    refine JE.aR rfl (RV.tmp rfl) fun w' hw=>⟨⟨7,x.z,af,vs,R,k,rfl,.inr (.inl ⟨hbad,hn,rfl,rfl,rfl,rfl,rfl⟩)⟩,rfl,hw.weak (.drop _ _ _ ?_)⟩
    rw [List.append_nil]
    exact aj.refl _
  | some m=>
    obtain ⟨hmm,hmf,hmu⟩:=dm hn
    obtain ⟨s,hs⟩ : ∃ s,vQ r m.b=s:=⟨_,rfl⟩
    have hsl : s.l=m.b:=by rw [← hs];rfl
    show JL Tryz.prog _ _ _ _ _ _ ((21,.tuple #[.agg (cm u m.fl (vQ r m.b)).toArray,N 0])::_) (aa 5 (some r) (m.v.map U8)++(x.E++[]))
    rw [hs,List.append_nil]
    repeat (refine JL.q (by first|(apply OQ.extract;rfl;rfl)|(apply OQ.move;rfl)) rfl ?_)
    refine JL.alloc Cj rfl fun b9 _=>?_
    refine JL.aq (cs:=cm u m.fl s) mU rfl rfl rfl rfl .here rfl ?_
    repeat (first | refine JL.q (by first|(apply OQ.fQ (a:=0) (b:=0) (c:=true);rfl;rfl;rfl)|(apply OQ.move;rfl)|(apply OQ.assign;rfl)) rfl ?_ | refine JC.seq ?_ | refine JC.region ?_ | refine JL.nil ?_ | refine JE.next ?_)
    refine JC.cond_false rfl rfl ?_
    repeat (first | refine JL.q (by first|(apply OQ.move;rfl)|(apply OQ.aV;rfl;rfl;rfl;exact (by decide);rfl)) rfl ?_ | refine JC.seq ?_ | refine JC.region ?_ | refine JC.skip ?_ | refine JE.next ?_)
    refine JL.bK (r:=cm u m.fl s) (r':=cm u fl s) (M':=⟨b9,Row 46 (cm u fl s),true⟩::(aa 5 (some r) (m.v.map U8)++x.E)) nA rfl rfl rfl rfl .here (by show 1<3;decide) rfl ?_
    repeat (first | refine JC.seq ?_ | refine JL.nil ?_ | refine JE.next ?_)
    have hsok : ∀ {w' : World} {M' : List ai},Holds w S ((aa 5 (some r) (m.v.map U8)++[])++M') w'→s.ok w':=fun {w' M'} hw'=>by
      rw [← hs]
      rw [List.append_nil] at hw'
      exact yh (c:=BitVec.ofNat 8 m.fl) hw'
    have hsl2 : s.l.length≤3000000:=by rw [hsl];have:=hz m hmm;omega
    have hszP : ∀ q,iz (ez.mk (some ⟨0,0,none⟩) 1 [jV f u fl s.l q]).ps≤2500000:=fun q=>by
      show iz [cC f u fl s.l]≤2500000
      have h1:=(gh (k.r.fold m hmm) (k.r.mO hmm)).2
      rw [hmf,hmu] at h1
      have h2:=hz m hmm
      unfold iz sX cC
      simp only [List.map_cons,List.map_nil,List.sum_cons,List.sum_nil,List.length_cons,hsl]
      omega
    have hcom : ∀ (q : Nat × Nat) (bl : Nat) (w' : World) {MF : List ai},Holds w S (x.z.E++(x.own++((⟨bl,Row 78 (jV f u fl s.l q).cs,true⟩::aa 5 (some q) ((BitVec.ofInt 8 fl::s.l).map U8))++MF))) w'→(ez.mk (some ⟨bl,0,none⟩) 1 [jV f u fl s.l q]).ok w'∧jM (ez.mk (some ⟨bl,0,none⟩) 1 [jV f u fl s.l q]) (keys x.z.E):=fun q bl w' {MF} hw'=>by
      refine ⟨uw (l:=[_]) hw' (aG (N:=x.z.E) (.there .here)) ?_,?_⟩
      · intro p hp
        rw [List.mem_singleton] at hp
        subst hp
        have h:=hw'.weak (M':=aa 5 (some q) ((BitVec.ofInt 8 fl::s.l).map U8)++[]) (by rw [List.append_nil];exact av _ (.drop _ _ _ (.drop _ _ _ (ax _ _))))
        exact fR (q:=some q) h
      · refine ⟨fun _ a ea=>?_,fun p hp=>?_⟩
        · cases ea
          exact cr (b:=bl) hw' (.there .here)
        · rw [List.mem_singleton] at hp
          subst hp
          intro _ a ea
          cases ea
          exact cr (b:=q.1) hw' (.there (.there .here))
    let vs2 : Nat→Cy x af vs [cC f u fl s.l]→Value:=fun j y=>match j with
      | 0=>Pt x.b 0
      | 1=>Pt x.b 0
      | 2=>Pt x.b 0
      | 3=>Pt x.z.p 0
      | 4=>Z f
      | 5=>.agg (cm u fl s).toArray
      | 6=>.agg (jV f u fl s.l y.1).cs.toArray
      | 7=>.slice (some ⟨y.2.1,0,none⟩) 1 1
      | 8=>N (DL y)
      | 9=>N (DL y)
      | _=>N 0
    let Ms : Nat→Cy x af vs [cC f u fl s.l]→List ai:=fun j y=>match j with
      | 6=>aa 5 (some y.1) ((BitVec.ofInt 8 fl::s.l).map U8)
      | 7=>⟨y.2.1,Row 78 (jV f u fl s.l y.1).cs,true⟩::aa 5 (some y.1) ((BitVec.ofInt 8 fl::s.l).map U8)
      | 8=>Em y
      | 10=>[⟨b9,Row 46 (cm u fl s),true⟩]
      | 11=>aa 5 (some r) (m.v.map U8)
      | 12=>x.E
      | _=>[]
    refine JC.nN (g:=⟨[(0,Pt x.b 0),(1,Z f),(9,Pt b9 0)],13,vs2,Ms,(fun j=>match j with | 1=>[(0,29)] | 2=>[(1,30)] | 3=>[(2,31)] | 6=>[(4,33),(5,34)] | 7=>[(6,35)] | 8=>[(3,32),(7,36)] | 9=>[(8,37)] | _=>[]),(fun j=>match j with | 3=>[12] | 5=>[10] | 6=>[11] | 7=>[6] | 8=>[12,7] | _=>[]),(fun j=>match j with | 7=>[6] | 8=>[12] | _=>[]),(fun j=>match j with | 8=>some 7 | 9=>some 8 | _=>none),fun _=>[],fun j a b=>match j with | 8=>a.2.2.isSome=true | 9=>a=b | _=>True⟩) [(9,8)] [8] bZ (by repeat (first | exact ag.nil | refine ag.cons _ _ _ rfl ?_)) (fun _ _=>.nil) ?_ (by kernel_rfl) (by kernel_rfl) (by kernel_rfl) ?_ ?_
    · show aj ([_]++(_++(x.E++[]))) _;rw [List.append_nil];exact aj.refl _
    · refine ⟨?_,?_,?_,?_,?_,?_,?_,?_,?_,?_,trivial⟩
      · (intro xx EF MF Q kk;(try refine JL.aB rfl rfl ?_);exact JL.q (OQ.move rfl) rfl (JL.nil (kk default nofun)))
      · (intro xx EF MF Q kk;(try refine JL.aB rfl rfl ?_);exact JL.q (OQ.aO rfl) rfl (JL.nil (kk default nofun)))
      · (intro xx EF MF Q kk;(try refine JL.aB rfl rfl ?_);exact JL.q (OQ.aV rfl rfl rfl (by decide) rfl) rfl (JL.nil (kk default nofun)))
      · (intro xx EF MF Q kk;(try refine JL.aB rfl rfl ?_);exact JL.q (OQ.load (v:=Pt x.z.p 0) Ck rfl (yf x) (Row.cell rfl)) rfl (JL.nil (kk default nofun)))
      · (intro xx EF MF Q kk;(try refine JL.aB rfl rfl ?_);exact JL.q (OQ.move rfl) rfl (JL.nil (kk default nofun)))
      · (intro xx EF MF Q kk;(try refine JL.aB rfl rfl ?_);exact JL.q (OQ.az (cs:=cm u fl s) yd mU rfl .here rfl Row.all) rfl (JL.nil (kk default nofun)))
      · (intro xx EF MF Q kk;exact JL.bA (ι:=Nat × Nat) (vs:=[Z f,.agg (cm u fl s).toArray]) (fun q=>.agg (jV f u fl s.l q).cs.toArray) (fun q=>aa 5 (some q) ((BitVec.ofInt 8 fl::s.l).map U8)) mV rfl rfl (fun q e he=>aP _ _ _ e he) (fun w' hw'=>oC f u fl s hf hu0 hu1 hsl2 w' (hsok hw') (hT.holds hw')) fun q=>JL.nil (kk (q,0,none) nofun))
      · (intro xx EF MF Q kk;exact JL.pW (cs:=(jV f u fl s.l (xx 6).1).cs) Tryz.underlying81 AK rfl (by decide) (by decide) rfl rfl rfl fun b _=>JL.nil (kk ((xx 6).1,b,none) nofun))
      · (intro xx EF MF Q kk;refine JL.perm (M':=x.z.E++(x.own++((⟨(xx 7).2.1,Row 78 (jV f u fl s.l (xx 7).1).cs,true⟩::aa 5 (some (xx 7).1) ((BitVec.ofInt 8 fl::s.l).map U8))++([]++MF)))) ?_ (List.Perm.of_eq (yj x _ [] MF));refine JL.BS (s:=⟨some ⟨(xx 7).2.1,0,none⟩,1,[jV f u fl s.l (xx 7).1]⟩) k.z (hszP _) (fun w' hw'=>hcom (xx 7).1 (xx 7).2.1 w' hw') rfl rfl rfl fun st=>?_;refine JL.perm (M':=(Bz.mk x.b st.z').E++(((⟨(xx 7).2.1,Row 78 (jV f u fl s.l (xx 7).1).cs,true⟩::aa 5 (some (xx 7).1) ((BitVec.ofInt 8 fl::s.l).map U8))++([]++[]))++MF)) ?_ (List.Perm.of_eq (uy x st.z' st.st.2.1 _ [] MF).symm);exact JL.nil (kk ((xx 7).1,(xx 7).2.1,some st) (fun k h=>by cases h;rfl)))
      · (intro xx EF MF Q kk;(try refine JL.aB rfl rfl ?_);exact JL.q (OQ.assign rfl) rfl (JL.nil (kk (xx 8) (fun k h=>by cases h;rfl))))
    · intro xx hx
      have e1 : xx 9=xx 8:=hx 9 8 (by decide) rfl
      have e2 : (xx 8).2.2.isSome=true:=hx 8 7 (by decide) rfl
      show JE _ _ _ _ _ [(8,N (DL (xx 9))),(0,Pt x.b 0),(1,Z f),(9,Pt b9 0)] (Em (xx 8)++[])
      rw [e1,List.append_nil]
      generalize xx 8=y at e2 ⊢
      clear hx e1 xx vs2 Ms
      obtain ⟨q,bl,o⟩:=y
      cases o with
      | none=>cases e2
      | some st=>
      refine JE.next ?_
      obtain ⟨code,z2,recs2,vs2,sst⟩:=st
      have hfl : fl.toNat<16:=by omega
      have hbv : Bv (cy vs [cC f u fl s.l]) (R.mark f u fl.toNat):=by
        have e : BitVec.ofInt 8 fl=BitVec.ofNat 8 fl.toNat:=by
          obtain ⟨t,rfl⟩ : ∃ t : Nat,fl=(t : Int):=⟨fl.toNat,by omega⟩
          rfl
        have:=zP (fl:=fl.toNat) k.r k.v hn
        unfold cC
        rw [e,hsl]
        exact this
      have hokp : fV [cC f u fl s.l]=true:=by
        have h1:=gh (k.r.fold m hmm) (k.r.mO hmm)
        rw [hmf,hmu] at h1
        unfold fV jU cC
        simp only [List.all_cons,List.all_nil,Bool.and_true,Bool.false_and,Bool.not_false,Bool.and_eq_true,decide_eq_true_eq]
        omega
      have hbx:=Step.box (x:=x) sst hokp hbv (zO k.r f u hfl)
      have hsm : [cC f u fl s.l]=[cC f u fl m.b]:=by rw [hsl]
      rw [hsm] at sst
      refine JC.ret ?_
      skip
      rcases hbx with ⟨h1,h2,h3⟩ | ⟨h1,h2,h3,h4⟩
      · exact JE.aR rfl (RV.tmp rfl) fun w' hw=>⟨⟨code,z2,recs2,vs2,R.mark f u fl.toNat,h3,sst.2.1,.inr (.inr ⟨hbad,m,hn,sst,.inl ⟨h1,rfl⟩⟩)⟩,rfl,hw⟩
      · exact JE.aR rfl (RV.tmp rfl) fun w' hw=>⟨⟨code,z2,recs2,vs2,R,by rw [h2,h3,h4];exact k,sst.2.1,.inr (.inr ⟨hbad,m,hn,sst,.inr ⟨h1,h2,h3,h4,rfl⟩⟩)⟩,rfl,hw⟩
end
section
set_option maxRecDepth 10000
open Sl cY dy fI Bx
theorem yl (A B M : List ai) : aj A ((A++B)++M):=by
  rw [List.append_assoc]
  exact ax _ _
theorem ym (A B M : List ai) : aj B ((A++B)++M):=by
  rw [List.append_assoc]
  exact av _ (ax _ _)
def eP (R : Rb) (f b : Bk) : List Pq:=[⟨bg f (R.next f : Int),0#8::b,false⟩,⟨cS f,nV (R.next f+1),false⟩]
structure nB (x : Bz) (af : List Bk) (vs : VL) (R : Rb) (n : Nat) (f b : Bk) where
  code : Nat
  uid : Nat
  z' : Sz
  bh : List Bk
  vs' : VL
  R' : Rb
  n' : Nat
  ok : (Bz.mk x.b z').ok bh vs' R' n'
  p : z'.p=x.z.p
  out : (okF f=false∧code=1∧uid=0∧z'=x.z∧bh=af∧vs'=vs∧R'=R∧n'=n)∨
    (okF f=true∧Step x.z af vs (eP R f b) code z' bh vs'∧((code=0∧uid=R.next f∧R'=R.aD f b∧n'=n+1)∨(code=6∧uid=0∧z'=x.z∧bh=af∧vs'=vs∧R'=R∧n'=n)))
abbrev Dy (x : Bz) (af : List Bk) (vs : VL) (ps : List Pq):=(Nat × Nat) × (Nat × Nat) × Nat × Option (mQ x.z af vs ps)
def DM {x : Bz} {af : List Bk} {vs : VL} {ps : List Pq} (y : Dy x af vs ps) : Nat:=match y.2.2.2 with
  | none=>0
  | some s=>s.code
def En {x : Bz} {af : List Bk} {vs : VL} {ps : List Pq} (y : Dy x af vs ps) : List ai:=match y.2.2.2 with
  | none=>[]
  | some s=>(Bz.mk x.b s.z').E
theorem OQ.ry {n : Nat} {E : Env} {C : World→Prop} {dst : Option Tmp} {ty : TypeId} {pos : String} {aft : Array Edge} {g : Option (Nat × Bool)} {x z : Operand} {u : Int} {s : aC} (hx : ev E x=some (cU u)) (hz : ev E z=some s.v) : OQ Tryz.prog n E C ⟨dst,.build 46 #[(0,x),(2,z)],ty,pos,aft,g⟩ (.agg (cm u 0 s).toArray):=
  OQ.run fun a ha w _=>by
    have h1:=ha.eval hx
    have h3:=ha.eval hz
    have r:=run_build (P:=Tryz.prog) w 46 #[(0,cU u),(2,s.v)] (cm u 0 s).toArray (by kernel_rfl)
    simp [execOp,h1,h3,r]
def yo (f : Bk) (n : Nat) (r : Nat × Nat) : aM:=⟨cS f,⟨some ⟨r.1,0,none⟩,r.2,nV n⟩,false⟩
theorem nC : aL Tryz.prog 11:=⟨_,Tryz.func11,rfl,by kernel_rfl⟩
set_option maxHeartbeats 16000000 in
theorem pn (x : Bz) (af : List Bk) (vs : VL) (R : Rb) (n : Nat) (k : x.ok af vs R n) (hnn : n+1≤1000000) (f : Bk) (s : aC) (hf : f.length<1000000000000000) (hl : s.l.length≤2000000) (w : World) (h0 : Holds w (keys x.E) x.E w) (hT : dS (keys x.E) w) (hs : s.ok w) (ha : gw s (keys x.E)) :
    Calls Tryz.prog 11 [Pt x.b 0,Z f,s.v].toArray w fun e w'=>∃ r : nB x af vs R n f s.l,e=.returned (.tuple #[N r.uid,N r.code])∧Holds w (keys x.E) (Bz.mk x.b r.z').E w':=by
  generalize keys x.E=S at h0 hT ha ⊢
  refine enter (n:=42) Tryz.func11 rfl rfl rfl h0 ?_
  have hFo:=fun (w' : World)=>mS f w' (by omega)
  cases hok : okF f
  · rw [hok] at hFo
    repeat (first | refine JL.q (by first|(apply OQ.aF (vs:=[Z f]) (v:=.bool false);exact hO;rfl;exact (fun w' _=>hFo w'))|(apply OQ.not;rfl)|(apply OQ.move;rfl)|(apply OQ.assign;rfl)) rfl ?_ | refine JC.seq ?_ | refine JC.region ?_ | refine JL.nil ?_ | refine JE.next ?_)
    refine JC.cond_true rfl rfl ?_
    repeat (first | refine JL.q (by (apply OQ.assign;rfl)) rfl ?_ | refine JC.seq ?_ | refine JC.region ?_ | refine JL.nil ?_ | refine JE.next ?_)
    refine JC.ret ?_
    repeat (refine JE.aA ?_)
    exact JE.cw rfl (RV.tmp rfl) (RV.tmp rfl) fun w' hw=>⟨⟨1,0,x.z,af,vs,R,n,k,rfl,.inl ⟨hok,rfl,rfl,rfl,rfl,rfl,rfl,rfl⟩⟩,rfl,hw⟩
  rw [hok] at hFo
  repeat (first | refine JL.q (by first|(apply OQ.aF (vs:=[Z f]) (v:=.bool true);exact hO;rfl;exact (fun w' _=>hFo w'))|(apply OQ.not;rfl)|(apply OQ.move;rfl)|(apply OQ.assign;rfl)) rfl ?_ | refine JC.seq ?_ | refine JC.region ?_ | refine JL.nil ?_ | refine JE.next ?_)
  refine JC.cond_false rfl rfl ?_
  repeat (first | refine JL.q (by (apply OQ.move;rfl)) rfl ?_ | refine JC.seq ?_ | refine JC.region ?_ | refine JC.skip ?_ | refine JE.next ?_)
  refine JL.perm (M':=x.E++[]) ?_ (by rw [List.append_nil])
  refine JL.AP (f:=f) k hf rfl rfl rfl ?_
  rw [List.append_nil]
  have hnx:=R.iy k.r f
  have hdo:=sQ k.r hnn hok s.l
  have hdb:=sR k.r k.v f s.l
  have hfl:=oW hok
  have hkl:=(gh hok (u:=R.next f) (by have:=k.r.le;omega))
  have hpd : [⟨bg f (R.next f : Int),0#8::s.l,false⟩,⟨cS f,nV (R.next f+1),false⟩]=eP R f s.l:=rfl
  have hmk : ∀ {c : Nat} {z' bh vs'},Step x.z af vs (eP R f s.l) c z' bh vs'→c=0→vs'=cy vs (eP R f s.l)→(Bz.mk x.b z').ok bh vs' (R.aD f s.l) (n+1)→nB x af vs R n f s.l:=fun {c z' bh vs'} st h1 _ h3=>⟨c,R.next f,z',bh,vs',R.aD f s.l,n+1,h3,st.2.1,.inr ⟨hok,st,.inl ⟨h1,rfl,rfl,rfl⟩⟩⟩
  rw [hpd] at hdb
  have hdP : eP R f s.l=[⟨bg f (R.next f : Int),0#8::s.l,false⟩,⟨cS f,nV (R.next f+1),false⟩]:=rfl
  obtain ⟨nx,hnxe⟩ : ∃ nx,R.next f=nx:=⟨_,rfl⟩
  rw [hnxe] at hnx hkl hdP ⊢
  have hle:=k.r.le
  have g1 : decide ((2097152 : Int)<(s.l.length : Int))=false:=decide_eq_false (by omega)
  have g2 : decide ((4294967295 : Int)<(nx : Int))=false:=decide_eq_false (by omega)
  repeat (first | refine JL.q (by first|(apply OQ.len (k:=s.l.length) (ad:=s.ad) (cap:=s.cap);exact Tryz.underlying24;rfl)|(apply OQ.cD (b:=2097152);rfl;rfl;exact g1)|(apply OQ.cD (b:=4294967295);rfl;rfl;exact g2)|(apply OQ.aJ;rfl;rfl)|(apply OQ.move;rfl)|(apply OQ.assign;rfl)) rfl ?_ | refine JC.seq ?_ | refine JC.region ?_ | refine JL.nil ?_ | refine JE.next ?_ | refine JL.aB rfl rfl ?_)
  refine JC.cond_false rfl rfl ?_
  repeat (first | refine JC.seq ?_ | refine JC.skip ?_ | refine JE.next ?_)
  have hszP : ∀ q t,iz (ez.mk (some ⟨0,0,none⟩) 2 [jV f nx 0 s.l q,yo f (nx+1) t]).ps≤2500000:=fun q t=>by
    show iz [⟨bg f (nx : Int),0#8::s.l,false⟩,⟨cS f,nV (nx+1),false⟩]≤2500000
    have h3 : (nV (nx+1)).length=8:=dL _ _
    have h4 : (cS f).length=f.length+2:=by unfold cS;simp
    unfold iz sX
    simp only [List.map_cons,List.map_nil,List.sum_cons,List.sum_nil,List.length_cons,h3,h4]
    omega
  have hcom : ∀ (q t : Nat × Nat) (bl : Nat) (w' : World) {MF : List ai},Holds w S (x.z.E++(x.own++((⟨bl,Row 78 ((jV f nx 0 s.l q).cs++(yo f (nx+1) t).cs),true⟩::(aa 5 (some q) ((BitVec.ofInt 8 0::s.l).map U8)++aa 5 (some t) ((nV (nx+1)).map U8)))++MF))) w'→(ez.mk (some ⟨bl,0,none⟩) 2 [jV f nx 0 s.l q,yo f (nx+1) t]).ok w'∧jM (ez.mk (some ⟨bl,0,none⟩) 2 [jV f nx 0 s.l q,yo f (nx+1) t]) (keys x.z.E):=fun q t bl w' {MF} hw'=>by
    refine ⟨uw (l:=[_,_]) hw' (aG (N:=x.z.E) (.there .here)) ?_,?_⟩
    · intro p hp
      simp only [List.mem_cons,List.not_mem_nil,or_false] at hp
      rcases hp with rfl | rfl
      · have h:=hw'.weak (M':=aa 5 (some q) ((BitVec.ofInt 8 0::s.l).map U8)++[]) (by rw [List.append_nil];exact av _ (.drop _ _ _ (.drop _ _ _ (yl _ _ _))))
        exact fR (q:=some q) h
      · have h:=hw'.weak (M':=aa 5 (some t) ((nV (nx+1)).map U8)++[]) (by rw [List.append_nil];exact av _ (.drop _ _ _ (.drop _ _ _ (ym _ _ _))))
        exact fR (q:=some t) h
    · refine ⟨fun _ a ea=>?_,fun p hp=>?_⟩
      · cases ea
        exact cr (b:=bl) hw' (.there .here)
      · simp only [List.mem_cons,List.not_mem_nil,or_false] at hp
        rcases hp with rfl | rfl
        · intro _ a ea
          cases ea
          exact cr (b:=q.1) hw' (.there (.there .here))
        · intro _ a ea
          cases ea
          exact cr (b:=t.1) hw' (.there (.there (.there .here)))
  let vs2 : Nat→Dy x af vs [⟨bg f (nx : Int),0#8::s.l,false⟩,⟨cS f,nV (nx+1),false⟩]→Value:=fun j y=>match j with
    | 0=>Pt x.b 0
    | 1=>Pt x.b 0
    | 2=>Pt x.b 0
    | 3=>Pt x.z.p 0
    | 4=>Z f
    | 5=>N nx
    | 6=>s.v
    | 7=>.agg (cm nx 0 s).toArray
    | 8=>.agg (jV f nx 0 s.l y.1).cs.toArray
    | 9=>Z f
    | 10=>N nx
    | 11=>N (nx+1)
    | 12=>.agg (yo f (nx+1) y.2.1).cs.toArray
    | 13=>.slice (some ⟨y.2.2.1,0,none⟩) 2 2
    | 14=>N (DM y)
    | 15=>N (DM y)
    | _=>N 0
  let Ms : Nat→Dy x af vs [⟨bg f (nx : Int),0#8::s.l,false⟩,⟨cS f,nV (nx+1),false⟩]→List ai:=fun j y=>match j with
    | 8=>aa 5 (some y.1) ((BitVec.ofInt 8 0::s.l).map U8)
    | 12=>aa 5 (some y.2.1) ((nV (nx+1)).map U8)
    | 13=>⟨y.2.2.1,Row 78 ((jV f nx 0 s.l y.1).cs++(yo f (nx+1) y.2.1).cs),true⟩::(aa 5 (some y.1) ((BitVec.ofInt 8 0::s.l).map U8)++aa 5 (some y.2.1) ((nV (nx+1)).map U8))
    | 14=>En y
    | 16=>x.E
    | _=>[]
  refine JC.nN (g:=⟨[(0,Pt x.b 0),(1,Z f),(2,s.v),(8,N nx)],17,vs2,Ms,(fun j=>match j with | 1=>[(0,23)] | 2=>[(1,24)] | 3=>[(2,25)] | 7=>[(5,28),(6,29)] | 8=>[(4,27),(7,30)] | 11=>[(10,33)] | 12=>[(9,32),(11,34)] | 13=>[(8,31),(12,35)] | 14=>[(3,26),(13,36)] | 15=>[(14,37)] | _=>[]),(fun j=>match j with | 3=>[16] | 13=>[8,12] | 14=>[16,13] | _=>[]),(fun j=>match j with | 13=>[8,12] | 14=>[16] | _=>[]),(fun j=>match j with | 14=>some 13 | 15=>some 14 | _=>none),fun _=>[],fun j a b=>match j with | 14=>a.2.2.2.isSome=true | 15=>a=b | _=>True⟩) [(15,9)] [14] bZ (by repeat (first | exact ag.nil | refine ag.cons _ _ _ rfl ?_)) (fun _ _=>.nil) ?_ (by kernel_rfl) (by kernel_rfl) (by kernel_rfl) ?_ ?_
  · show aj (x.E++[]) _;rw [List.append_nil];exact aj.refl _
  · refine ⟨?_,?_,?_,?_,?_,?_,?_,?_,?_,?_,?_,?_,?_,?_,?_,?_,trivial⟩
    · (intro xx EF MF Q kk;(try refine JL.aB rfl rfl ?_);exact JL.q (OQ.move rfl) rfl (JL.nil (kk default nofun)))
    · (intro xx EF MF Q kk;(try refine JL.aB rfl rfl ?_);exact JL.q (OQ.aO rfl) rfl (JL.nil (kk default nofun)))
    · (intro xx EF MF Q kk;(try refine JL.aB rfl rfl ?_);exact JL.q (OQ.aV rfl rfl rfl (by decide) rfl) rfl (JL.nil (kk default nofun)))
    · (intro xx EF MF Q kk;(try refine JL.aB rfl rfl ?_);exact JL.q (OQ.load (v:=Pt x.z.p 0) Ck rfl (yf x) (Row.cell rfl)) rfl (JL.nil (kk default nofun)))
    · (intro xx EF MF Q kk;(try refine JL.aB rfl rfl ?_);exact JL.q (OQ.move rfl) rfl (JL.nil (kk default nofun)))
    · (intro xx EF MF Q kk;(try refine JL.aB rfl rfl ?_);exact JL.q (OQ.move rfl) rfl (JL.nil (kk default nofun)))
    · (intro xx EF MF Q kk;(try refine JL.aB rfl rfl ?_);exact JL.q (OQ.move rfl) rfl (JL.nil (kk default nofun)))
    · (intro xx EF MF Q kk;(try refine JL.aB rfl rfl ?_);exact JL.q (OQ.ry (u:=nx) (s:=s) rfl rfl) rfl (JL.nil (kk default nofun)))
    · (intro xx EF MF Q kk;exact JL.bA (ι:=Nat × Nat) (vs:=[Z f,.agg (cm nx 0 s).toArray]) (fun q=>.agg (jV f nx 0 s.l q).cs.toArray) (fun q=>aa 5 (some q) ((BitVec.ofInt 8 0::s.l).map U8)) mV rfl rfl (fun q e he=>aP _ _ _ e he) (fun w' hw'=>oC f nx 0 s hf (by omega) (by omega) (by omega) w' (hs.iY hw' ha) (hT.holds hw')) fun q=>JL.nil (kk (q,(0,0),0,none) nofun))
    · (intro xx EF MF Q kk;(try refine JL.aB rfl rfl ?_);exact JL.q (OQ.move rfl) rfl (JL.nil (kk default nofun)))
    · (intro xx EF MF Q kk;(try refine JL.aB rfl rfl ?_);exact JL.q (OQ.move rfl) rfl (JL.nil (kk default nofun)))
    · (intro xx EF MF Q kk;(try refine JL.aB rfl rfl ?_);exact JL.q (OQ.addN (a:=nx) (b:=1) rfl rfl (by omega)) rfl (JL.nil (kk default nofun)))
    · (intro xx EF MF Q kk;exact JL.bA (ι:=Nat × Nat) (vs:=[Z f,N (nx+1)]) (fun q=>.agg (yo f (nx+1) q).cs.toArray) (fun q=>aa 5 (some q) ((nV (nx+1)).map U8)) tc rfl rfl (fun q e he=>aP _ _ _ e he) (fun w' hw'=>vN f (nx+1) hf w') fun q=>JL.nil (kk ((0,0),q,0,none) nofun))
    · (intro xx EF MF Q kk;exact JL.C1 (cs:=(jV f nx 0 s.l (xx 8).1).cs) (ds:=(yo f (nx+1) (xx 12).2.1).cs) Tryz.underlying81 AK rfl (by decide) (by decide) rfl rfl rfl rfl rfl fun b _=>JL.nil (kk ((xx 8).1,(xx 12).2.1,b,none) nofun))
    · (intro xx EF MF Q kk;refine JL.perm (M':=x.z.E++(x.own++((⟨(xx 13).2.2.1,Row 78 ((jV f nx 0 s.l (xx 13).1).cs++(yo f (nx+1) (xx 13).2.1).cs),true⟩::(aa 5 (some (xx 13).1) ((BitVec.ofInt 8 0::s.l).map U8)++aa 5 (some (xx 13).2.1) ((nV (nx+1)).map U8)))++([]++MF)))) ?_ (List.Perm.of_eq (yj x _ [] MF));refine JL.BS (s:=ez.mk (some ⟨(xx 13).2.2.1,0,none⟩) 2 [jV f nx 0 s.l (xx 13).1,yo f (nx+1) (xx 13).2.1]) k.z (hszP _ _) (fun w' hw'=>hcom (xx 13).1 (xx 13).2.1 (xx 13).2.2.1 w' hw') rfl rfl rfl fun st=>?_;refine JL.perm (M':=(Bz.mk x.b st.z').E++(((⟨(xx 13).2.2.1,Row 78 ((jV f nx 0 s.l (xx 13).1).cs++(yo f (nx+1) (xx 13).2.1).cs),true⟩::(aa 5 (some (xx 13).1) ((BitVec.ofInt 8 0::s.l).map U8)++aa 5 (some (xx 13).2.1) ((nV (nx+1)).map U8)))++([]++[]))++MF)) ?_ (List.Perm.of_eq (uy x st.z' st.st.2.1 _ [] MF).symm);exact JL.nil (kk ((xx 13).1,(xx 13).2.1,(xx 13).2.2.1,some st) (fun k h=>by cases h;rfl)))
    · (intro xx EF MF Q kk;(try refine JL.aB rfl rfl ?_);exact JL.q (OQ.assign rfl) rfl (JL.nil (kk (xx 14) (fun k h=>by cases h;rfl))))
  · intro xx hx
    have e1 : xx 15=xx 14:=hx 15 14 (by decide) rfl
    have e2 : (xx 14).2.2.2.isSome=true:=hx 14 13 (by decide) rfl
    show JE _ _ _ _ _ [(9,N (DM (xx 15))),(0,Pt x.b 0),(1,Z f),(2,s.v),(8,N nx)] (En (xx 14)++[])
    rw [e1,List.append_nil]
    generalize xx 14=y at e2 ⊢
    clear hx e1 xx vs2 Ms
    obtain ⟨q,t,bl,o⟩:=y
    cases o with
    | none=>cases e2
    | some st=>
    refine JE.next ?_
    obtain ⟨code,z2,recs2,vs2,sst⟩:=st
    have sst : Step x.z af vs (eP R f s.l) code z2 recs2 vs2:=by rw [hdP];exact sst
    have hokp : fV (eP R f s.l)=true:=by
      have h4 : (cS f).length=f.length+2:=by unfold cS;simp
      rw [hdP]
      unfold fV jU
      simp only [List.all_cons,List.all_nil,Bool.and_true,Bool.false_and,Bool.not_false,Bool.and_eq_true,decide_eq_true_eq,h4]
      omega
    have hbx:=Step.box (x:=x) sst hokp hdb hdo
    show JC _ _ _ _ _ _ [(9,N code),(0,Pt x.b 0),(1,Z f),(2,s.v),(8,N nx)] (Bz.mk x.b z2).E
    rcases hbx with ⟨h1,h2,h3⟩ | ⟨h1,h2,h3,h4⟩
    · subst h1
      repeat (first | refine JL.q (by first|(apply OQ.fQ (a:=0) (b:=0) (c:=true);rfl;rfl;rfl)|(apply OQ.move;rfl)) rfl ?_ | refine JC.seq ?_ | refine JC.region ?_ | refine JL.nil ?_ | refine JE.next ?_)
      refine JC.cond_false rfl rfl ?_
      repeat (first | refine JL.q (by first|(apply OQ.move;rfl)|(apply OQ.assign;rfl)) rfl ?_ | refine JC.seq ?_ | refine JC.region ?_ | refine JC.skip ?_ | refine JL.nil ?_ | refine JE.next ?_)
      exact JC.ret (JE.cw rfl (RV.tmp rfl) (RV.tmp rfl) fun w' hw=>⟨⟨0,nx,z2,recs2,vs2,R.aD f s.l,n+1,h3,sst.2.1,.inr ⟨hok,sst,.inl ⟨rfl,hnxe.symm,rfl,rfl⟩⟩⟩,rfl,hw⟩)
    · subst h1
      repeat (first | refine JL.q (by first|(apply OQ.fQ (a:=6) (b:=0) (c:=false);rfl;rfl;rfl)|(apply OQ.move;rfl)) rfl ?_ | refine JC.seq ?_ | refine JC.region ?_ | refine JL.nil ?_ | refine JE.next ?_)
      refine JC.cond_true rfl rfl ?_
      repeat (first | refine JL.q (by first|(apply OQ.move;rfl)|(apply OQ.assign;rfl)) rfl ?_ | refine JC.seq ?_ | refine JC.region ?_ | refine JL.nil ?_ | refine JE.next ?_)
      refine JC.ret ?_
      repeat (refine JE.aA ?_)
      exact JE.cw rfl (RV.tmp rfl) (RV.tmp rfl) fun w' hw=>⟨⟨6,0,z2,recs2,vs2,R,n,by rw [h2,h3,h4];exact k,sst.2.1,.inr ⟨hok,sst,.inr ⟨rfl,rfl,h2,h3,h4,rfl,rfl⟩⟩⟩,rfl,hw⟩
end
section
set_option maxRecDepth 10000
open Sl cY dy fI Bx
theorem BX {R : Rb} {n : Nat} (k : R.ok n) {a b : Ml} (ha : a ∈ R.ms) (hb : b ∈ R.ms) (hf : a.f=b.f) (hu : a.u=b.u) : a=b:=by
  have hr:=k.oX
  rcases List.mem_iff_getElem.1 ha with ⟨i,hi,rfl⟩
  rcases List.mem_iff_getElem.1 hb with ⟨j,hj,rfl⟩
  rcases Nat.lt_trichotomy i j with hij | hij | hij
  · have:=List.pairwise_iff_getElem.1 hr i j hi hj hij hf;omega
  · subst hij;rfl
  · have:=List.pairwise_iff_getElem.1 hr j i hj hi hij hf.symm;omega
theorem Ac {R : Rb} {n : Nat} (k : R.ok n) {m : Ml} (hm : m ∈ R.ms) : R.find m.f (m.u : Int)=some m:=by
  cases h : R.find m.f (m.u : Int) with
  | none=>
    unfold Rb.find at h
    have:=List.find?_eq_none.1 h m hm
    simp at this
  | some a=>
    obtain ⟨h1,h2,h3⟩:=dm h
    rw [BX k h1 hm h2 (by omega)]
theorem uz (A B C X : List ai) : (A++(B++(C++X))).Perm (X++(A++(B++C))):=by
  have:=List.perm_append_comm (l₁:=A++(B++C)) (l₂:=X)
  simpa only [List.append_assoc] using this
theorem C5 (b : ai) (A B C X : List ai) : (b::(X++(A++(B++C)))).Perm (B++(b::(A++(C++X)))):=
  ((((uz A B C X).symm.trans (List.perm_append_comm_assoc A B (C++X))).cons b)).trans List.perm_middle.symm
theorem JC.AR {P : Program} {n : Nat} {w0 : World} {S : List Nat} {Q : Exit→Act→World→Prop} {c : Code} {E : Env} {M M' : List ai} (h : JC P n w0 S Q c E M') (hp : M.Perm M') : JC P n w0 S Q c E M:=⟨fun a w ha hw=>h.go a w ha (hw.perm' hp)⟩
theorem C6 (Z O A B C : List ai) : (Z++(O++(A++(B++C)))).Perm (B++((Z++O)++(A++C))):=by
  have:=List.perm_append_comm_assoc (Z++(O++A)) B C
  simpa only [List.append_assoc] using this
theorem yp (c : Nat) : ∀ {l : List Pq},(∀ p ∈ l,sX p≤c)→iz l≤c * l.length
  | [],_=>by simp [iz]
  | p::l,h=>by
    have h1:=h p (by simp)
    have h2:=yp c (l:=l) fun q hq=>h q (by simp [hq])
    rw [eC,List.length_cons,Nat.mul_add,Nat.mul_one]
    omega
theorem yq : ∀ k : Fin 16,(BitVec.ofInt 64 ((k.val : Nat) : Int) &&& BitVec.ofInt 64 4).toNat=k.val / 4 % 2 * 4:=by decide +kernel
theorem OQ.yq {P : Program} {n : Nat} {E : Env} {C : World→Prop} {dst : Option Tmp} {t t' ty : TypeId} {pos : String} {aft : Array Edge} {g : Option (Nat × Bool)} {x y : Operand} {a : Nat} (ha : a<16) (hx : ev E x=some (N a)) (hy : ev E y=some (N 4)) : OQ P n E C ⟨dst,.binOp .and t x y t',ty,pos,aft,g⟩ (N (a / 4 % 2 * 4)):=
  OQ.bin hx hy rfl fun _=>jo (k:=.i64) (show IntKind.i64.wrap ((BitVec.ofInt 64 (a : Int) &&& BitVec.ofInt 64 4).toNat : Int)=((a / 4 % 2 * 4 : Nat) : Int) from by
    have:=Go.Proofs.YtmhlgnbdhnolaaaGreatDoor.yq ⟨a,ha⟩
    dsimp only at this
    rw [this]
    have h2 : a / 4 % 2<2:=Nat.mod_lt _ (by decide)
    have : a / 4 % 2 * 4=0∨a / 4 % 2 * 4=4:=by omega
    rcases this with h | h <;> rw [h] <;> rfl)
def jW (R : Rb) (f : Bk) : List Nat:=(R.ms.filter (goes f)).map Ml.u
def oD (f : Bk) (m : Ml) : aM:=⟨bg f (m.u : Int),bG,true⟩
structure BY (x : Bz) (af : List Bk) (vs : VL) (R : Rb) (n : Nat) (f : Bk) where
  code : Nat
  q : Acc
  l : List Nat
  hq : q=none→l=[]
  z' : Sz
  bh : List Bk
  vs' : VL
  R' : Rb
  ok : (Bz.mk x.b z').ok bh vs' R' n
  p : z'.p=x.z.p
  out : (jW R f=[]∧code=0∧l=[]∧z'=x.z∧bh=af∧vs'=vs∧R'=R)∨
    (jW R f≠[]∧Step x.z af vs (gz R f) code z' bh vs'∧((code=0∧l=jW R f∧R'=R.aX f)∨(code=6∧l=[]∧z'=x.z∧bh=af∧vs'=vs∧R'=R)))
structure Xl where
  i : Nat
  q1 : Acc
  q2 : Acc
theorem vS : aL Tryz.prog 15:=⟨_,Tryz.func15,rfl,by kernel_rfl⟩
set_option maxHeartbeats 32000000 in
theorem yt (x : Bz) (af : List Bk) (vs : VL) (R : Rb) (n : Nat) (k : x.ok af vs R n) (f : Bk) (hf : f.length<1000000000000000) (hn : R.ms.length≤40000) (w : World) (h0 : Holds w (keys x.E) x.E w) (hT : dS (keys x.E) w) :
    Calls Tryz.prog 15 [Pt x.b 0,Z f].toArray w fun e w'=>∃ r : BY x af vs R n f,e=.returned (.tuple #[ah r.q r.l.length,N r.code])∧Holds w (keys x.E) (aa 3 r.q (au r.l)++(Bz.mk x.b r.z').E) w':=by
  generalize keys x.E=S at h0 hT ⊢
  refine enter (n:=61) Tryz.func15 rfl rfl rfl h0 ?_
  repeat (first | refine JL.q (by first|(apply OQ.move;rfl)|(apply OQ.assign;rfl)) rfl ?_ | refine JC.seq ?_ | refine JC.region ?_ | refine JL.nil ?_ | refine JE.next ?_)
  refine JL.perm (M':=x.E++[]) ?_ (by rw [List.append_nil])
  refine JL.AQ (f:=f) k hf (by omega) rfl rfl rfl fun ql=>?_
  rw [List.append_nil]
  obtain ⟨ql,hql⟩:=ql
  dsimp only
  obtain ⟨FS,hFS⟩ : ∃ FS,(R.ms.filter fun m=>decide (m.f=f))=FS:=⟨_,rfl⟩
  have hL : R.list f=FS.map Ml.u:=by rw [← hFS];rfl
  have hFm : ∀ m ∈ FS,m ∈ R.ms∧m.f=f:=fun m hm=>by
    rw [← hFS] at hm
    have:=List.mem_filter.1 hm
    exact ⟨this.1,of_decide_eq_true this.2⟩
  have hFl : FS.length≤R.ms.length:=by rw [← hFS];exact List.length_filter_le _ _
  have hFg : FS.filter (goes f)=R.ms.filter (goes f):=by
    rw [← hFS,List.filter_filter]
    congr 1
    funext m
    unfold goes
    cases decide (m.f=f) <;> simp
  have hex : jW R f=(FS.filter (goes f)).map Ml.u:=by rw [hFg];rfl
  have hexP : gz R f=((FS.filter (goes f)).map (oD f)).map aM.p:=by rw [hFg,List.map_map];rfl
  rw [hL] at hql ⊢
  obtain ⟨C,hC⟩ : ∃ C,aa 3 ql (au (FS.map Ml.u))=C:=⟨_,rfl⟩
  obtain ⟨X,hX⟩ : ∃ X,x.E=X:=⟨_,rfl⟩
  have hCl : (FS.map Ml.u).length=FS.length:=List.length_map _
  rw [hC,hX,hCl]
  repeat (first | refine JL.q (by first|(apply OQ.iV (q:=ql) (k:=FS.length);exact Tryz.underlying35;exact (fun e=>by rw [← hCl,hql e];rfl);rfl)|(apply OQ.move;rfl)) rfl ?_ | refine JC.block ?_ | refine JL.nil ?_ | refine JE.next ?_)
  refine JC.loop (fun z : Xl=>[(0,Pt x.b 0),(1,Z f),(6,ah z.q1 ((FS.take z.i).filter (goes f)).length),(7,ah z.q2 ((FS.take z.i).filter (goes f)).length),(15,ah ql FS.length),(16,N FS.length),(17,N z.i)]) (fun z=>aY 78 3 z.q2 ((((FS.take z.i).filter (goes f)).map (oD f)).map aM.cs)++(aa 3 z.q1 (au (((FS.take z.i).filter (goes f)).map Ml.u))++(C++X))) (fun z=>FS.length - z.i) (fun z=>z.i≤FS.length∧(z.q1=none→(FS.take z.i).filter (goes f)=[])∧(z.q2=none→(FS.take z.i).filter (goes f)=[])) ⟨0,none,none⟩ ⟨Nat.zero_le _,fun _=>rfl,fun _=>rfl⟩ (by repeat (first | exact ag.nil | refine ag.cons _ _ _ rfl ?_)) (aj.refl _) ?_
  rintro ⟨i,q1,q2⟩ ⟨hi,hq1,hq2⟩
  dsimp only at hi hq1 hq2 ⊢
  repeat (first | refine JL.q (by (apply OQ.dX;rfl;rfl)) rfl ?_ | refine JC.seq ?_ | refine JC.region ?_ | refine JL.nil ?_ | refine JE.next ?_)
  refine JC.cond rfl (fun h=>?_) (fun h=>?_)
  · have hi' : i<FS.length:=by have:=of_decide_eq_true h;omega
    clear h
    cases ql with
    | none=>have:=hql rfl;rw [← hCl,this] at hi';cases hi'
    | some rl=>
    obtain ⟨m,hm⟩ : ∃ m,FS[i]?=some m:=⟨FS[i],List.getElem?_eq_getElem hi'⟩
    have hmF : m ∈ FS:=List.mem_of_getElem? hm
    obtain ⟨hmm,hmf⟩:=hFm m hmF
    have hfi : R.find f (m.u : Int)=some m:=by rw [← hmf];exact Ac k.r hmm
    have htk : (FS.take (i+1)).filter (goes f)=(FS.take i).filter (goes f)++(if goes f m then [m] else []):=by
      have e : FS.take (i+1)=FS.take i++[m]:=by
        rw [List.take_succ_eq_append_getElem hi']
        rw [List.getElem?_eq_getElem hi',Option.some.injEq] at hm
        rw [hm]
      rw [e,List.filter_append]
      congr 1
      by_cases hg : goes f m=true
      · rw [if_pos hg,List.filter_cons_of_pos hg];rfl
      · rw [if_neg hg,List.filter_cons_of_neg hg];rfl
    have hpl : ((FS.take i).filter (goes f)).length≤i:=by
      have:=List.length_filter_le (goes f) (FS.take i)
      rw [List.length_take] at this
      omega
    generalize hPE : (FS.take i).filter (goes f)=PE at htk hpl hq1 hq2 ⊢
    have hul : m.u<10 ^ 10:=k.r.mO hmm
    have hul2 : m.u<10000000000:=by omega
    have hfl:=k.r.fl m hmm
    have hzk : (au (FS.map Ml.u))[i]?=some (N m.u):=by unfold au;rw [List.getElem?_map,List.getElem?_map,hm];rfl
    have hcell:=Sl.Own.cell (e:=3) (sz:=1) (n:=(au (FS.map Ml.u)).length) (cap:=rl.2) hzk
    have hCC : C=[⟨rl.1,Sl.Own 3 1 (au (FS.map Ml.u)).length rl.2 (au (FS.map Ml.u)),true⟩]:=hC.symm
    have hH : Has (aY 78 3 q2 ((PE.map (oD f)).map aM.cs)++(aa 3 q1 (au (PE.map Ml.u))++(C++X))) rl.1 (Sl.Own 3 1 (au (FS.map Ml.u)).length rl.2 (au (FS.map Ml.u))) true:=aG (aG (by rw [hCC];exact .here))
    have hkv : ah (some rl) FS.length=.slice (some ⟨rl.1,0,none⟩) FS.length rl.2:=rfl
    have hcell0 : ∀ o,Sl.Own 3 1 (au (FS.map Ml.u)).length rl.2 (au (FS.map Ml.u)) o→cellAt o (0+i)=some (N m.u):=by rw [Nat.zero_add];exact hcell
    obtain ⟨A,hA⟩ : ∃ A,aY 78 3 q2 ((PE.map (oD f)).map aM.cs)=A:=⟨_,rfl⟩
    obtain ⟨B,hB⟩ : ∃ B,aa 3 q1 (au (PE.map Ml.u))=B:=⟨_,rfl⟩
    rw [hA,hB] at hH ⊢
    rw [hkv]
    repeat (first | refine JL.q (by first|(apply OQ.bD (i:=i) (b:=rl.1) (j:=0);exact Tryz.underlying35;exact nA;rfl;rfl;exact hi')|(apply OQ.load (v:=N m.u);exact bI;rfl;exact hH;exact hcell0)|(apply OQ.move;rfl)|(apply OQ.assign;rfl)) rfl ?_ | refine JC.seq ?_ | refine JC.region ?_ | refine JC.block ?_ | refine JC.skip ?_ | refine JL.nil ?_ | refine JE.next ?_)
    refine JL.perm (M':=x.E++(A++(B++C))) ?_ (by rw [hX];exact uz A B C X)
    refine JL.tj (f:=f) (u:=(m.u : Int)) k hf (by omega) (by omega) hT rfl rfl rfl rfl fun r=>?_
    rw [hfi,hX]
    obtain ⟨s,hs⟩ : ∃ s,vQ r m.b=s:=⟨_,rfl⟩
    show JL Tryz.prog _ _ _ _ _ _ ((25,.tuple #[.agg (cm m.u m.fl (vQ r m.b)).toArray,N 0])::_) (aa 5 (some r) (m.v.map U8)++(X++(A++(B++C))))
    rw [hs]
    repeat (refine JL.q (by first|(apply OQ.extract;rfl;rfl)|(apply OQ.move;rfl)) rfl ?_)
    refine JL.alloc Cj rfl fun b10 _=>?_
    refine JL.aq (cs:=cm m.u m.fl s) mU rfl rfl rfl rfl .here rfl ?_
    have hcf : ∀ o,Row 46 (cm m.u m.fl s) o→cellAt o 1=some (N m.fl):=Row.cell rfl
    have hgo : goes f m=!decide (((m.fl / 4 % 2 * 4 : Nat) : Int)=0):=by
      unfold goes
      rw [decide_eq_true hmf,Bool.true_and]
      have h2 : m.fl / 4 % 2<2:=Nat.mod_lt _ (by decide)
      by_cases h : m.fl / 4 % 2=1
      · rw [decide_eq_true h,decide_eq_false (by omega)];rfl
      · rw [decide_eq_false h,decide_eq_true (by omega)];rfl
    cases hg : decide (((m.fl / 4 % 2 * 4 : Nat) : Int)=0)
    · have hgo : goes f m=true:=by rw [hgo,hg];rfl
      rw [if_pos hgo] at htk
      repeat (first | refine JL.q (by first|(apply OQ.iC (a:=0) (b:=0) (c:=true);rfl;rfl;rfl)|(apply OQ.load (v:=N m.fl);exact bI;rfl;exact .here;exact hcf)|(apply OQ.yq;exact hfl;rfl;rfl)|(apply OQ.fQ (b:=0);rfl;rfl;exact hg)|(apply OQ.aS;rfl;rfl)|(apply OQ.move;rfl)|(apply OQ.assign;rfl)|(apply OQ.aV;rfl;rfl;rfl;exact (by decide);rfl)) rfl ?_ | refine JC.seq ?_ | refine JC.region ?_ | refine JL.nil ?_ | refine JE.next ?_ | refine JL.aB rfl rfl ?_)
      refine JC.cond_true rfl rfl ?_
      repeat (first | refine JL.q (by (apply OQ.move;rfl)) rfl ?_ | refine JC.seq ?_ | refine JC.region ?_)
      refine JL.less (M':=X++(A++(B++C))) (.drop _ _ _ (bP _ _)) ?_
      refine JL.gu (v:=N m.u) Tryz.underlying35 fm rfl rfl rfl rfl fun bl _=>?_
      refine JL.perm (M':=B++(⟨bl,Row 3 [N m.u],true⟩::(A++(C++X)))) ?_ (by exact C5 _ A B C X)
      rw [← hB]
      have hxl : (au (PE.map Ml.u)).length=PE.length:=by unfold au;rw [List.length_map,List.length_map]
      refine JL.bM (xs:=au (PE.map Ml.u)) (cs:=[N m.u]) (m:=1) (ad:=some ⟨bl,0,none⟩) (sc:=1) q1 Tryz.underlying35 fm (fun e=>by rw [hq1 e];rfl) (by rw [hxl];rfl) rfl rfl (fun w' hw'=>?_) (by simp [Value.oneCell']) rfl (by rw [hxl];omega) (by rw [hxl];omega) rfl fun q' hq'=>?_
      · obtain ⟨o,ho,hA⟩:=hw'.get (b:=bl) (A:=Row 3 [N m.u]) (wr:=true) (aG .here)
        exact Reads.block ho (Row.all o hA)
      have e2 : au (PE.map Ml.u)++[N m.u]=au ((PE++[m]).map Ml.u):=by unfold au;rw [List.map_append,List.map_append];rfl
      have e3 : (au (PE.map Ml.u)++[N m.u]).length=PE.length+1:=by rw [List.length_append,hxl];rfl
      rw [e3,e2]
      obtain ⟨B2,hB2⟩ : ∃ B2,aa 3 q' (au ((PE++[m]).map Ml.u))=B2:=⟨_,rfl⟩
      rw [hB2]
      refine JL.less (M':=B2++(A++(C++X))) (aE (.drop _ _ _ (aj.refl _)) _) ?_
      refine JL.perm (M':=A++(B2++(C++X))) ?_ (by exact List.perm_append_comm_assoc _ _ _)
      repeat (first | refine JL.q (by first|(apply OQ.aF (vs:=[Z f,cU m.u]);exact kD;rfl;exact (fun w' hw'=>mT f m.u hf (by omega) (by omega) w' (hT.holds hw')))|(apply OQ.zX (key:=bg f (m.u : Int)) (b:=true);rfl;rfl)|(apply OQ.move;rfl)|(apply OQ.assign;rfl)) rfl ?_ | refine JC.region ?_ | refine JL.nil ?_ | refine JE.next ?_)
      refine JL.pW (cs:=(oD f m).cs) Tryz.underlying81 AK rfl (by decide) (by decide) rfl rfl rfl fun bl2 _=>?_
      rw [← hA]
      have hal : ((PE.map (oD f)).map aM.cs).length=PE.length:=by rw [List.length_map,List.length_map]
      refine JL.fS (c:=(oD f m).cs) (L:=(PE.map (oD f)).map aM.cs) q2 Tryz.underlying81 AK (fun e=>by rw [hq2 e];rfl) (by rw [hal];rfl) rfl rfl (fun u hu=>List.all_eq_true.1 (aM.one _) u hu) rfl (by decide) (by rw [hal];omega) (by rw [hal];omega) rfl fun b2 cap2=>?_
      have e4 : ((PE.map (oD f)).map aM.cs++[(oD f m).cs]).length=PE.length+1:=by rw [List.length_append,hal];rfl
      have e5 : (PE.map (oD f)).map aM.cs++[(oD f m).cs]=((PE++[m]).map (oD f)).map aM.cs:=by rw [List.map_append,List.map_append];rfl
      have e6 : (PE++[m]).length=PE.length+1:=by rw [List.length_append];rfl
      rw [e4,e5,← hB2]
      repeat (first | refine JL.q (by first|(apply OQ.move;rfl)|(apply OQ.assign;rfl)|(apply OQ.addN;rfl;rfl;exact (by (try simp only []);omega))) rfl ?_ | refine JC.region ?_ | refine JL.nil ?_ | refine JE.next ?_ | refine JE.an ?_)
      rw [← hkv]
      refine JE.again (i:=Xl.mk i q1 q2) (Xl.mk (i+1) q' (some (b2,cap2))) ⟨hi',fun e=>absurd (hq' e) (by simp),nofun⟩ (by dsimp only;omega) ?_ ?_
      · dsimp only
        rw [htk,e6]
        exact (by repeat (first | exact ag.nil | refine ag.cons _ _ _ rfl ?_))
      · dsimp only
        rw [htk]
        exact aj.refl _
    · have hgo : goes f m=false:=by rw [hgo,hg];rfl
      rw [if_neg (by rw [hgo];decide),List.append_nil] at htk
      repeat (first | refine JL.q (by first|(apply OQ.iC (a:=0) (b:=0) (c:=true);rfl;rfl;rfl)|(apply OQ.load (v:=N m.fl);exact bI;rfl;exact .here;exact hcf)|(apply OQ.yq;exact hfl;rfl;rfl)|(apply OQ.fQ (b:=0);rfl;rfl;exact hg)|(apply OQ.aS;rfl;rfl)|(apply OQ.move;rfl)|(apply OQ.assign;rfl)|(apply OQ.aV;rfl;rfl;rfl;exact (by decide);rfl)) rfl ?_ | refine JC.seq ?_ | refine JC.region ?_ | refine JL.nil ?_ | refine JE.next ?_ | refine JL.aB rfl rfl ?_)
      refine JC.cond_false rfl rfl ?_
      refine JC.p7 (M':=X++(A++(B++C))) ?_ (.drop _ _ _ (bP _ _))
      refine JC.AR (M':=A++(B++(C++X))) ?_ (uz A B C X).symm
      repeat (first | refine JL.q (by first|(apply OQ.move;rfl)|(apply OQ.addN;rfl;rfl;exact (by (try simp only []);omega))) rfl ?_ | refine JC.region ?_ | refine JC.skip ?_ | refine JL.nil ?_ | refine JE.next ?_ | refine JE.an ?_)
      rw [← hkv]
      refine JE.again (i:=Xl.mk i q1 q2) (Xl.mk (i+1) q1 q2) ⟨hi',fun e=>by rw [htk];exact hq1 e,fun e=>by rw [htk];exact hq2 e⟩ (by dsimp only;omega) ?_ ?_
      · dsimp only
        rw [htk]
        exact (by repeat (first | exact ag.nil | refine ag.cons _ _ _ rfl ?_))
      · dsimp only
        rw [htk,hA,hB]
        exact aj.refl _
  · have hi' : i=FS.length:=by have:=of_decide_eq_false h;omega
    subst hi'
    rw [List.take_length] at hq1 hq2 ⊢
    have hPl : (FS.filter (goes f)).length≤40000:=by have:=List.length_filter_le (goes f) FS;omega
    generalize FS.filter (goes f)=PE at hFg hex hexP hPl hq1 hq2 ⊢
    obtain ⟨B,hB⟩ : ∃ B,aa 3 q1 (au (PE.map Ml.u))=B:=⟨_,rfl⟩
    cases PE with
    | nil=>
      rw [hB]
      repeat (first | refine JL.q (by first|(apply OQ.iV (q:=q1) (k:=0);exact Tryz.underlying35;exact (fun _=>rfl);rfl)|(apply OQ.iC (a:=0) (b:=0) (c:=true);rfl;rfl;rfl)|(apply OQ.move;rfl)) rfl ?_ | refine JC.seq ?_ | refine JC.region ?_ | refine JC.exit ?_ | refine JL.nil ?_ | refine JE.next ?_ | refine JE.aH ?_ | refine JE.aW ?_)
      refine JC.cond_true rfl rfl ?_
      repeat (first | refine JL.q (by (apply OQ.assign;rfl)) rfl ?_ | refine JC.seq ?_ | refine JC.region ?_ | refine JL.nil ?_ | refine JE.next ?_)
      refine JC.ret ?_
      repeat (refine JE.aA ?_)
      exact JE.cw rfl (RV.tmp rfl) (RV.tmp rfl) fun w' hw=>⟨⟨0,none,[],fun _=>rfl,x.z,af,vs,R,k,rfl,.inl ⟨hex,rfl,rfl,rfl,rfl,rfl,rfl⟩⟩,rfl,hw.weak (by show aj x.E _;rw [hX];exact av _ (av _ (bP _ _)))⟩
    | cons m0 PE0=>
    have hne : m0::PE0≠[]:=by simp
    have hex0 : jW R f≠[]:=by rw [hex];simp
    generalize m0::PE0=PE at hFg hex hexP hPl hq1 hq2 hne hB ⊢
    cases q2 with
    | none=>exact absurd (hq2 rfl) hne
    | some r2=>
    obtain ⟨A,hA⟩ : ∃ A,aY 78 3 (some r2) ((PE.map (oD f)).map aM.cs)=A:=⟨_,rfl⟩
    rw [hA,hB]
    have hpos : 0<PE.length:=List.length_pos_iff.2 hne
    have g0 : decide ((PE.length : Int)=0)=false:=decide_eq_false (by omega)
    have hHb : Has (A++(B++(C++X))) x.b (Row 76 [Pt x.z.p 0]) true:=by
      rw [← hX]
      exact aG (aG (aG (aG .here)))
    repeat (first | refine JL.q (by first|(apply OQ.iV (q:=q1) (k:=PE.length);exact Tryz.underlying35;exact (fun e=>by rw [hq1 e];rfl);rfl)|(apply OQ.iC (a:=(PE.length : Int)) (b:=0);rfl;rfl;exact g0)|(apply OQ.move;rfl)) rfl ?_ | refine JC.seq ?_ | refine JC.region ?_ | refine JC.exit ?_ | refine JL.nil ?_ | refine JE.next ?_ | refine JE.aH ?_ | refine JE.aW ?_)
    refine JC.cond_false rfl rfl ?_
    repeat (first | refine JL.q (by first|(apply OQ.load;exact Ck;rfl;exact hHb;exact (Row.cell (v:=Pt x.z.p 0) rfl))|(apply OQ.move;rfl)|(apply OQ.aO;rfl)|(apply OQ.aV;rfl;rfl;rfl;exact (by decide);rfl)) rfl ?_ | refine JC.seq ?_ | refine JC.region ?_ | refine JC.skip ?_ | refine JE.next ?_)
    refine JL.perm (M':=x.z.E++(x.own++(A++(B++C)))) ?_ ((uz A B C X).trans (List.Perm.of_eq (by rw [← hX];unfold Bz.E;rw [List.append_assoc])))
    have hsP : (ez.mk (some ⟨r2.1,0,none⟩) r2.2 (PE.map (oD f))).ps=gz R f:=hexP.symm
    have hmP : ∀ p ∈ gz R f,jU p=true∧sX p≤60:=fun p hp=>by
      unfold gz at hp
      obtain ⟨m,hm,rfl⟩:=List.mem_map.1 hp
      have hm:=List.mem_filter.1 hm
      have hmf : m.f=f:=by have:=hm.2;unfold goes at this;simp only [Bool.and_eq_true,decide_eq_true_eq] at this;exact this.1
      have h1:=gh (k.r.fold m hm.1) (k.r.mO hm.1)
      rw [hmf] at h1
      refine ⟨?_,?_⟩
      · unfold jU
        simp only [List.length_nil,Nat.lt_irrefl,decide_false,Bool.and_false,Bool.not_false,Bool.and_true,Bool.and_eq_true,decide_eq_true_eq]
        omega
      · unfold sX
        simp only [List.length_nil]
        omega
    have hokp : fV (gz R f)=true:=List.all_eq_true.2 fun p hp=>(hmP p hp).1
    have hszp : iz (gz R f)≤2500000:=by
      have h1:=yp 60 fun p hp=>(hmP p hp).2
      have h2 : (gz R f).length=PE.length:=by rw [hexP,List.length_map,List.length_map]
      rw [h2] at h1
      omega
    refine JL.BS (s:=⟨some ⟨r2.1,0,none⟩,r2.2,PE.map (oD f)⟩) k.z (by rw [hsP];exact hszp) (fun w' hw'=>?_) rfl (by show _=some (Value.slice _ (PE.map (oD f)).length _);rw [List.length_map];rfl) rfl fun st=>?_
    · have h1 : Holds w S (aY 78 3 (some r2) ((PE.map (oD f)).map aM.cs)++[]) w':=hw'.weak (by rw [List.append_nil,hA];exact av _ (av _ (ax _ _)))
      have hn : ∀ p ∈ PE.map (oD f),p.s=bG:=fun p hp=>by obtain ⟨m,_,rfl⟩:=List.mem_map.1 hp;rfl
      refine ⟨xY (q:=some r2) (l:=PE.map (oD f)) nofun h1 fun p hp=>by rw [hn p hp];exact fO w',fun _ a ea=>?_,fun p hp=>?_⟩
      · cases ea
        exact cr (b:=r2.1) hw' (.there (by rw [← hA];exact .here))
      · rw [hn p hp]
        intro _ a ea
        cases ea
    obtain ⟨code,z2,recs2,vs2,sst⟩:=st
    rw [hsP] at sst
    have hbx:=Step.box (x:=x) sst hokp (sU k.r k.v f) (sS k.r f)
    dsimp only
    refine JL.perm (M':=B++((z2.E++x.own)++(A++C))) ?_ (by exact C6 z2.E x.own A B C)
    have hEq : z2.E++x.own=(Bz.mk x.b z2).E:=by
      unfold Bz.E Bz.own
      rw [sst.2.1]
    rw [hEq]
    have hexl : (jW R f).length=PE.length:=by rw [hex,List.length_map]
    have hval : Ending.returned (.tuple #[ah q1 PE.length,N 0])=Ending.returned (.tuple #[ah q1 (jW R f).length,N 0]):=by rw [hexl]
    have hEnd : aj (aa 3 q1 (au (jW R f))++(Bz.mk x.b z2).E) (B++((Bz.mk x.b z2).E++(A++C))):=by
      rw [hex,hB]
      exact aE (ax _ _) _
    rcases hbx with ⟨h1,h2,h3⟩ | ⟨h1,h2,h3,h4⟩
    · subst h1
      repeat (first | refine JL.q (by first|(apply OQ.fQ (a:=0) (b:=0) (c:=true);rfl;rfl;rfl)|(apply OQ.move;rfl)|(apply OQ.assign;rfl)) rfl ?_ | refine JC.seq ?_ | refine JC.region ?_ | refine JL.nil ?_ | refine JE.next ?_)
      refine JC.cond_false rfl rfl ?_
      repeat (first | refine JL.q (by first|(apply OQ.move;rfl)|(apply OQ.assign;rfl)) rfl ?_ | refine JC.seq ?_ | refine JC.region ?_ | refine JC.skip ?_ | refine JL.nil ?_ | refine JE.next ?_)
      exact JC.ret (JE.cw rfl (RV.tmp rfl) (RV.tmp rfl) fun w' hw=>⟨⟨0,q1,jW R f,fun e=>by rw [hex,hq1 e];rfl,z2,recs2,vs2,R.aX f,h3,sst.2.1,.inr ⟨hex0,sst,.inl ⟨rfl,rfl,rfl⟩⟩⟩,hval,hw.weak hEnd⟩)
    · subst h1
      repeat (first | refine JL.q (by first|(apply OQ.fQ (a:=6) (b:=0) (c:=false);rfl;rfl;rfl)|(apply OQ.move;rfl)|(apply OQ.assign;rfl)) rfl ?_ | refine JC.seq ?_ | refine JC.region ?_ | refine JL.nil ?_ | refine JE.next ?_)
      refine JC.cond_true rfl rfl ?_
      repeat (first | refine JL.q (by first|(apply OQ.move;rfl)|(apply OQ.assign;rfl)) rfl ?_ | refine JC.seq ?_ | refine JC.region ?_ | refine JL.nil ?_ | refine JE.next ?_)
      refine JC.ret ?_
      repeat (refine JE.aA ?_)
      exact JE.cw rfl (RV.tmp rfl) (RV.tmp rfl) fun w' hw=>⟨⟨6,none,[],fun _=>rfl,z2,recs2,vs2,R,by rw [h2,h3,h4];exact k,sst.2.1,.inr ⟨hex0,sst,.inr ⟨rfl,rfl,h2,h3,h4,rfl⟩⟩⟩,rfl,hw.weak (by show aj (Bz.mk x.b z2).E _;exact av _ (ax _ _))⟩
end
section
set_option maxRecDepth 10000
open Sl cY dy fI Bx
theorem uG.ok.at {w : World} {s : uG} (h : s.ok w) {i : Nat} (hi : i<s.l.length) : ∃ b j,s.ad=some ⟨b,j,none⟩∧w.cell? ⟨b,j+i,none⟩=some (cU (s.l.getD i 0)):=by
  obtain ⟨b,j,e,c⟩:=h.reads.at (by rw [List.length_map];omega)
  refine ⟨b,j,e,c i _ ?_⟩
  rw [List.getElem?_map,List.getD_eq_getElem?_getD,List.getElem?_eq_getElem hi]
  rfl
theorem Ad {a b : List Int} {i : Nat} (hi : i<a.length) (hi2 : i<b.length) (ht : a.take i=b.take i) (h : a.getD i 0=b.getD i 0) : a.take (i+1)=b.take (i+1):=by
  rw [List.getD_eq_getElem?_getD,List.getElem?_eq_getElem hi,List.getD_eq_getElem?_getD,List.getElem?_eq_getElem hi2] at h
  rw [List.take_succ_eq_append_getElem hi,List.take_succ_eq_append_getElem hi2,ht]
  exact congrArg (b.take i++[·]) h
theorem mW : aL Tryz.prog 17:=⟨_,Tryz.func17,rfl,by kernel_rfl⟩
set_option maxHeartbeats 8000000 in
theorem pq (a b : uG) (w : World) (ha : a.ok w) (hb : b.ok w) (hl : a.l.length<9223372036854775808) (hl2 : b.l.length<9223372036854775808) : Calls Tryz.prog 17 [a.v,b.v].toArray w fun e w'=>e=.returned (.bool (decide (a.l=b.l)))∧Ext w w':=by
  refine enter (n:=26) Tryz.func17 rfl rfl rfl (Holds.start w []) ?_
  cases h0 : decide ((a.l.length : Int)=(b.l.length : Int))
  · rw [show decide (a.l=b.l)=false from decide_eq_false fun h=>of_decide_eq_false h0 (by rw [h])]
    repeat (first | refine JL.q (by first|(apply OQ.len;exact Tryz.underlying35;rfl)|(apply OQ.fQ;rfl;rfl;exact h0)|(apply OQ.move;rfl)|(apply OQ.assign;rfl)) rfl ?_ | refine JC.seq ?_ | refine JC.region ?_ | refine JL.nil ?_ | refine JE.next ?_)
    refine JC.cond rfl (fun _=>?_) (fun h=>by cases h)
    repeat (first | refine JL.q (by (apply OQ.assign;rfl)) rfl ?_ | refine JC.seq ?_ | refine JC.region ?_ | refine JL.nil ?_ | refine JE.next ?_)
    refine JC.ret ?_
    repeat (refine JE.aA ?_)
    exact JE.aR rfl (RV.tmp rfl) fun w' hw=>⟨rfl,hw.bf⟩
  · have hab : a.l.length=b.l.length:=by have:=of_decide_eq_true h0;omega
    repeat (first | refine JL.q (by first|(apply OQ.len;exact Tryz.underlying35;rfl)|(apply OQ.fQ;rfl;rfl;exact h0)|(apply OQ.move;rfl)|(apply OQ.assign;rfl)) rfl ?_ | refine JC.seq ?_ | refine JC.region ?_ | refine JL.nil ?_ | refine JE.next ?_)
    refine JC.cond rfl (fun h=>by cases h) (fun _=>?_)
    repeat (first | refine JL.q (by (apply OQ.assign;rfl)) rfl ?_ | refine JC.seq ?_ | refine JC.region ?_ | refine JC.block ?_ | refine JC.skip ?_ | refine JL.nil ?_ | refine JE.next ?_)
    refine JC.loop (fun i : Nat=>[(0,a.v),(1,b.v),(5,N i)]) (fun _=>[]) (fun i=>a.l.length - i) (fun i=>i≤a.l.length∧a.l.take i=b.l.take i) 0 ⟨Nat.zero_le _,rfl⟩ (by repeat (first | exact ag.nil | refine ag.cons _ _ _ rfl ?_)) (aj.refl _) ?_
    rintro i ⟨hi,ht⟩
    repeat (first | refine JL.q (by first|(apply OQ.len;exact Tryz.underlying35;rfl)|(apply OQ.move;rfl)|(apply OQ.dX;rfl;rfl)) rfl ?_ | refine JC.seq ?_ | refine JC.region ?_ | refine JL.nil ?_ | refine JE.next ?_)
    refine JC.cond rfl (fun h=>?_) (fun h=>?_)
    · have hi' : i<a.l.length:=by have:=of_decide_eq_true h;omega
      have hi2 : i<b.l.length:=by omega
      clear h hi
      have hx:=Ad hi' hi2 ht
      have hbad : ¬ a.l.getD i 0=b.l.getD i 0→¬ a.l=b.l:=fun h e=>h (by rw [e])
      obtain ⟨ba,ja,eA,cA⟩:=ha.at hi'
      obtain ⟨bb,jb,eB,cB⟩:=hb.at hi2
      have vA : a.v=.slice (some ⟨ba,ja,none⟩) a.l.length a.cap:=by rw [← eA];rfl
      have vB : b.v=.slice (some ⟨bb,jb,none⟩) b.l.length b.cap:=by rw [← eB];rfl
      generalize a.l.getD i 0=p at hx hbad cA
      generalize b.l.getD i 0=q at hx hbad cB
      cases h1 : decide (p=q)
      · rw [show decide (a.l=b.l)=false from decide_eq_false (hbad (of_decide_eq_false h1)),vA,vB]
        repeat (first | refine JC.seq ?_ | refine JC.block ?_ | refine JC.skip ?_ | refine JE.next ?_)
        refine JC.quiet bZ (by kernel_rfl) ?_
        repeat (first | refine JQ.q (by first|(apply OQ.bD (i:=i) (b:=ba) (j:=ja);exact Tryz.underlying35;exact nA;rfl;rfl;exact hi')|(apply OQ.bD (i:=i) (b:=bb) (j:=jb);exact Tryz.underlying35;exact nA;rfl;rfl;exact hi2)|(apply OQ.bJ;exact bI;rfl;exact (block_lt_of_cell cA);exact (by simp);exact cA)|(apply OQ.bJ;exact bI;rfl;exact (block_lt_of_cell cB);exact (by simp);exact cB)|(apply OQ.fQ;rfl;rfl;exact h1)|(apply OQ.move;rfl)) rfl ?_ | refine JQ.nil ?_ | refine JE.next ?_)
        refine JC.cond rfl (fun _=>?_) (fun h=>by cases h)
        repeat (first | refine JL.q (by (apply OQ.assign;rfl)) rfl ?_ | refine JC.seq ?_ | refine JC.region ?_ | refine JL.nil ?_ | refine JE.next ?_)
        refine JC.ret ?_
        repeat (first | refine JE.aA ?_ | refine JE.bV ?_)
        exact JE.aR rfl (RV.tmp rfl) fun w' hw=>⟨rfl,hw.bf⟩
      · rw [vA,vB]
        repeat (first | refine JC.seq ?_ | refine JC.block ?_ | refine JC.skip ?_ | refine JE.next ?_)
        refine JC.quiet bZ (by kernel_rfl) ?_
        repeat (first | refine JQ.q (by first|(apply OQ.bD (i:=i) (b:=ba) (j:=ja);exact Tryz.underlying35;exact nA;rfl;rfl;exact hi')|(apply OQ.bD (i:=i) (b:=bb) (j:=jb);exact Tryz.underlying35;exact nA;rfl;rfl;exact hi2)|(apply OQ.bJ;exact bI;rfl;exact (block_lt_of_cell cA);exact (by simp);exact cA)|(apply OQ.bJ;exact bI;rfl;exact (block_lt_of_cell cB);exact (by simp);exact cB)|(apply OQ.fQ;rfl;rfl;exact h1)|(apply OQ.move;rfl)) rfl ?_ | refine JQ.nil ?_ | refine JE.next ?_)
        refine JC.cond rfl (fun h=>by cases h) (fun _=>?_)
        repeat (first | refine JL.q (by first|(apply OQ.move;rfl)|(apply OQ.assign;rfl)|(apply OQ.addN;rfl;rfl;exact (by (try simp only []);omega))) rfl ?_ | refine JC.region ?_ | refine JC.skip ?_ | refine JL.nil ?_ | refine JE.next ?_ | refine JE.an ?_)
        rw [← vA,← vB]
        exact JE.again (i:=i) (i+1) ⟨hi',hx (of_decide_eq_true h1)⟩ (by omega) (by repeat (first | exact ag.nil | refine ag.cons _ _ _ rfl ?_)) (aj.refl _)
    · have hi' : i=a.l.length:=by have:=of_decide_eq_false h;omega
      subst hi'
      rw [List.take_length,hab,List.take_length] at ht
      rw [show decide (a.l=b.l)=true from decide_eq_true ht]
      repeat (first | refine JL.q (by (apply OQ.assign;rfl)) rfl ?_ | refine JC.seq ?_ | refine JC.region ?_ | refine JC.exit ?_ | refine JL.nil ?_ | refine JE.next ?_ | refine JE.aH ?_ | refine JE.aW ?_)
      exact JC.ret (JE.aR rfl (RV.tmp rfl) fun w' hw=>⟨rfl,hw.bf⟩)
def cV (q : Acc) (L : List Nat) : uG:=match q with
  | none=>⟨none,0,[]⟩
  | some p=>⟨some ⟨p.1,0,none⟩,p.2,L.map fun u=>((u : Nat) : Int)⟩
theorem mX {q : Acc} {L : List Nat} (h : q=none→L=[]) : (cV q L).v=ah q L.length:=by
  cases q with
  | none=>rw [h rfl];rfl
  | some p=>
    show Value.slice (some ⟨p.1,0,none⟩) (L.map fun u=>((u : Nat) : Int)).length p.2=Value.slice (some ⟨p.1,0,none⟩) L.length p.2
    rw [List.length_map]
theorem hU {q : Acc} {L : List Nat} (h : q=none→L=[]) : (cV q L).l=L.map fun u=>((u : Nat) : Int):=by
  cases q with
  | none=>rw [h rfl];rfl
  | some p=>rfl
theorem jR {w0 w : World} {S : List Nat} {M : List ai} {q : Acc} {L : List Nat} (hw : Holds w0 S (aa 3 q (au L)++M) w) : (cV q L).ok w:=by
  cases q with
  | none=>exact ⟨Nat.le_refl _,Reads.nil _ _⟩
  | some p=>
    have hw : Holds w0 S (⟨p.1,Sl.Own 3 1 (au L).length p.2 (au L),true⟩::M) w:=hw
    obtain ⟨o,ho,hA⟩:=hw.get .here
    have hl : (au L).length=L.length:=List.length_map _
    refine ⟨?_,?_⟩
    · show (L.map _).length≤p.2
      rw [List.length_map,← hl]
      obtain ⟨sp,_,_,_,h⟩:=hA
      exact h
    · have e : (L.map fun u=>((u : Nat) : Int)).map (fun i=>Value.int .i64 i)=au L:=by rw [List.map_map];rfl
      show Reads w _ ((L.map fun u=>((u : Nat) : Int)).map fun i=>Value.int .i64 i)
      rw [e]
      exact Reads.block ho (Sl.Own.cells o hA)
theorem uA {q q2 : Acc} {L L2 : List Nat} (h : q=none→L=[]) (h2 : q2=none→L2=[]) : decide ((cV q L).l=(cV q2 L2).l)=decide (L=L2):=by
  rw [hU h,hU h2]
  refine decide_eq_decide.2 ⟨fun e=>?_,fun e=>by rw [e]⟩
  have hj : Function.Injective fun u : Nat=>(u : Int):=fun a b h=>by have : ((a : Nat) : Int)=(b : Int):=h;omega
  exact (List.map_inj_right fun a b h=>hj h).1 e
end
section
set_option maxRecDepth 10000
open Sl cY dy fI Bx
section
variable {n : Nat} {w0 : World} {S : List Nat} {ops : Array Oper} {Q : Exit→Act→World→Prop} {l : List Oper} {E : Env} {M : List ai}
variable {d : Nat} {ty : TypeId} {pos : String} {aft : Array Edge} {x1 x2 x3 x4 : Operand} {ats : Array TypeId} {x : Bz} {af : List Bk} {vs : VL} {R : Rb} {nd : Nat} {f : Bk} {u fl : Int} {s : aC}
theorem JL.mY (k : x.ok af vs R nd) (hn : nd+1≤1000000) (hf : f.length<1000000000000000) (hl : s.l.length≤2000000) (hT : dS S w0) (hs : ∀ w,Holds w0 S (x.E++M) w→s.ok w∧gw s (keys x.E)) (e1 : ev E x1=some (Pt x.b 0)) (e2 : ev E x2=some (Z f)) (e3 : ev E x3=some s.v) (hd : Nat.blt d n=true)
    (kk : ∀ r : nB x af vs R nd f s.l,JL Tryz.prog n w0 S ops Q l ((d,.tuple #[N r.uid,N r.code])::E) ((Bz.mk x.b r.z').E++M)) : JL Tryz.prog n w0 S ops Q (⟨some d,.call ⟨.value (.func 11),#[x1,x2,x3],ats⟩,ty,pos,aft,none⟩::l) E (x.E++M):=
  JL.bE (ι:=nB x af vs R nd f s.l) (xs:=[x1,x2,x3]) (vs:=[Pt x.b 0,Z f,s.v]) (fun r=>.tuple #[N r.uid,N r.code]) (fun r=>(Bz.mk x.b r.z').E) nC (by simp [gr,e1,e2,e3]) hd x.wr (fun r=>Bz.wr _)
    (fun w h0 hw=>pn x af vs R nd k hn f s hf hl w hw (hT.keys x.wr h0) (hs w h0).1 (hs w h0).2) kk
theorem JL.AS (k : x.ok af vs R nd) (hf : f.length<1000000000000000) (hu0 : -9223372036854775808≤u) (hu1 : u≤9223372036854775807) (hz : ∀ m ∈ R.ms,m.b.length≤2000000) (hT : dS S w0) (e1 : ev E x1=some (Pt x.b 0)) (e2 : ev E x2=some (Z f)) (e3 : ev E x3=some (cU u)) (e4 : ev E x4=some (cU fl)) (hd : Nat.blt d n=true)
    (kk : ∀ r : Ab x af vs R nd f u fl,JL Tryz.prog n w0 S ops Q l ((d,N r.code)::E) ((Bz.mk x.b r.z').E++M)) : JL Tryz.prog n w0 S ops Q (⟨some d,.call ⟨.value (.func 13),#[x1,x2,x3,x4],ats⟩,ty,pos,aft,none⟩::l) E (x.E++M):=
  JL.bE (ι:=Ab x af vs R nd f u fl) (xs:=[x1,x2,x3,x4]) (vs:=[Pt x.b 0,Z f,cU u,cU fl]) (fun r=>N r.code) (fun r=>(Bz.mk x.b r.z').E) tn (by simp [gr,e1,e2,e3,e4]) hd x.wr (fun r=>Bz.wr _)
    (fun w h0 hw=>vR x af vs R nd k f u fl hf hu0 hu1 (fun m hm=>by have:=hz m hm;omega) hz w hw (hT.keys x.wr h0)) kk
theorem JL.C7 (k : x.ok af vs R nd) (hf : f.length<1000000000000000) (hn : R.ms.length≤40000) (hT : dS S w0) (e1 : ev E x1=some (Pt x.b 0)) (e2 : ev E x2=some (Z f)) (hd : Nat.blt d n=true)
    (kk : ∀ r : BY x af vs R nd f,JL Tryz.prog n w0 S ops Q l ((d,.tuple #[ah r.q r.l.length,N r.code])::E) (aa 3 r.q (au r.l)++((Bz.mk x.b r.z').E++M))) : JL Tryz.prog n w0 S ops Q (⟨some d,.call ⟨.value (.func 15),#[x1,x2],ats⟩,ty,pos,aft,none⟩::l) E (x.E++M):=
  JL.bE (ι:=BY x af vs R nd f) (xs:=[x1,x2]) (vs:=[Pt x.b 0,Z f]) (fun r=>.tuple #[ah r.q r.l.length,N r.code]) (fun r=>aa 3 r.q (au r.l)++(Bz.mk x.b r.z').E) vS (by simp [gr,e1,e2]) hd x.wr
    (fun r e he=>(List.mem_append.1 he).elim (aP _ _ _ e) (Bz.wr _ e)) (fun w h0 hw=>yt x af vs R nd k f hf hn w hw (hT.keys x.wr h0)) fun r=>by rw [List.append_assoc];exact kk r
end
abbrev BZ (x : Dp) (bl : List Bk) (ls : List Pq):={b : Bz // b.z.ok (bz bl).2.2 (cy [] ls)∧b.z.h=jD x bl∧b.z.bl=jC bl}
theorem iQ : aL Tryz.prog 18:=⟨_,Tryz.func18,rfl,by kernel_rfl⟩
set_option maxHeartbeats 4000000 in
theorem jS (x : Dp) (bl : List Bk) (ls : List Pq) (hd : bB x bl []) (hno : bY bl=0) (ho : aU (bz bl).2.2=some ls) (w : World) (h0 : Holds w (keys (cg x bl [])) (cg x bl []) w) :
    Calls Tryz.prog 18 [Pt x.p 0].toArray w fun e w'=>∃ y : BZ x bl ls,e=.returned (Pt y.1.b 0)∧Holds w (keys (cg x bl [])) y.1.E w':=by
  generalize keys (cg x bl [])=S at h0 ⊢
  refine enter (n:=18) Tryz.func18 rfl rfl rfl h0 ?_
  repeat (first | refine JL.q (by first|(apply OQ.move;rfl)|(apply OQ.assign;rfl)) rfl ?_ | refine JC.seq ?_ | refine JC.region ?_ | refine JL.nil ?_ | refine JE.next ?_)
  refine JL.perm (M':=cg x bl []++[]) ?_ (by rw [List.append_nil])
  refine JL.C3 hd hno ho rfl rfl fun z=>?_
  obtain ⟨z,k,hh,hbl⟩:=z
  dsimp only
  rw [List.append_nil]
  repeat (first | refine JL.q (by first|(apply OQ.extract;rfl;rfl)|(apply OQ.fQ (a:=0) (b:=0) (c:=true);rfl;rfl;rfl)|(apply OQ.lU;exact Tryz.underlying61;rfl;rfl)|(apply OQ.aJ;rfl;rfl)|(apply OQ.move;rfl)|(apply OQ.assign;rfl)) rfl ?_ | refine JC.seq ?_ | refine JC.region ?_ | refine JL.nil ?_ | refine JE.next ?_ | refine JL.aB rfl rfl ?_)
  refine JC.cond_false rfl rfl ?_
  repeat (first | refine JL.q (by (apply OQ.move;rfl)) rfl ?_ | refine JC.seq ?_ | refine JC.region ?_ | refine JC.skip ?_ | refine JE.next ?_)
  refine JL.bA (ι:=Nat) (vs:=[Pt z.p 0]) (fun b=>Pt b 0) (fun b=>[⟨b,Row 76 [Pt z.p 0],true⟩]) vM rfl rfl (fun b e he=>by rw [List.mem_singleton] at he;subst he;rfl) (fun w' _=>yc z.p w') fun b=>?_
  repeat (first | refine JL.q (by (apply OQ.assign;rfl)) rfl ?_ | refine JL.nil ?_ | refine JE.next ?_)
  refine JC.ret (JE.aR rfl (RV.tmp rfl) fun w' hw=>⟨⟨⟨b,z⟩,k,hh,hbl⟩,rfl,hw.perm' ?_⟩)
  exact List.perm_append_comm (l₁:=[_])
theorem kT : aL Tryz.prog 6:=⟨_,Tryz.func6,rfl,by kernel_rfl⟩
structure B0 (size : Nat) where
  x : Dp
  b : Bz
  dk : bB x (dh size) []
  ok : b.ok (bz (dh size)).2.2 [] Rb.zero 0
  h : b.z.h=jD x (dh size)
  bl : b.z.bl=jC (dh size)
set_option maxHeartbeats 4000000 in
theorem mZ (size : Nat) (h4 : 4≤size) (h6 : size≤65536) (w : World) :
    Calls Tryz.prog 6 [N size].toArray w fun e w'=>∃ y : B0 size,e=.returned (.tuple #[Pt y.x.p 0,Pt y.b.b 0])∧Holds w [] y.b.E w':=by
  refine enter (n:=20) Tryz.func6 rfl rfl rfl (Holds.start w []) ?_
  repeat (first | refine JL.q (by first|(apply OQ.move;rfl)|(apply OQ.assign;rfl)) rfl ?_ | refine JC.seq ?_ | refine JC.region ?_ | refine JL.nil ?_ | refine JE.next ?_)
  refine JL.DB (k:=size) (by omega) h6 rfl rfl fun x hx=>?_
  repeat (first | refine JL.q (by first|(apply OQ.extract;rfl;rfl)|(apply OQ.fQ (a:=0) (b:=0) (c:=true);rfl;rfl;rfl)|(apply OQ.lU;exact Tryz.underlying27;rfl;rfl)|(apply OQ.aJ;rfl;rfl)|(apply OQ.move;rfl)|(apply OQ.assign;rfl)) rfl ?_ | refine JC.seq ?_ | refine JC.region ?_ | refine JL.nil ?_ | refine JE.next ?_ | refine JL.aB rfl rfl ?_)
  refine JC.cond_false rfl rfl ?_
  repeat (first | refine JL.q (by (apply OQ.move;rfl)) rfl ?_ | refine JC.seq ?_ | refine JC.region ?_ | refine JC.skip ?_ | refine JE.next ?_)
  refine JL.bE (ι:=BZ x (dh size) []) (xs:=[.tmp 18]) (vs:=[Pt x.p 0]) (X:=cg x (dh size) []) (M0:=[]) (fun y=>Pt y.1.b 0) (fun y=>y.1.E) iQ rfl rfl (cl _ _ _) (fun y=>Bz.wr _) (fun w' _ hw=>jS x (dh size) [] hx (zm h4) (x8 size) w' hw) fun y=>?_
  obtain ⟨y,h1,h2,h3⟩:=y
  dsimp only
  rw [List.append_nil]
  repeat (first | refine JL.q (by (apply OQ.assign;rfl)) rfl ?_ | refine JL.nil ?_ | refine JE.next ?_)
  exact JC.ret (JE.cw rfl (RV.tmp rfl) (RV.tmp rfl) fun w' hw=>⟨⟨x,y,hx,⟨h1,zN,zM⟩,h2,h3⟩,rfl,hw⟩)
end
section
set_option maxRecDepth 10000
open Sl cY dy fI Bx
structure Rx where
  p : Nat
  qi : Acc
  qm : Acc
  qn : Acc
  qx : Acc
  ss : List aC
def Rx.ms (z : Rx) (R : Rb) : List (List Value):=List.zipWith (fun (m : Ml) s=>cm m.u m.fl s) R.ms z.ss
def Rx.cs (z : Rx) (R : Rb) : List Value:=[ah z.qi R.ms.length,ah z.qm R.ms.length,ah z.qn R.nx.length,ah z.qx R.nx.length]
def Rx.E (z : Rx) (R : Rb) : List ai:=
  ⟨z.p,Row 37 (z.cs R),true⟩::(aa 9 z.qi (R.ms.map fun m=>Z m.f)++(aY 46 3 z.qm (z.ms R)++(aa 9 z.qn (R.nx.map fun x=>Z x.1)++(aa 3 z.qx (R.nx.map fun x=>N x.2)++ay z.ss))))
structure Rx.ok (z : Rx) (R : Rb) : Prop where
  ss : z.ss.map aC.l=R.ms.map Ml.b
  h0 : ∀ s ∈ z.ss,s.ad=none→s.l=[]
  qi : z.qi=none→R.ms=[]
  qm : z.qm=none→R.ms=[]
  qn : z.qn=none→R.nx=[]
  qx : z.qx=none→R.nx=[]
theorem pz : dP Tryz.prog 33=true:=by kernel_rfl
theorem DN : dP Tryz.prog 35=true:=by kernel_rfl
theorem Ae {R : Rb} {f : Bk} {i : Nat} {x : Bk × Nat} (hi : R.nx[i]?=some x) (h : ∀ y ∈ R.nx.take i,y.1≠f) (hx : x.1=f) : R.next f=x.2:=by
  have hl:=(List.getElem?_eq_some_iff.1 hi).1
  have e : R.nx=R.nx.take i++(x::R.nx.drop (i+1)):=by
    conv=>lhs;rw [← List.take_append_drop i R.nx,List.drop_eq_getElem_cons hl]
    rw [List.getElem?_eq_getElem hl,Option.some.injEq] at hi
    rw [hi]
  unfold Rb.next Rb.next?
  rw [e,List.find?_append,List.find?_eq_none.2 fun y hy=>by simpa using h y hy,Option.none_or,List.find?_cons,decide_eq_true hx]
  rfl
theorem Af {R : Rb} {f : Bk} (h : ∀ y ∈ R.nx,y.1≠f) : R.next f=1:=by
  unfold Rb.next Rb.next?
  rw [List.find?_eq_none.2 fun y hy=>by simpa using h y hy]
  rfl
theorem rz : aL Tryz.prog 10:=⟨_,Tryz.func10,rfl,by kernel_rfl⟩
set_option maxHeartbeats 8000000 in
theorem tq (z : Rx) (R : Rb) (k : z.ok R) (f : Bk) (hn : R.nx.length≤1000000) (w : World) (h0 : Holds w (keys (z.E R)) (z.E R) w) :
    Calls Tryz.prog 10 [Pt z.p 0,Z f].toArray w fun e w'=>e=.returned (N (R.next f))∧Holds w (keys (z.E R)) (z.E R) w':=by
  generalize keys (z.E R)=S at h0 ⊢
  refine enter (n:=31) Tryz.func10 rfl rfl rfl h0 ?_
  have hc2 : ∀ o,Row 37 (z.cs R) o→cellAt o 2=some (ah z.qn R.nx.length):=Row.cell rfl
  have hc3 : ∀ o,Row 37 (z.cs R) o→cellAt o 3=some (ah z.qx R.nx.length):=Row.cell rfl
  repeat (first | refine JL.q (by (apply OQ.assign;rfl)) rfl ?_ | refine JC.seq ?_ | refine JC.region ?_ | refine JC.block ?_ | refine JL.nil ?_ | refine JE.next ?_)
  refine JC.loop (fun i : Nat=>[(0,Pt z.p 0),(1,Z f),(5,N i)]) (fun _=>z.E R) (fun i=>R.nx.length - i) (fun i=>i≤R.nx.length∧∀ y ∈ R.nx.take i,y.1≠f) 0 ⟨Nat.zero_le _,by simp⟩ (by repeat (first | exact ag.nil | refine ag.cons _ _ _ rfl ?_)) (aj.refl _) ?_
  rintro i ⟨hi,hno⟩
  unfold Rx.E
  repeat (first | refine JL.q (by first|(apply OQ.load;exact pz;rfl;exact .here;exact hc2)|(apply OQ.iV (q:=z.qn) (k:=R.nx.length);exact Tryz.underlying33;exact (fun e=>by rw [k.qn e];rfl);rfl)|(apply OQ.move;rfl)|(apply OQ.aO;rfl)|(apply OQ.dX;rfl;rfl)|(apply OQ.aV;rfl;rfl;rfl;exact (by decide);rfl)) rfl ?_ | refine JC.seq ?_ | refine JC.region ?_ | refine JL.nil ?_ | refine JE.next ?_)
  refine JC.cond rfl (fun h=>?_) (fun h=>?_)
  · have hi' : i<R.nx.length:=by have:=of_decide_eq_true h;omega
    clear h
    obtain ⟨x,hx⟩ : ∃ x,R.nx[i]?=some x:=⟨R.nx[i],List.getElem?_eq_getElem hi'⟩
    obtain ⟨rn,hrn⟩ : ∃ r,z.qn=some r:=by cases h : z.qn with | none=>rw [k.qn h] at hi';cases hi' | some r=>exact ⟨r,rfl⟩
    obtain ⟨rx,hrx⟩ : ∃ r,z.qx=some r:=by cases h : z.qx with | none=>rw [k.qx h] at hi';cases hi' | some r=>exact ⟨r,rfl⟩
    have hz1 : (R.nx.map fun x=>Z x.1)[i]?=some (Z x.1):=by rw [List.getElem?_map,hx];rfl
    have hz2 : (R.nx.map fun x=>N x.2)[i]?=some (N x.2):=by rw [List.getElem?_map,hx];rfl
    have hk1 : ∀ o,Sl.Own 9 1 (R.nx.map fun x=>Z x.1).length rn.2 (R.nx.map fun x=>Z x.1) o→cellAt o (0+i)=some (Z x.1):=by rw [Nat.zero_add];exact Sl.Own.cell hz1
    have hk2 : ∀ o,Sl.Own 3 1 (R.nx.map fun x=>N x.2).length rx.2 (R.nx.map fun x=>N x.2) o→cellAt o (0+i)=some (N x.2):=by rw [Nat.zero_add];exact Sl.Own.cell hz2
    rw [hrn] at hc2
    rw [hrx] at hc3
    have hH1 : Has (⟨z.p,Row 37 (z.cs R),true⟩::(aa 9 z.qi (R.ms.map fun m=>Z m.f)++(aY 46 3 z.qm (z.ms R)++(aa 9 z.qn (R.nx.map fun x=>Z x.1)++(aa 3 z.qx (R.nx.map fun x=>N x.2)++ay z.ss))))) rn.1 (Sl.Own 9 1 (R.nx.map fun x=>Z x.1).length rn.2 (R.nx.map fun x=>Z x.1)) true:=.there (aG (aG (by rw [hrn];exact .here)))
    have hH2 : Has (⟨z.p,Row 37 (z.cs R),true⟩::(aa 9 z.qi (R.ms.map fun m=>Z m.f)++(aY 46 3 z.qm (z.ms R)++(aa 9 z.qn (R.nx.map fun x=>Z x.1)++(aa 3 z.qx (R.nx.map fun x=>N x.2)++ay z.ss))))) rx.1 (Sl.Own 3 1 (R.nx.map fun x=>N x.2).length rx.2 (R.nx.map fun x=>N x.2)) true:=.there (aG (aG (aG (by rw [hrx];exact .here))))
    cases hg : decide (x.1=f)
    · repeat (first | refine JL.q (by first|(apply OQ.load;exact pz;rfl;exact .here;exact hc2)|(apply OQ.bD (i:=i) (b:=rn.1) (j:=0);exact Tryz.underlying33;exact iE;rfl;rfl;exact hi')|(apply OQ.load;exact eE;rfl;exact hH1;exact hk1)|(apply OQ.lS;rfl;rfl;exact hg)|(apply OQ.move;rfl)|(apply OQ.aO;rfl)|(apply OQ.aV;rfl;rfl;rfl;exact (by decide);rfl)) rfl ?_ | refine JC.seq ?_ | refine JC.region ?_ | refine JC.block ?_ | refine JC.skip ?_ | refine JL.nil ?_ | refine JE.next ?_)
      refine JC.cond_false rfl rfl ?_
      repeat (first | refine JL.q (by first|(apply OQ.move;rfl)|(apply OQ.assign;rfl)|(apply OQ.addN;rfl;rfl;exact (by (try simp only []);omega))) rfl ?_ | refine JC.region ?_ | refine JC.skip ?_ | refine JL.nil ?_ | refine JE.next ?_ | refine JE.an ?_)
      refine JE.again (i:=i) (i+1) ⟨hi',fun y hy=>?_⟩ (by omega) (by repeat (first | exact ag.nil | refine ag.cons _ _ _ rfl ?_)) (aj.refl _)
      have e : R.nx.take (i+1)=R.nx.take i++[x]:=by
        rw [List.take_succ_eq_append_getElem hi']
        rw [List.getElem?_eq_getElem hi',Option.some.injEq] at hx
        rw [hx]
      rw [e] at hy
      rcases List.mem_append.1 hy with hy | hy
      · exact hno y hy
      · rw [List.mem_singleton] at hy;subst hy;exact of_decide_eq_false hg
    · repeat (first | refine JL.q (by first|(apply OQ.load;exact pz;rfl;exact .here;exact hc2)|(apply OQ.bD (i:=i) (b:=rn.1) (j:=0);exact Tryz.underlying33;exact iE;rfl;rfl;exact hi')|(apply OQ.load;exact eE;rfl;exact hH1;exact hk1)|(apply OQ.lS;rfl;rfl;exact hg)|(apply OQ.move;rfl)|(apply OQ.aO;rfl)|(apply OQ.aV;rfl;rfl;rfl;exact (by decide);rfl)) rfl ?_ | refine JC.seq ?_ | refine JC.region ?_ | refine JC.block ?_ | refine JC.skip ?_ | refine JL.nil ?_ | refine JE.next ?_)
      refine JC.cond_true rfl rfl ?_
      repeat (first | refine JL.q (by first|(apply OQ.load;exact DN;rfl;exact .here;exact hc3)|(apply OQ.bD (i:=i) (b:=rx.1) (j:=0);exact Tryz.underlying35;exact nA;rfl;rfl;exact hi')|(apply OQ.load;exact bI;rfl;exact hH2;exact hk2)|(apply OQ.move;rfl)|(apply OQ.assign;rfl)|(apply OQ.aO;rfl)|(apply OQ.aV;rfl;rfl;rfl;exact (by decide);rfl)) rfl ?_ | refine JC.seq ?_ | refine JC.region ?_ | refine JL.nil ?_ | refine JE.next ?_)
      refine JC.ret ?_
      repeat (first | refine JE.aA ?_ | refine JE.bV ?_)
      exact JE.aR rfl (RV.tmp rfl) fun w' hw=>⟨by rw [Ae hx hno (of_decide_eq_true hg)],hw⟩
  · have hi' : i=R.nx.length:=by have:=of_decide_eq_false h;omega
    subst hi'
    rw [List.take_length] at hno
    repeat (first | refine JL.q (by (apply OQ.assign;rfl)) rfl ?_ | refine JC.seq ?_ | refine JC.region ?_ | refine JC.exit ?_ | refine JL.nil ?_ | refine JE.next ?_ | refine JE.aH ?_ | refine JE.aW ?_)
    exact JC.ret (JE.aR rfl (RV.tmp rfl) fun w' hw=>⟨by rw [Af hno];rfl,hw⟩)
end
section
set_option maxRecDepth 10000
open Sl cY dy fI Bx
theorem tu : dP Tryz.prog 34=true:=by kernel_rfl
theorem Rx.len {z : Rx} {R : Rb} (k : z.ok R) : z.ss.length=R.ms.length:=by
  have:=congrArg List.length k.ss
  rwa [List.length_map,List.length_map] at this
theorem Rx.Ag {z : Rx} {R : Rb} (k : z.ok R) : (z.ms R).length=R.ms.length:=by
  unfold Rx.ms
  rw [List.length_zipWith,Rx.len k,Nat.min_self]
theorem Rx.AT (z : Rx) (R : Rb) : ∀ c ∈ z.ms R,c.length=3:=by
  intro c hc
  unfold Rx.ms at hc
  obtain ⟨i,hi,rfl⟩:=List.mem_iff_getElem.1 hc
  rw [List.getElem_zipWith]
  rfl
theorem Rx.at {z : Rx} {R : Rb} (k : z.ok R) {i : Nat} {m : Ml} (h : R.ms[i]?=some m) : ∃ s,z.ss[i]?=some s∧s.l=m.b∧(z.ms R).getD i []=cm m.u m.fl s:=by
  have hi:=(List.getElem?_eq_some_iff.1 h).1
  have hs : i<z.ss.length:=by rw [Rx.len k];exact hi
  refine ⟨z.ss[i],List.getElem?_eq_getElem hs,?_,?_⟩
  · have h1 : (z.ss.map aC.l)[i]?=(R.ms.map Ml.b)[i]?:=by rw [k.ss]
    rw [List.getElem?_map,List.getElem?_map,List.getElem?_eq_getElem hs,h] at h1
    exact Option.some.inj h1
  · rw [List.getD_eq_getElem?_getD]
    unfold Rx.ms
    rw [List.getElem?_zipWith,h,List.getElem?_eq_getElem hs]
    rfl
def yu (R : Rb) (f : Bk) (u r : Int) : Prop:=(r=-1∧R.find f u=none)∨∃ (i : Nat) (m : Ml),r=(i : Int)∧R.ms[i]?=some m∧R.find f u=some m
theorem Ah {R : Rb} {f : Bk} {u : Int} {i : Nat} {m : Ml} (hi : R.ms[i]?=some m) (h : ∀ y ∈ R.ms.take i,¬ (y.f=f∧(y.u : Int)=u)) (hm : m.f=f∧(m.u : Int)=u) : R.find f u=some m:=by
  have hl:=(List.getElem?_eq_some_iff.1 hi).1
  have e : R.ms=R.ms.take i++(m::R.ms.drop (i+1)):=by
    conv=>lhs;rw [← List.take_append_drop i R.ms,List.drop_eq_getElem_cons hl]
    rw [List.getElem?_eq_getElem hl,Option.some.injEq] at hi
    rw [hi]
  unfold Rb.find
  rw [e,List.find?_append,List.find?_eq_none.2 fun y hy=>by simpa using fun a b=>h y hy ⟨a,b⟩,Option.none_or,List.find?_cons,decide_eq_true hm.1,decide_eq_true hm.2]
  rfl
theorem Ai {R : Rb} {f : Bk} {u : Int} (h : ∀ y ∈ R.ms,¬ (y.f=f∧(y.u : Int)=u)) : R.find f u=none:=by
  unfold Rb.find
  exact List.find?_eq_none.2 fun y hy=>by simpa using fun a b=>h y hy ⟨a,b⟩
theorem rA : aL Tryz.prog 9:=⟨_,Tryz.func9,rfl,by kernel_rfl⟩
set_option maxHeartbeats 8000000 in
theorem tv (z : Rx) (R : Rb) (k : z.ok R) (f : Bk) (u : Int) (hn : R.ms.length≤1000000) (w : World) (h0 : Holds w (keys (z.E R)) (z.E R) w) :
    Calls Tryz.prog 9 [Pt z.p 0,Z f,cU u].toArray w fun e w'=>∃ r : {r : Int // yu R f u r},e=.returned (cU r.1)∧Holds w (keys (z.E R)) (z.E R) w':=by
  generalize keys (z.E R)=S at h0 ⊢
  refine enter (n:=39) Tryz.func9 rfl rfl rfl h0 ?_
  have hc0 : ∀ o,Row 37 (z.cs R) o→cellAt o 0=some (ah z.qi R.ms.length):=Row.cell rfl
  have hc1 : ∀ o,Row 37 (z.cs R) o→cellAt o 1=some (ah z.qm R.ms.length):=Row.cell rfl
  repeat (first | refine JL.q (by (apply OQ.assign;rfl)) rfl ?_ | refine JC.seq ?_ | refine JC.region ?_ | refine JC.block ?_ | refine JL.nil ?_ | refine JE.next ?_)
  refine JC.loop (fun i : Nat=>[(0,Pt z.p 0),(1,Z f),(2,cU u),(7,N i)]) (fun _=>z.E R) (fun i=>R.ms.length - i) (fun i=>i≤R.ms.length∧∀ y ∈ R.ms.take i,¬ (y.f=f∧(y.u : Int)=u)) 0 ⟨Nat.zero_le _,by simp⟩ (by repeat (first | exact ag.nil | refine ag.cons _ _ _ rfl ?_)) (aj.refl _) ?_
  rintro i ⟨hi,hno⟩
  unfold Rx.E
  repeat (first | refine JL.q (by first|(apply OQ.load;exact tu;rfl;exact .here;exact hc1)|(apply OQ.iV (q:=z.qm) (k:=R.ms.length);exact Tryz.underlying34;exact (fun e=>by rw [k.qm e];rfl);rfl)|(apply OQ.move;rfl)|(apply OQ.aO;rfl)|(apply OQ.dX;rfl;rfl)|(apply OQ.aV;rfl;rfl;rfl;exact (by decide);rfl)) rfl ?_ | refine JC.seq ?_ | refine JC.region ?_ | refine JL.nil ?_ | refine JE.next ?_)
  refine JC.cond rfl (fun h=>?_) (fun h=>?_)
  · have hi' : i<R.ms.length:=by have:=of_decide_eq_true h;omega
    clear h
    obtain ⟨m,hm⟩ : ∃ m,R.ms[i]?=some m:=⟨R.ms[i],List.getElem?_eq_getElem hi'⟩
    obtain ⟨ri,hri⟩ : ∃ r,z.qi=some r:=by cases h : z.qi with | none=>rw [k.qi h] at hi';cases hi' | some r=>exact ⟨r,rfl⟩
    obtain ⟨rm,hrm⟩ : ∃ r,z.qm=some r:=by cases h : z.qm with | none=>rw [k.qm h] at hi';cases hi' | some r=>exact ⟨r,rfl⟩
    obtain ⟨s,_,_,hms⟩:=Rx.at k hm
    have hz1 : (R.ms.map fun m=>Z m.f)[i]?=some (Z m.f):=by rw [List.getElem?_map,hm];rfl
    have hk1 : ∀ o,Sl.Own 9 1 (R.ms.map fun m=>Z m.f).length ri.2 (R.ms.map fun m=>Z m.f) o→cellAt o (0+i)=some (Z m.f):=by rw [Nat.zero_add];exact Sl.Own.cell hz1
    have hk2 : ∀ o,Sl.Own 46 3 (z.ms R).length rm.2 (z.ms R).flatten o→cellAt o (0+i * 3+0)=some (cU m.u):=fun o ho=>by
      obtain ⟨c,e,fr,rfl,hcc⟩:=Sl.Own.chunk (i:=i) (z.AT R) (by rw [Rx.Ag k];exact hi') o ho
      rw [hms] at hcc
      have:=hcc 0 (by show 0<3;decide)
      show c[0+i * 3+0]?=_
      rw [Nat.zero_add]
      exact this
    rw [hri] at hc0
    rw [hrm] at hc1
    have hH1 : Has (⟨z.p,Row 37 (z.cs R),true⟩::(aa 9 z.qi (R.ms.map fun m=>Z m.f)++(aY 46 3 z.qm (z.ms R)++(aa 9 z.qn (R.nx.map fun x=>Z x.1)++(aa 3 z.qx (R.nx.map fun x=>N x.2)++ay z.ss))))) ri.1 (Sl.Own 9 1 (R.ms.map fun m=>Z m.f).length ri.2 (R.ms.map fun m=>Z m.f)) true:=.there (by rw [hri];exact .here)
    have hH2 : Has (⟨z.p,Row 37 (z.cs R),true⟩::(aa 9 z.qi (R.ms.map fun m=>Z m.f)++(aY 46 3 z.qm (z.ms R)++(aa 9 z.qn (R.nx.map fun x=>Z x.1)++(aa 3 z.qx (R.nx.map fun x=>N x.2)++ay z.ss))))) rm.1 (Sl.Own 46 3 (z.ms R).length rm.2 (z.ms R).flatten) true:=.there (aG (by rw [hrm];exact .here))
    have hstep : ¬ (m.f=f∧(m.u : Int)=u)→∀ y ∈ R.ms.take (i+1),¬ (y.f=f∧(y.u : Int)=u):=fun hh y hy=>by
      have e : R.ms.take (i+1)=R.ms.take i++[m]:=by
        rw [List.take_succ_eq_append_getElem hi']
        rw [List.getElem?_eq_getElem hi',Option.some.injEq] at hm
        rw [hm]
      rw [e] at hy
      rcases List.mem_append.1 hy with hy | hy
      · exact hno y hy
      · rw [List.mem_singleton] at hy;subst hy;exact hh
    cases hg : decide (m.f=f)
    · repeat (first | refine JL.q (by first|(apply OQ.load;exact pz;rfl;exact .here;exact hc0)|(apply OQ.bD (i:=i) (b:=ri.1) (j:=0);exact Tryz.underlying33;exact iE;rfl;rfl;exact hi')|(apply OQ.load;exact eE;rfl;exact hH1;exact hk1)|(apply OQ.lS;rfl;rfl;exact hg)|(apply OQ.aJ;rfl;rfl)|(apply OQ.move;rfl)|(apply OQ.aO;rfl)|(apply OQ.aV;rfl;rfl;rfl;exact (by decide);rfl)) rfl ?_ | refine JC.seq ?_ | refine JC.region ?_ | refine JC.block ?_ | refine JC.skip ?_ | refine JL.nil ?_ | refine JE.next ?_ | refine JL.bC rfl rfl rfl rfl ?_)
      refine JC.cond_false rfl rfl ?_
      repeat (first | refine JL.q (by first|(apply OQ.move;rfl)|(apply OQ.assign;rfl)|(apply OQ.addN;rfl;rfl;exact (by (try simp only []);omega))) rfl ?_ | refine JC.region ?_ | refine JC.skip ?_ | refine JL.nil ?_ | refine JE.next ?_ | refine JE.an ?_)
      exact JE.again (i:=i) (i+1) ⟨hi',hstep fun e=>of_decide_eq_false hg e.1⟩ (by omega) (by repeat (first | exact ag.nil | refine ag.cons _ _ _ rfl ?_)) (aj.refl _)
    · cases hg2 : decide ((m.u : Int)=u)
      · repeat (first | refine JL.q (by first|(apply OQ.load;exact pz;rfl;exact .here;exact hc0)|(apply OQ.bD (i:=i) (b:=ri.1) (j:=0);exact Tryz.underlying33;exact iE;rfl;rfl;exact hi')|(apply OQ.load;exact eE;rfl;exact hH1;exact hk1)|(apply OQ.lS;rfl;rfl;exact hg)|(apply OQ.load;exact tu;rfl;exact .here;exact hc1)|(apply OQ.fc (i:=i) (b:=rm.1) (j:=0);exact Tryz.underlying34;exact mU;rfl;rfl;exact hi')|(apply OQ.load;exact bI;rfl;exact hH2;exact hk2)|(apply OQ.iC (b:=u);rfl;rfl;exact hg2)|(apply OQ.aS;rfl;rfl)|(apply OQ.move;rfl)|(apply OQ.aO;rfl)|(apply OQ.aV;rfl;rfl;rfl;exact (by decide);rfl)) rfl ?_ | refine JC.seq ?_ | refine JC.region ?_ | refine JC.block ?_ | refine JC.skip ?_ | refine JL.nil ?_ | refine JE.next ?_ | refine JL.aB rfl rfl ?_)
        refine JC.cond_false rfl rfl ?_
        repeat (first | refine JL.q (by first|(apply OQ.move;rfl)|(apply OQ.assign;rfl)|(apply OQ.addN;rfl;rfl;exact (by (try simp only []);omega))) rfl ?_ | refine JC.region ?_ | refine JC.skip ?_ | refine JL.nil ?_ | refine JE.next ?_ | refine JE.an ?_)
        exact JE.again (i:=i) (i+1) ⟨hi',hstep fun e=>of_decide_eq_false hg2 e.2⟩ (by omega) (by repeat (first | exact ag.nil | refine ag.cons _ _ _ rfl ?_)) (aj.refl _)
      · repeat (first | refine JL.q (by first|(apply OQ.load;exact pz;rfl;exact .here;exact hc0)|(apply OQ.bD (i:=i) (b:=ri.1) (j:=0);exact Tryz.underlying33;exact iE;rfl;rfl;exact hi')|(apply OQ.load;exact eE;rfl;exact hH1;exact hk1)|(apply OQ.lS;rfl;rfl;exact hg)|(apply OQ.load;exact tu;rfl;exact .here;exact hc1)|(apply OQ.fc (i:=i) (b:=rm.1) (j:=0);exact Tryz.underlying34;exact mU;rfl;rfl;exact hi')|(apply OQ.load;exact bI;rfl;exact hH2;exact hk2)|(apply OQ.iC (b:=u);rfl;rfl;exact hg2)|(apply OQ.aS;rfl;rfl)|(apply OQ.move;rfl)|(apply OQ.aO;rfl)|(apply OQ.aV;rfl;rfl;rfl;exact (by decide);rfl)) rfl ?_ | refine JC.seq ?_ | refine JC.region ?_ | refine JC.block ?_ | refine JC.skip ?_ | refine JL.nil ?_ | refine JE.next ?_ | refine JL.aB rfl rfl ?_)
        refine JC.cond_true rfl rfl ?_
        repeat (first | refine JL.q (by first|(apply OQ.move;rfl)|(apply OQ.assign;rfl)) rfl ?_ | refine JC.seq ?_ | refine JC.region ?_ | refine JL.nil ?_ | refine JE.next ?_)
        refine JC.ret ?_
        repeat (first | refine JE.aA ?_ | refine JE.bV ?_)
        exact JE.aR rfl (RV.tmp rfl) fun w' hw=>⟨⟨(i : Int),.inr ⟨i,m,rfl,hm,Ah hm hno ⟨of_decide_eq_true hg,of_decide_eq_true hg2⟩⟩⟩,rfl,hw⟩
  · have hi' : i=R.ms.length:=by have:=of_decide_eq_false h;omega
    subst hi'
    rw [List.take_length] at hno
    repeat (first | refine JL.q (by (apply OQ.assign;rfl)) rfl ?_ | refine JC.seq ?_ | refine JC.region ?_ | refine JC.exit ?_ | refine JL.nil ?_ | refine JE.next ?_ | refine JE.aH ?_ | refine JE.aW ?_)
    exact JC.ret (JE.aR rfl (RV.tmp rfl) fun w' hw=>⟨⟨-1,.inl ⟨rfl,Ai hno⟩⟩,rfl,hw⟩)
end
section
set_option maxRecDepth 10000
open Sl cY dy fI Bx
theorem OQ.C8 {P : Program} {n : Nat} {E : Env} {C : World→Prop} {dst : Option Tmp} {t t' ty : TypeId} {pos : String} {aft : Array Edge} {g : Option (Nat × Bool)} {x y : Operand} {a fg : Nat} (ha : a<16) (hf : fg=0∨fg=4) (hx : ev E x=some (N a)) (hy : ev E y=some (N fg)) : OQ P n E C ⟨dst,.binOp .and t x y t',ty,pos,aft,g⟩ (N (a / 4 % 2 * fg)):=by
  rcases hf with rfl | rfl
  · exact OQ.bin hx hy rfl fun _=>jo (k:=.i64) (show IntKind.i64.wrap ((BitVec.ofInt 64 (a : Int) &&& BitVec.ofInt 64 0).toNat : Int)=((a / 4 % 2 * 0 : Nat) : Int) from by
      rw [Nat.mul_zero,show BitVec.ofInt 64 0=0#64 from rfl,BitVec.and_zero]
      rfl)
  · exact OQ.yq ha hx hy
def oE (f : Bk) (fg : Nat) (m : Ml) : Bool:=decide (m.f=f) && decide (((m.fl / 4 % 2 * fg : Nat) : Int)=(fg : Int))
def yw (R : Rb) (f : Bk) (fg : Nat) : List Nat:=(R.ms.filter (oE f fg)).map Ml.u
theorem C9 (R : Rb) (f : Bk) : yw R f 0=R.list f:=by
  unfold yw Rb.list
  congr 1
  apply List.filter_congr
  intro m _
  unfold oE
  simp
theorem Da (R : Rb) (f : Bk) : yw R f 4=jW R f:=by
  unfold yw jW
  congr 1
  apply List.filter_congr
  intro m _
  unfold oE goes
  congr 1
  exact decide_eq_decide.2 (by have : m.fl / 4 % 2<2:=Nat.mod_lt _ (by decide);omega)
theorem rB : aL Tryz.prog 14:=⟨_,Tryz.func14,rfl,by kernel_rfl⟩
set_option maxHeartbeats 16000000 in
theorem tw (z : Rx) (R : Rb) (k : z.ok R) (f : Bk) (fg : Nat) (hfg : fg=0∨fg=4) (hfl : ∀ m ∈ R.ms,m.fl<16) (hn : R.ms.length≤1000000) (w : World) (h0 : Holds w (keys (z.E R)) (z.E R) w) :
    Calls Tryz.prog 14 [Pt z.p 0,Z f,N fg].toArray w fun e w'=>∃ q : Nat × Nat,e=.returned (ah (some q) (yw R f fg).length)∧Holds w (keys (z.E R)) (aa 3 (some q) (au (yw R f fg))++z.E R) w':=by
  generalize keys (z.E R)=S at h0 ⊢
  refine enter (n:=54) Tryz.func14 rfl rfl rfl h0 ?_
  have hc0 : ∀ o,Row 37 (z.cs R) o→cellAt o 0=some (ah z.qi R.ms.length):=Row.cell rfl
  have hc1 : ∀ o,Row 37 (z.cs R) o→cellAt o 1=some (ah z.qm R.ms.length):=Row.cell rfl
  repeat (first | refine JL.q (by (apply OQ.assign;rfl)) rfl ?_ | refine JC.seq ?_ | refine JC.region ?_ | refine JL.nil ?_ | refine JE.next ?_)
  refine JL.pV Tryz.underlying35 fm rfl fun bq _=>?_
  repeat (first | refine JL.q (by (apply OQ.assign;rfl)) rfl ?_ | refine JC.seq ?_ | refine JC.region ?_ | refine JC.block ?_ | refine JL.nil ?_ | refine JE.next ?_)
  refine JC.loop (fun s : Nat × (Nat × Nat)=>[(0,Pt z.p 0),(1,Z f),(2,N fg),(7,ah (some s.2) ((R.ms.take s.1).filter (oE f fg)).length),(8,N s.1)]) (fun s=>aa 3 (some s.2) (au (((R.ms.take s.1).filter (oE f fg)).map Ml.u))++z.E R) (fun s=>R.ms.length - s.1) (fun s=>s.1≤R.ms.length) (0,(bq,0)) (Nat.zero_le _) (by repeat (first | exact ag.nil | refine ag.cons _ _ _ rfl ?_)) (aj.refl _) ?_
  rintro ⟨i,q⟩ hi
  dsimp only at hi ⊢
  have hBox : Has (aa 3 (some q) (au (((R.ms.take i).filter (oE f fg)).map Ml.u))++z.E R) z.p (Row 37 (z.cs R)) true:=aG .here
  repeat (first | refine JL.q (by first|(apply OQ.load;exact tu;rfl;exact hBox;exact hc1)|(apply OQ.iV (q:=z.qm) (k:=R.ms.length);exact Tryz.underlying34;exact (fun e=>by rw [k.qm e];rfl);rfl)|(apply OQ.move;rfl)|(apply OQ.aO;rfl)|(apply OQ.dX;rfl;rfl)|(apply OQ.aV;rfl;rfl;rfl;exact (by decide);rfl)) rfl ?_ | refine JC.seq ?_ | refine JC.region ?_ | refine JL.nil ?_ | refine JE.next ?_)
  refine JC.cond rfl (fun h=>?_) (fun h=>?_)
  · have hi' : i<R.ms.length:=by have:=of_decide_eq_true h;omega
    clear h
    obtain ⟨m,hm⟩ : ∃ m,R.ms[i]?=some m:=⟨R.ms[i],List.getElem?_eq_getElem hi'⟩
    have hmm:=hfl m (List.mem_of_getElem? hm)
    obtain ⟨ri,hri⟩ : ∃ r,z.qi=some r:=by cases h : z.qi with | none=>rw [k.qi h] at hi';cases hi' | some r=>exact ⟨r,rfl⟩
    obtain ⟨rm,hrm⟩ : ∃ r,z.qm=some r:=by cases h : z.qm with | none=>rw [k.qm h] at hi';cases hi' | some r=>exact ⟨r,rfl⟩
    obtain ⟨s,_,_,hms⟩:=Rx.at k hm
    have hz1 : (R.ms.map fun m=>Z m.f)[i]?=some (Z m.f):=by rw [List.getElem?_map,hm];rfl
    have hk1 : ∀ o,Sl.Own 9 1 (R.ms.map fun m=>Z m.f).length ri.2 (R.ms.map fun m=>Z m.f) o→cellAt o (0+i)=some (Z m.f):=by rw [Nat.zero_add];exact Sl.Own.cell hz1
    have hkx : ∀ (j : Nat) (v : Value),(cm m.u m.fl s)[j]?=some v→∀ o,Sl.Own 46 3 (z.ms R).length rm.2 (z.ms R).flatten o→cellAt o (0+i * 3+j)=some v:=fun j v hv o ho=>by
      obtain ⟨c,e,fr,rfl,hcc⟩:=Sl.Own.chunk (i:=i) (z.AT R) (by rw [Rx.Ag k];exact hi') o ho
      rw [hms] at hcc
      have:=hcc j (List.getElem?_eq_some_iff.1 hv).1
      show c[0+i * 3+j]?=_
      rw [Nat.zero_add,this,hv]
    have hk2:=hkx 0 (N m.u) rfl
    have hk3:=hkx 1 (N m.fl) rfl
    rw [hri] at hc0
    rw [hrm] at hc1
    have hMi : Has (z.E R) ri.1 (Sl.Own 9 1 (R.ms.map fun m=>Z m.f).length ri.2 (R.ms.map fun m=>Z m.f)) true:=by unfold Rx.E;exact .there (by rw [hri];exact .here)
    have hMm : Has (z.E R) rm.1 (Sl.Own 46 3 (z.ms R).length rm.2 (z.ms R).flatten) true:=by unfold Rx.E;exact .there (aG (by rw [hrm];exact .here))
    have htk : (R.ms.take (i+1)).filter (oE f fg)=(R.ms.take i).filter (oE f fg)++(if oE f fg m then [m] else []):=by
      have e : R.ms.take (i+1)=R.ms.take i++[m]:=by
        rw [List.take_succ_eq_append_getElem hi']
        rw [List.getElem?_eq_getElem hi',Option.some.injEq] at hm
        rw [hm]
      rw [e,List.filter_append]
      congr 1
      by_cases hg : oE f fg m=true
      · rw [if_pos hg,List.filter_cons_of_pos hg];rfl
      · rw [if_neg hg,List.filter_cons_of_neg hg];rfl
    have hpl : ((R.ms.take i).filter (oE f fg)).length≤i:=by
      have:=List.length_filter_le (oE f fg) (R.ms.take i)
      rw [List.length_take] at this
      omega
    generalize (R.ms.take i).filter (oE f fg)=PE at htk hpl hBox ⊢
    have hH1:=aG (N:=aa 3 (some q) (au (PE.map Ml.u))) hMi
    have hH2:=aG (N:=aa 3 (some q) (au (PE.map Ml.u))) hMm
    cases hg : decide (m.f=f)
    · have hls : oE f fg m=false:=by unfold oE;rw [hg];rfl
      rw [hls,if_neg (by decide),List.append_nil] at htk
      repeat (first | refine JL.q (by first|(apply OQ.load;exact pz;rfl;exact hBox;exact hc0)|(apply OQ.bD (i:=i) (b:=ri.1) (j:=0);exact Tryz.underlying33;exact iE;rfl;rfl;exact hi')|(apply OQ.load;exact eE;rfl;exact hH1;exact hk1)|(apply OQ.lS;rfl;rfl;exact hg)|(apply OQ.aJ;rfl;rfl)|(apply OQ.move;rfl)|(apply OQ.aO;rfl)|(apply OQ.aV;rfl;rfl;rfl;exact (by decide);rfl)) rfl ?_ | refine JC.seq ?_ | refine JC.region ?_ | refine JC.block ?_ | refine JC.skip ?_ | refine JL.nil ?_ | refine JE.next ?_ | refine JL.bC rfl rfl rfl rfl ?_)
      refine JC.cond_false rfl rfl ?_
      repeat (first | refine JL.q (by first|(apply OQ.move;rfl)|(apply OQ.assign;rfl)|(apply OQ.addN;rfl;rfl;exact (by (try simp only []);omega))) rfl ?_ | refine JC.region ?_ | refine JC.skip ?_ | refine JL.nil ?_ | refine JE.next ?_ | refine JE.an ?_)
      refine JE.again (i:=(i,q)) (i+1,q) hi' (by dsimp only;omega) (by dsimp only;rw [htk];exact (by repeat (first | exact ag.nil | refine ag.cons _ _ _ rfl ?_))) (by dsimp only;rw [htk];exact aj.refl _)
    · cases hg2 : decide (((m.fl / 4 % 2 * fg : Nat) : Int)=(fg : Int))
      · have hls : oE f fg m=false:=by unfold oE;rw [hg,hg2];rfl
        rw [hls,if_neg (by decide),List.append_nil] at htk
        repeat (first | refine JL.q (by first|(apply OQ.load;exact pz;rfl;exact hBox;exact hc0)|(apply OQ.bD (i:=i) (b:=ri.1) (j:=0);exact Tryz.underlying33;exact iE;rfl;rfl;exact hi')|(apply OQ.load;exact eE;rfl;exact hH1;exact hk1)|(apply OQ.lS;rfl;rfl;exact hg)|(apply OQ.load;exact tu;rfl;exact hBox;exact hc1)|(apply OQ.fc (i:=i) (b:=rm.1) (j:=0);exact Tryz.underlying34;exact mU;rfl;rfl;exact hi')|(apply OQ.load;exact bI;rfl;exact hH2;exact hk3)|(apply OQ.C8;exact hmm;exact hfg;rfl;rfl)|(apply OQ.iC (b:=(fg : Int));rfl;rfl;exact hg2)|(apply OQ.aS;rfl;rfl)|(apply OQ.move;rfl)|(apply OQ.aO;rfl)|(apply OQ.aV;rfl;rfl;rfl;exact (by decide);rfl)) rfl ?_ | refine JC.seq ?_ | refine JC.region ?_ | refine JC.block ?_ | refine JC.skip ?_ | refine JL.nil ?_ | refine JE.next ?_ | refine JL.aB rfl rfl ?_)
        refine JC.cond_false rfl rfl ?_
        repeat (first | refine JL.q (by first|(apply OQ.move;rfl)|(apply OQ.assign;rfl)|(apply OQ.addN;rfl;rfl;exact (by (try simp only []);omega))) rfl ?_ | refine JC.region ?_ | refine JC.skip ?_ | refine JL.nil ?_ | refine JE.next ?_ | refine JE.an ?_)
        refine JE.again (i:=(i,q)) (i+1,q) hi' (by dsimp only;omega) (by dsimp only;rw [htk];exact (by repeat (first | exact ag.nil | refine ag.cons _ _ _ rfl ?_))) (by dsimp only;rw [htk];exact aj.refl _)
      · have hls : oE f fg m=true:=by unfold oE;rw [hg,hg2];rfl
        rw [hls,if_pos rfl] at htk
        repeat (first | refine JL.q (by first|(apply OQ.load;exact pz;rfl;exact hBox;exact hc0)|(apply OQ.bD (i:=i) (b:=ri.1) (j:=0);exact Tryz.underlying33;exact iE;rfl;rfl;exact hi')|(apply OQ.load;exact eE;rfl;exact hH1;exact hk1)|(apply OQ.lS;rfl;rfl;exact hg)|(apply OQ.load;exact tu;rfl;exact hBox;exact hc1)|(apply OQ.fc (i:=i) (b:=rm.1) (j:=0);exact Tryz.underlying34;exact mU;rfl;rfl;exact hi')|(apply OQ.load;exact bI;rfl;exact hH2;exact hk3)|(apply OQ.C8;exact hmm;exact hfg;rfl;rfl)|(apply OQ.iC (b:=(fg : Int));rfl;rfl;exact hg2)|(apply OQ.aS;rfl;rfl)|(apply OQ.move;rfl)|(apply OQ.aO;rfl)|(apply OQ.aV;rfl;rfl;rfl;exact (by decide);rfl)) rfl ?_ | refine JC.seq ?_ | refine JC.region ?_ | refine JC.block ?_ | refine JC.skip ?_ | refine JL.nil ?_ | refine JE.next ?_ | refine JL.aB rfl rfl ?_)
        refine JC.cond_true rfl rfl ?_
        repeat (first | refine JL.q (by first|(apply OQ.load;exact tu;rfl;exact hBox;exact hc1)|(apply OQ.fc (i:=i) (b:=rm.1) (j:=0);exact Tryz.underlying34;exact mU;rfl;rfl;exact hi')|(apply OQ.load;exact bI;rfl;exact hH2;exact hk2)|(apply OQ.move;rfl)|(apply OQ.aO;rfl)|(apply OQ.aV;rfl;rfl;rfl;exact (by decide);rfl)) rfl ?_ | refine JC.region ?_)
        refine JL.gu (v:=N m.u) Tryz.underlying35 fm rfl rfl rfl rfl fun bl _=>?_
        have hxl : (au (PE.map Ml.u)).length=PE.length:=by unfold au;rw [List.length_map,List.length_map]
        refine JL.perm (M':=aa 3 (some q) (au (PE.map Ml.u))++(⟨bl,Row 3 [N m.u],true⟩::z.E R)) ?_ (by exact List.perm_middle.symm)
        refine JL.bM (xs:=au (PE.map Ml.u)) (cs:=[N m.u]) (m:=1) (ad:=some ⟨bl,0,none⟩) (sc:=1) (some q) Tryz.underlying35 fm nofun (by rw [hxl];rfl) rfl rfl (fun w' hw'=>?_) (by simp [Value.oneCell']) rfl (by rw [hxl];omega) (by rw [hxl];omega) rfl fun q' hq'=>?_
        · obtain ⟨o,ho,hA⟩:=hw'.get (b:=bl) (A:=Row 3 [N m.u]) (wr:=true) (aG .here)
          exact Reads.block ho (Row.all o hA)
        have e2 : au (PE.map Ml.u)++[N m.u]=au ((PE++[m]).map Ml.u):=by unfold au;rw [List.map_append,List.map_append];rfl
        have e3 : (au (PE.map Ml.u)++[N m.u]).length=PE.length+1:=by rw [List.length_append,hxl];rfl
        have e6 : (PE++[m]).length=PE.length+1:=by rw [List.length_append];rfl
        rw [e3,e2]
        cases q' with
        | none=>exact absurd (hq' rfl) (by simp)
        | some q2=>
        repeat (first | refine JL.q (by first|(apply OQ.move;rfl)|(apply OQ.assign;rfl)|(apply OQ.addN;rfl;rfl;exact (by (try simp only []);omega))) rfl ?_ | refine JC.region ?_ | refine JL.nil ?_ | refine JE.next ?_ | refine JE.an ?_)
        refine JE.again (i:=(i,q)) (i+1,q2) hi' (by dsimp only;omega) (by dsimp only;rw [htk,e6];exact (by repeat (first | exact ag.nil | refine ag.cons _ _ _ rfl ?_))) (by dsimp only;rw [htk];exact aE (.drop _ _ _ (aj.refl _)) _)
  · have hi' : i=R.ms.length:=by have:=of_decide_eq_false h;omega
    subst hi'
    rw [List.take_length]
    have hl : (yw R f fg).length=(R.ms.filter (oE f fg)).length:=List.length_map _
    repeat (first | refine JL.q (by first|(apply OQ.move;rfl)|(apply OQ.assign;rfl)) rfl ?_ | refine JC.seq ?_ | refine JC.region ?_ | refine JC.exit ?_ | refine JL.nil ?_ | refine JE.next ?_ | refine JE.aH ?_ | refine JE.aW ?_)
    exact JC.ret (JE.aR rfl (RV.tmp rfl) fun w' hw=>⟨q,by rw [hl],hw⟩)
end
section
set_option maxRecDepth 10000
open Sl cY dy fI Bx
theorem Step.fit {z z' : Sz} {af bh : List Bk} {vs vs' : VL} {ps : List Pq} {code : Nat} (st : Step z af vs ps code z' bh vs') (k : z.ok af vs) (hok : fV ps=true) {B H g : Nat} (hB : iA (cy vs ps)≤B) (hH : nb B≤H) (hsz : z.h.size=H) (hg : z.h.g.toNat≤g) (hg2 : g<4294967295) :
    code=0∧vs'=cy vs ps∧z'.h.size=H∧z'.h.g.toNat≤g+1∧z'.h.x.p=z.h.x.p:=by
  have hb : (bO vs ps).length=iA (cy vs ps):=by
    unfold bO
    rw [o9,ox]
  have h1:=st.zero k hok (by rw [hb,hsz];unfold nb at hH ⊢;omega) (by omega)
  have h2:=st.keep k (by omega)
  exact ⟨h1.1,h1.2,h2.1.trans hsz,by omega,h2.2.1⟩
theorem nD : aL Tryz.prog 5:=⟨_,Tryz.func5,rfl,by kernel_rfl⟩
def eZ : Bk:=[105#8,110#8]
theorem pE : okF eZ=true:=by decide
theorem pF {R : Rb} {n : Nat} (k : R.ok n) {f : Bk} (hf : okF f=true) (b : Bk) : fV (eP R f b)=true∧iz (eP R f b)≤118+b.length:=by
  have h1:=R.iy k f
  have h2:=k.le
  have h3:=gh hf (u:=R.next f) (by omega)
  have h4 : (cS f).length=f.length+2:=by unfold cS;simp
  have h5:=oW hf
  have h6 : (nV (R.next f+1)).length=8:=dL _ _
  refine ⟨?_,?_⟩
  · unfold fV jU eP
    simp only [List.all_cons,List.all_nil,Bool.and_true,Bool.false_and,Bool.not_false,Bool.and_eq_true,decide_eq_true_eq,h4]
    omega
  · unfold iz sX eP
    simp only [List.map_cons,List.map_nil,List.sum_cons,List.sum_nil,List.length_cons,h4,h6]
    omega
theorem rC {R : Rb} {n : Nat} (k : R.ok n) {f : Bk} {u fl : Int} {m : Ml} (hm : R.find f u=some m) : fV [cC f u fl m.b]=true∧iz [cC f u fl m.b]≤61+m.b.length:=by
  obtain ⟨h1,h2,h3⟩:=dm hm
  have h4:=gh (k.fold m h1) (k.mO h1)
  rw [h2,h3] at h4
  refine ⟨?_,?_⟩
  · unfold fV jU cC
    simp only [List.all_cons,List.all_nil,Bool.and_true,Bool.false_and,Bool.not_false,Bool.and_eq_true,decide_eq_true_eq]
    omega
  · unfold iz sX cC
    simp only [List.map_cons,List.map_nil,List.sum_cons,List.sum_nil,List.length_cons]
    omega
theorem uB {R : Rb} {n : Nat} (k : R.ok n) (f : Bk) : fV (gz R f)=true∧∀ vs,iA (cy vs (gz R f))≤iA vs:=by
  refine ⟨List.all_eq_true.2 fun p hp=>?_,fun vs=>?_⟩
  · unfold gz at hp
    obtain ⟨m,hm,rfl⟩:=List.mem_map.1 hp
    have hm:=List.mem_filter.1 hm
    have hmf : m.f=f:=by have:=hm.2;unfold goes at this;simp only [Bool.and_eq_true,decide_eq_true_eq] at this;exact this.1
    have h1:=gh (k.fold m hm.1) (k.mO hm.1)
    rw [hmf] at h1
    unfold jU
    simp only [List.length_nil,Nat.lt_irrefl,decide_false,Bool.and_false,Bool.not_false,Bool.and_true,Bool.and_eq_true,decide_eq_true_eq]
    omega
  · unfold gz
    generalize R.ms.filter (goes f)=l
    induction l generalizing vs with
    | nil=>exact Nat.le_refl _
    | cons m l ih=>exact Nat.le_trans (ih (kg (bg f (m.u : Int)) vs)) (o6 _ _)
set_option maxHeartbeats 16000000 in
theorem pG (w : World) (hT : eY w) : Calls Tryz.prog 5 [].toArray w fun e w'=>e=.returned (.bool true)∧Ext w w':=by
  refine enter (n:=62) Tryz.func5 rfl rfl rfl (Holds.start w []) ?_
  have hTA : dS [] w:=⟨hT,by simp⟩
  repeat (first | refine JL.q (by (apply OQ.assign;rfl)) rfl ?_ | refine JC.seq ?_ | refine JC.region ?_ | refine JL.nil ?_ | refine JE.next ?_)
  refine JL.bA (ι:=B0 40) (vs:=[N 40]) (fun y=>.tuple #[Pt y.x.p 0,Pt y.b.b 0]) (fun y=>y.b.E) kT rfl rfl (fun y=>Bz.wr _) (fun w' _=>mZ 40 (by decide) (by decide) w') fun y=>?_
  obtain ⟨dx,x,dk,k,hh,hbl⟩:=y
  have hsz : x.z.h.size=20:=by rw [hh];rfl
  have hg : x.z.h.g.toNat≤5:=by
    rw [hh]
    show (gm (dh 40)+1#32).toNat≤5
    rw [BitVec.toNat_add,(jG 40).2]
    decide
  dsimp only
  rw [List.append_nil]
  repeat (first | refine JL.q (by first|(apply OQ.extract;rfl;rfl)|(apply OQ.lU;exact Tryz.underlying28;rfl;rfl)|(apply OQ.move;rfl)|(apply OQ.assign;rfl)) rfl ?_ | refine JC.seq ?_ | refine JC.region ?_ | refine JL.nil ?_ | refine JE.next ?_)
  refine JC.cond_false rfl rfl ?_
  repeat (first | refine JL.q (by (apply OQ.move;rfl)) rfl ?_ | refine JC.seq ?_ | refine JC.region ?_ | refine JC.skip ?_ | refine JE.next ?_)
  refine JL.gu (v:=U8 97) Tryz.underlying24 pJ rfl rfl rfl rfl fun bl _=>?_
  refine JL.mark (r:=[U8 97]) (te:=5) Tryz.underlying24 Tryz.underlying5 rfl .here rfl ?_
  refine JL.perm (M':=x.E++[⟨bl,A2 5 [U8 97],true⟩]) ?_ (by exact List.perm_append_comm (l₁:=[_]))
  refine JL.mY (f:=eZ) (s:=⟨some ⟨bl,0,none⟩,1,[97#8]⟩) k (by decide) (by decide) (by show 1≤2000000;decide) hTA (fun w' hw'=>⟨?_,?_⟩) rfl rfl rfl rfl fun r=>?_
  · obtain ⟨o,ho,hA⟩:=hw'.get (aG (N:=x.E) (.here (b:=bl)))
    exact ⟨Nat.le_refl _,Reads.block ho (A2.all o hA)⟩
  · intro _ a ea
    cases ea
    exact cr (b:=bl) hw' .here
  obtain ⟨c1,u1,z1,recs1,vs1,R1,n1,k1,p1,o1⟩:=r
  dsimp only at k1 p1 o1 ⊢
  have hd1:=pF k.r pE [97#8]
  obtain ⟨st1,o1⟩:=(o1.resolve_left fun h=>by rw [pE] at h;exact absurd h.1 (by decide)).2
  have hv1 : iA (cy [] (eP Rb.zero eZ [97#8]))≤200:=by
    have:=gd (eP Rb.zero eZ [97#8]) []
    have h0 : iA ([] : VL)=0:=rfl
    have h2 : ([97#8] : Bk).length=1:=rfl
    omega
  have f1:=st1.fit k.z hd1.1 (B:=200) (H:=20) (g:=5) hv1 (by decide) hsz hg (by decide)
  obtain ⟨rfl,rfl,rfl,rfl⟩:=o1.resolve_right fun h=>by have:=h.1;omega
  obtain ⟨_,rfl,sz1,g1,_⟩:=f1
  repeat (first | refine JL.q (by first|(apply OQ.extract;rfl;rfl)|(apply OQ.move;rfl)|(apply OQ.assign;rfl)) rfl ?_ | refine JC.seq ?_ | refine JC.region ?_ | refine JL.nil ?_ | refine JE.next ?_)
  refine JL.AS (f:=eZ) (u:=1) (fl:=4) k1 (by decide) (by decide) (by decide) (fun m hm=>?_) hTA rfl rfl rfl rfl rfl fun r=>?_
  · have h : m=⟨eZ,1,0,[97#8]⟩:=by simpa [Rb.aD,Rb.zero,Rb.next,Rb.next?] using hm
    rw [h]
    show 1≤2000000
    decide
  have hfi : (Rb.zero.aD eZ [97#8]).find eZ 1=some ⟨eZ,1,0,[97#8]⟩:=by rfl
  obtain ⟨c2,z2,recs2,vs2,R2,k2,p2,o2⟩:=r
  dsimp only at k2 p2 o2 ⊢
  have o2:=(o2.resolve_left fun h=>absurd h.1 (by decide)).resolve_left fun h=>by rw [hfi] at h;cases h.2.1
  obtain ⟨_,m2,hm2,st2,o2⟩:=o2
  rw [hfi,Option.some.injEq] at hm2
  subst hm2
  have hd2:=rC (fl:=4) k1.r hfi
  have hv2 : iA (cy (cy [] (eP Rb.zero eZ [97#8])) [cC eZ 1 4 [97#8]])≤300:=by
    have:=gd [cC eZ 1 4 [97#8]] (cy [] (eP Rb.zero eZ [97#8]))
    have h2 : ([97#8] : Bk).length=1:=rfl
    have h3:=hd2.2
    dsimp only at h3
    omega
  have f2:=st2.fit k1.z hd2.1 (B:=300) (H:=20) (g:=6) hv2 (by decide) sz1 g1 (by decide)
  obtain ⟨rfl,rfl⟩:=o2.resolve_right fun h=>by have:=h.1;omega
  obtain ⟨_,rfl,sz2,g2,_⟩:=f2
  repeat (first | refine JL.q (by first|(apply OQ.move;rfl)|(apply OQ.assign;rfl)) rfl ?_ | refine JC.seq ?_ | refine JC.region ?_ | refine JL.nil ?_ | refine JE.next ?_)
  refine JL.C7 (f:=eZ) k2 (by decide) (by show 1≤40000;decide) hTA rfl rfl rfl fun r=>?_
  have hex : jW ((Rb.zero.aD eZ [97#8]).mark eZ 1 (4 : Int).toNat) eZ=[1]:=by rfl
  obtain ⟨c3,q3,l3,hq3,z3,recs3,vs3,R3,k3,p3,o3⟩:=r
  dsimp only at k3 p3 o3 ⊢
  obtain ⟨_,st3,o3⟩:=o3.resolve_left fun h=>by rw [hex] at h;cases h.1
  have hd3:=uB k2.r eZ
  have hv3:=Nat.le_trans (hd3.2 (cy (cy [] (eP Rb.zero eZ [97#8])) [cC eZ 1 4 [97#8]])) hv2
  have f3:=st3.fit k2.z hd3.1 (B:=300) (H:=20) (g:=7) hv3 (by decide) sz2 g2 (by decide)
  obtain ⟨rfl,rfl,rfl⟩:=o3.resolve_right fun h=>by have:=h.1;omega
  obtain ⟨_,rfl,sz3,g3,_⟩:=f3
  rw [hex] at hq3 ⊢
  repeat (first | refine JL.q (by first|(apply OQ.extract;rfl;rfl)|(apply OQ.move;rfl)|(apply OQ.assign;rfl)) rfl ?_ | refine JC.seq ?_ | refine JC.region ?_ | refine JL.nil ?_ | refine JE.next ?_)
  refine JL.perm (M':=(Bz.mk x.b z3).E++(aa 3 q3 (au [1])++[⟨bl,A2 5 [U8 97],true⟩])) ?_ (by exact List.perm_append_comm_assoc _ _ _)
  refine JL.mY (f:=eZ) (s:=bG) k3 (by decide) (by decide) (by show 0≤2000000;decide) hTA (fun w' hw'=>⟨fO w',fun _ a ea=>by cases ea⟩) rfl rfl rfl rfl fun r=>?_
  obtain ⟨c4,u4,z4,recs4,vs4,R4,n4,k4,p4,o4⟩:=r
  dsimp only at k4 p4 o4 ⊢
  obtain ⟨st4,o4⟩:=(o4.resolve_left fun h=>by rw [pE] at h;exact absurd h.1 (by decide)).2
  have hd4:=pF k3.r pE bG.l
  have hv4 : iA (cy (cy (cy (cy [] (eP Rb.zero eZ [97#8])) [cC eZ 1 4 [97#8]]) (gz ((Rb.zero.aD eZ [97#8]).mark eZ 1 (4 : Int).toNat) eZ)) (eP (((Rb.zero.aD eZ [97#8]).mark eZ 1 (4 : Int).toNat).aX eZ) eZ bG.l))≤500:=by
    have:=gd (eP (((Rb.zero.aD eZ [97#8]).mark eZ 1 (4 : Int).toNat).aX eZ) eZ bG.l) (cy (cy (cy [] (eP Rb.zero eZ [97#8])) [cC eZ 1 4 [97#8]]) (gz ((Rb.zero.aD eZ [97#8]).mark eZ 1 (4 : Int).toNat) eZ))
    have h2 : (bG.l : Bk).length=0:=rfl
    have h3:=hd4.2
    omega
  have f4:=st4.fit k3.z hd4.1 (B:=500) (H:=20) (g:=8) hv4 (by decide) sz3 g3 (by decide)
  obtain ⟨rfl,rfl,rfl,rfl⟩:=o4.resolve_right fun h=>by have:=h.1;omega
  have hu4 : (((Rb.zero.aD eZ [97#8]).mark eZ 1 (4 : Int).toNat).aX eZ).next eZ=2:=by rfl
  have hu1 : Rb.zero.next eZ=1:=by rfl
  rw [hu4,hu1]
  repeat (first | refine JL.q (by first|(apply OQ.extract;rfl;rfl)|(apply OQ.iC (a:=1) (b:=1) (c:=true);rfl;rfl;rfl)|(apply OQ.iC (a:=2) (b:=2) (c:=true);rfl;rfl;rfl)|(apply OQ.iC (a:=0) (b:=0) (c:=true);rfl;rfl;rfl)|(apply OQ.aS;rfl;rfl)|(apply OQ.move;rfl)|(apply OQ.assign;rfl)) rfl ?_ | refine JC.seq ?_ | refine JC.region ?_ | refine JL.nil ?_ | refine JE.next ?_ | refine JL.aB rfl rfl ?_)
  try refine JL.aB rfl rfl ?_
  refine JL.gu (v:=N 1) Tryz.underlying35 fm rfl rfl rfl rfl fun b2 _=>?_
  have hsi : ∀ (w' : World),(cV q3 [1]).ok w'→uG.ok w' ⟨some ⟨b2,0,none⟩,1,[1]⟩→Calls Tryz.prog 17 [(cV q3 [1]).v,uG.v ⟨some ⟨b2,0,none⟩,1,[1]⟩].toArray w' fun e w2=>e=.returned (.bool true)∧Ext w' w2:=fun w' h1 h2=>by
    have:=pq (cV q3 [1]) ⟨some ⟨b2,0,none⟩,1,[1]⟩ w' h1 h2 (by rw [hU hq3];decide) (by show 1<9223372036854775808;decide)
    rw [hU hq3] at this
    exact this
  have hvv : (cV q3 [1]).v=ah q3 1:=mX hq3
  have hvs : ah q3 ([1] : List Nat).length=(cV q3 [1]).v:=hvv.symm
  rw [hvs]
  repeat (first | refine JL.q (by first|(apply OQ.aF (vs:=[(cV q3 [1]).v,uG.v ⟨some ⟨b2,0,none⟩,1,[1]⟩]);exact mW;rfl;exact (fun w' hw'=>hsi w' (jR (hw'.weak (M':=aa 3 q3 (au [1])++[⟨bl,A2 5 [U8 97],true⟩]) (.drop _ _ _ (bP _ _)))) (by obtain ⟨o,ho,hA⟩:=hw'.get (.here (b:=b2));exact ⟨Nat.le_refl _,Reads.block ho (Row.all o hA)⟩)))|(apply OQ.aS;rfl;rfl)|(apply OQ.assign;rfl)) rfl ?_ | refine JL.nil ?_ | refine JE.next ?_ | refine JL.aB rfl rfl ?_)
  exact JC.ret (JE.aR rfl (RV.tmp rfl) fun w' hw=>⟨rfl,hw.bf⟩)
end
section
set_option maxRecDepth 10000
open Sl cY dy fI Bx
structure gp where
  what : Int
  u : Int
  fl : Int
  f : Bk
  s : aC
def gp.cs (c : gp) : List Value:=[cU c.what,cU c.u,cU c.fl,Z c.f,c.s.v]
def gp.ok (w : World) (c : gp) : Prop:=(-9223372036854775808≤c.u∧c.u≤9223372036854775807)∧c.f.length<9223372036854775808∧c.s.ok w
structure uC where
  ad : Option Addr
  cap : Nat
  l : List gp
def uC.v (s : uC) : Value:=.slice s.ad s.l.length s.cap
structure uC.ok (w : World) (s : uC) : Prop where
  len : s.l.length≤s.cap
  reads : Reads w s.ad (s.l.map gp.cs).flatten
  all : ∀ c ∈ s.l,c.ok w
def dG : gp:=⟨0,0,0,[],bG⟩
theorem uC.css (s : uC) : ∀ c ∈ s.l.map gp.cs,c.length=5:=by
  intro c hc
  obtain ⟨d,_,rfl⟩:=List.mem_map.1 hc
  rfl
theorem uC.ok.at {w : World} {s : uC} (h : s.ok w) {i : Nat} (hi : i<s.l.length) : ∃ b j,s.ad=some ⟨b,j,none⟩∧b<w.heap.size∧∀ k u,((s.l.getD i dG).cs)[k]?=some u→w.cell? ⟨b,j+i * 5+k,none⟩=some u:=by
  have hl:=bH s.css
  rw [List.length_map] at hl
  have h0 : 0<(s.l.map gp.cs).flatten.length:=by omega
  obtain ⟨b,j,e,hc⟩:=h.reads.at h0
  refine ⟨b,j,e,?_,fun k u hu=>?_⟩
  · obtain ⟨v,hv⟩ : ∃ v,(s.l.map gp.cs).flatten[0]?=some v:=⟨_,List.getElem?_eq_getElem h0⟩
    exact block_lt_of_cell (hc 0 v hv)
  · have hat:=fu (i:=i) s.css (by rw [List.length_map];exact hi)
    have e2 : (s.l.map gp.cs).getD i []=(s.l.getD i dG).cs:=by simp [hi]
    rw [e2] at hat
    rw [← hat,List.getElem?_take] at hu
    split at hu
    · rw [List.getElem?_drop] at hu
      rw [Nat.add_assoc]
      exact hc _ u hu
    · cases hu
theorem uC.mem {s : uC} {i : Nat} (hi : i<s.l.length) : s.l.getD i dG ∈ s.l:=by
  rw [List.getD_eq_getElem?_getD,List.getElem?_eq_getElem hi]
  exact List.getElem_mem hi
theorem Db : jX Tryz.prog 26=true:=by kernel_rfl
theorem Cl : dH Tryz.prog 26=some 5:=by kernel_rfl
theorem Eo : zc Tryz.prog 26=some [cU 0,cU 0,cU 0,Z [],.slice none 0 0]:=by kernel_rfl
end
section
namespace Bx
open fI dy cY
structure Alike (R R2 : Rb) (g : Bk) : Prop where
  next : R2.next g=R.next g
  list : R2.list g=R.list g
  find : ∀ u,R2.find g u=R.find g u
theorem Alike.refl (R : Rb) (g : Bk) : Alike R R g:=⟨rfl,rfl,fun _=>rfl⟩
end Bx
end
section
set_option maxRecDepth 10000
open Sl cY dy fI Bx
abbrev Mr:=(Nat × Nat) × Ml
def Mr.cs (p : Mr) : List Value:=cm p.2.u p.2.fl (vQ p.1 p.2.b)
def Mr.E (p : Mr) : List ai:=aa 5 (some p.1) (p.2.v.map U8)
structure Ma where
  q : Nat × Nat
  rs : List Mr
def Ma.v (z : Ma) : Value:=ah (some z.q) z.rs.length
def Ma.E (z : Ma) : List ai:=aY 46 3 (some z.q) (z.rs.map Mr.cs)++z.rs.flatMap Mr.E
theorem Ma.wr (z : Ma) : ∀ e ∈ z.E,e.wr=true:=by
  intro e he
  rcases List.mem_append.1 he with he | he
  · exact jy _ _ _ _ e he
  · obtain ⟨p,_,he⟩:=List.mem_flatMap.1 he
    exact aP 5 (some p.1) (p.2.v.map U8) e he
theorem B1 : EI Tryz.prog 46 (.agg #[.int .i64 0,.int .i64 0,.slice none 0 0]) 3 40:=by unfold EI;kernel_rfl
end
section
namespace Bx
open fI dy cY
theorem eS {α : Type} {a b : List α} (h : ∀ (_ : BEq α) (_ : LawfulBEq α) (x : α),a.count x=b.count x) : a.Perm b:=by
  classical
  exact List.perm_iff_count.2 fun x=>h inferInstance inferInstance x
theorem Aj {R : Rb} {n : Nat} (k : R.ok n) {i j : Nat} {a b : Ml} (ha : R.ms[i]?=some a) (hb : R.ms[j]?=some b) (hf : a.f=b.f) (hu : a.u=b.u) : i=j:=by
  have hi:=(List.getElem?_eq_some_iff.1 ha)
  have hj:=(List.getElem?_eq_some_iff.1 hb)
  obtain ⟨li,rfl⟩:=hi
  obtain ⟨lj,rfl⟩:=hj
  have hp:=List.pairwise_iff_getElem.1 k.oX
  rcases Nat.lt_trichotomy i j with h | h | h
  · have:=hp i j li lj h hf;omega
  · exact h
  · have:=hp j i lj li h hf.symm;omega
theorem yx {R : Rb} {n : Nat} (k : R.ok n) {f : Bk} {u : Int} {fl i : Nat} {m : Ml} (hi : R.ms[i]?=some m) (hm : m.f=f∧(m.u : Int)=u) : R.ms.set i ⟨m.f,m.u,fl,m.b⟩=(R.mark f u fl).ms:=by
  show _=R.ms.map (iJ f u fl)
  apply List.ext_getElem?
  intro j
  rw [List.getElem?_set,List.getElem?_map]
  by_cases h : i=j
  · subst h
    rw [if_pos rfl,if_pos (List.getElem?_eq_some_iff.1 hi).1,hi]
    show _=some (iJ f u fl m)
    rw [iJ,if_pos hm]
  · rw [if_neg h]
    cases hj : R.ms[j]? with
    | none=>rfl
    | some a=>
      show some a=some (iJ f u fl a)
      rw [iJ,if_neg]
      rintro ⟨h1,h2⟩
      exact h (Aj k hi hj (hm.1.trans h1.symm) (by omega))
def pL (R : Rb) (f : Bk) (i : Nat) : Rb:=⟨R.ms,(R.nx.take i).map (hit R f)++R.nx.drop i⟩
theorem lD (R : Rb) (f : Bk) (i : Nat) : (pL R f i).nx.length=R.nx.length:=by
  show ((R.nx.take i).map (hit R f)++R.nx.drop i).length=_
  rw [List.length_append,List.length_map,← List.length_append,List.take_append_drop]
theorem B3 (R : Rb) (f : Bk) (i : Nat) : (pL R f i).nx[i]?=R.nx[i]?:=by
  show ((R.nx.take i).map (hit R f)++R.nx.drop i)[i]?=_
  by_cases h : i≤R.nx.length
  · have e : ((R.nx.take i).map (hit R f)).length=i:=by rw [List.length_map,List.length_take,Nat.min_eq_left h]
    rw [List.getElem?_append_right (by omega),e,Nat.sub_self,List.getElem?_drop,Nat.add_zero]
  · rw [List.drop_eq_nil_of_le (by omega),List.append_nil,List.getElem?_eq_none (by rw [List.length_map,List.length_take];omega),List.getElem?_eq_none (by omega)]
theorem oF (R : Rb) (f : Bk) (i : Nat) : (pL R f i).nx.map Prod.fst=R.nx.map Prod.fst:=by
  show ((R.nx.take i).map (hit R f)++R.nx.drop i).map Prod.fst=_
  rw [List.map_append,List.map_map]
  have e : Prod.fst ∘ hit R f=Prod.fst:=by
    funext x
    simp only [Function.comp,hit]
    split <;> rfl
  rw [e,← List.map_append,List.take_append_drop]
theorem yy {R : Rb} {f : Bk} {i : Nat} {x : Bk × Nat} (hx : R.nx[i]?=some x) : (pL R f (i+1)).nx=(pL R f i).nx.set i (hit R f x):=by
  have hi:=(List.getElem?_eq_some_iff.1 hx).1
  show (R.nx.take (i+1)).map (hit R f)++R.nx.drop (i+1)=((R.nx.take i).map (hit R f)++R.nx.drop i).set i (hit R f x)
  have e : ((R.nx.take i).map (hit R f)).length=i:=by rw [List.length_map,List.length_take,Nat.min_eq_left (by omega)]
  rw [List.set_append_right _ _ (by omega),e,Nat.sub_self,List.drop_eq_getElem_cons hi,List.set_cons_zero,List.take_succ_eq_append_getElem hi,List.map_append]
  rw [List.getElem?_eq_getElem hi,Option.some.injEq] at hx
  rw [hx]
  simp
theorem Ak (R : Rb) (f : Bk) : (pL R f R.nx.length).nx=R.nx.map (hit R f):=by
  show (R.nx.take R.nx.length).map (hit R f)++R.nx.drop R.nx.length=_
  rw [List.take_length,List.drop_length,List.append_nil]
theorem B4 {R : Rb} {f : Bk} (h : ∀ y ∈ R.nx,y.1≠f) : R.nx.map (hit R f)=R.nx:=by
  conv=>rhs;rw [← List.map_id R.nx]
  apply List.map_congr_left
  intro x hx
  rw [hit,if_neg (h x hx)]
  rfl
def AU (R : Rb) (f : Bk) (i : Nat) : Bool:=(R.nx.take i).any fun x=>decide (x.1=f)
theorem yz {R : Rb} {f : Bk} {i : Nat} {x : Bk × Nat} (hx : R.nx[i]?=some x) : AU R f (i+1)=(AU R f i || decide (x.1=f)):=by
  have hi:=(List.getElem?_eq_some_iff.1 hx).1
  rw [List.getElem?_eq_getElem hi,Option.some.injEq] at hx
  unfold AU
  rw [List.take_succ_eq_append_getElem hi,hx,List.any_append]
  simp
theorem Al (R : Rb) (f : Bk) : AU R f R.nx.length=(R.next? f).isSome:=by
  unfold AU Rb.next?
  rw [List.take_length,Option.isSome_map,List.isSome_find?]
theorem ng (R : Rb) (f b : Bk) : (R.aD f b).nx=if AU R f R.nx.length then (pL R f R.nx.length).nx else (pL R f R.nx.length).nx++[(f,2)]:=by
  rw [Al,Ak]
  show (if (R.next? f).isSome then R.nx.map (hit R f) else R.nx++[(f,2)])=_
  cases h : (R.next? f).isSome
  · rw [if_neg (by simp),if_neg (by simp),B4]
    intro y hy e
    have : R.next? f=none:=by cases hq : R.next? f with | none=>rfl | some x=>rw [hq] at h;cases h
    unfold Rb.next? at this
    rw [Option.map_eq_none_iff,List.find?_eq_none] at this
    have:=this y hy
    simp [e] at this
  · rfl
end Bx
end
section
set_option maxRecDepth 10000
open Sl cY dy fI Bx
theorem Rx.wr (z : Rx) (R : Rb) : ∀ e ∈ z.E R,e.wr=true:=by
  intro e he
  unfold Rx.E at he
  rcases List.mem_cons.1 he with rfl | he
  · rfl
  rcases List.mem_append.1 he with he | he
  · exact aP _ _ _ e he
  rcases List.mem_append.1 he with he | he
  · exact jy _ _ _ _ e he
  rcases List.mem_append.1 he with he | he
  · exact aP _ _ _ e he
  rcases List.mem_append.1 he with he | he
  · exact aP _ _ _ e he
  · exact gO _ e he
section
variable {n : Nat} {w0 : World} {S : List Nat} {ops : Array Oper} {Q : Exit→Act→World→Prop} {l : List Oper} {E : Env} {M : List ai}
variable {d : Nat} {ty : TypeId} {pos : String} {aft : Array Edge} {x1 x2 x3 : Operand} {ats : Array TypeId} {z : Rx} {R : Rb} {f : Bk} {u : Int} {fg : Nat}
theorem JL.yA (k : z.ok R) (hn : R.nx.length≤1000000) (e1 : ev E x1=some (Pt z.p 0)) (e2 : ev E x2=some (Z f)) (hd : Nat.blt d n=true)
    (kk : JL Tryz.prog n w0 S ops Q l ((d,N (R.next f))::E) (z.E R++M)) : JL Tryz.prog n w0 S ops Q (⟨some d,.call ⟨.value (.func 10),#[x1,x2],ats⟩,ty,pos,aft,none⟩::l) E (z.E R++M):=
  JL.bE (ι:=Unit) (xs:=[x1,x2]) (vs:=[Pt z.p 0,Z f]) (fun _=>N (R.next f)) (fun _=>z.E R) rz (by simp [gr,e1,e2]) hd (z.wr R) (fun _=>z.wr R)
    (fun w _ hw=>(tq z R k f hn w hw).mono fun _ _ h=>⟨(),h⟩) fun _=>kk
theorem JL.Dc (k : z.ok R) (hn : R.ms.length≤1000000) (e1 : ev E x1=some (Pt z.p 0)) (e2 : ev E x2=some (Z f)) (e3 : ev E x3=some (cU u)) (hd : Nat.blt d n=true)
    (kk : ∀ r : {r : Int // yu R f u r},JL Tryz.prog n w0 S ops Q l ((d,cU r.1)::E) (z.E R++M)) : JL Tryz.prog n w0 S ops Q (⟨some d,.call ⟨.value (.func 9),#[x1,x2,x3],ats⟩,ty,pos,aft,none⟩::l) E (z.E R++M):=
  JL.bE (ι:={r : Int // yu R f u r}) (xs:=[x1,x2,x3]) (vs:=[Pt z.p 0,Z f,cU u]) (fun r=>cU r.1) (fun _=>z.E R) rA (by simp [gr,e1,e2,e3]) hd (z.wr R) (fun _=>z.wr R)
    (fun w _ hw=>tv z R k f u hn w hw) kk
theorem JL.AV (k : z.ok R) (hfg : fg=0∨fg=4) (hfl : ∀ m ∈ R.ms,m.fl<16) (hn : R.ms.length≤1000000) (e1 : ev E x1=some (Pt z.p 0)) (e2 : ev E x2=some (Z f)) (e3 : ev E x3=some (N fg)) (hd : Nat.blt d n=true)
    (kk : ∀ q : Nat × Nat,JL Tryz.prog n w0 S ops Q l ((d,ah (some q) (yw R f fg).length)::E) (aa 3 (some q) (au (yw R f fg))++(z.E R++M))) : JL Tryz.prog n w0 S ops Q (⟨some d,.call ⟨.value (.func 14),#[x1,x2,x3],ats⟩,ty,pos,aft,none⟩::l) E (z.E R++M):=
  JL.bE (ι:=Nat × Nat) (xs:=[x1,x2,x3]) (vs:=[Pt z.p 0,Z f,N fg]) (fun q=>ah (some q) (yw R f fg).length) (fun q=>aa 3 (some q) (au (yw R f fg))++z.E R) rB (by simp [gr,e1,e2,e3]) hd (z.wr R)
    (fun q e he=>(List.mem_append.1 he).elim (aP _ _ _ e) (z.wr R e)) (fun w _ hw=>tw z R k f fg hfg hfl hn w hw) fun q=>by rw [List.append_assoc];exact kk q
end
abbrev B5 (b : Bk):={q : Acc // q=none→b=[]}
abbrev Ep (b : Bk):=B5 b × Nat × (Nat × Nat)
instance (b : Bk) : Inhabited (B5 b):=⟨⟨some (0,0),nofun⟩⟩
theorem Er : dH Tryz.prog 34=some 1:=by kernel_rfl
theorem DO : dH Tryz.prog 33=some 1:=by kernel_rfl
theorem EJ : dH Tryz.prog 35=some 1:=by kernel_rfl
theorem gi : EI Tryz.prog 9 (Z []) 1 16:=by unfold EI;kernel_rfl
theorem eD (q : Acc) (k : Nat) : (ah q k).oneCell'=true:=by cases q <;> rfl
theorem dw (q : Acc) (k : Nat) : (ah q k).cells=#[ah q k]:=by cases q <;> rfl
section
variable {n : Nat} {w0 : World} {S : List Nat} {ops : Array Oper} {Q : Exit→Act→World→Prop} {l : List Oper} {E : Env} {M MF : List ai}
variable {d : Nat} {t ty : TypeId} {pos : String} {aft : Array Edge} {x y : Operand}
theorem AW {s : aC} {b : Nat} (hs : s.ok w0) (ha : ∀ (w : World) (M : List ai),Holds w0 S M w→s.ok w) (e1 : ev E x=some (.slice (some ⟨b,0,none⟩) 0 0)) (e2 : ev E y=some s.v) (hd : Nat.blt d n=true) (hsl : s.l.length≤1000000)
    (kk : ∀ q : B5 s.l,JL Tryz.prog n w0 S ops Q l ((d,ah q.1 s.l.length)::E) (aa 5 q.1 (s.l.map U8)++([]++MF))) :
    JL Tryz.prog n w0 S ops Q (⟨some d,.call ⟨.builtin .append,#[x,y],#[24,24]⟩,ty,pos,aft,none⟩::l) E (([⟨b,Sl.Own 5 1 0 0 [],true⟩]++[])++MF):=by
  have e3 : ev E x=some (ah (some (b,0)) ([] : List Value).length):=e1
  refine JL.bM (M:=MF) (xs:=[]) (cs:=s.l.map U8) (m:=s.l.length) (ad:=s.ad) (sc:=s.cap) (some (b,0)) Tryz.underlying24 pJ nofun e3 e2 (List.length_map _) (fun w hw=>(ha w _ hw).reads) (fun v hv=>by obtain ⟨q,_,rfl⟩:=List.mem_map.1 hv;rfl) rfl (by simp only [List.length_nil];omega) (by simp only [List.length_nil];omega) hd fun q' hq'=>?_
  have hn : q'=none→s.l=[]:=fun e=>by have:=hq' e;simpa using this
  have:=kk ⟨q',hn⟩
  show JL Tryz.prog n w0 S ops Q l ((d,ah q' (s.l.map U8).length)::E) (aa 5 q' (s.l.map U8)++MF)
  rw [List.length_map]
  exact this
theorem B6 {z : Rx} {R : Rb} {b u : Nat} {s : aC} (k : z.ok R) (hn : R.ms.length≤1000000) (e1 : ev E x=some (ah z.qm R.ms.length)) (e2 : ev E y=some (.slice (some ⟨b,0,none⟩) 1 1)) (hd : Nat.blt d n=true)
    (kk : ∀ q : Nat × Nat,JL Tryz.prog n w0 S ops Q l ((d,ah (some q) (R.ms.length+1))::E) (aY 46 3 (some q) (z.ms R++[cm u 0 s])++([]++MF))) :
    JL Tryz.prog n w0 S ops Q (⟨some d,.call ⟨.builtin .append,#[x,y],#[34,34]⟩,ty,pos,aft,none⟩::l) E ((aY 46 3 z.qm (z.ms R)++((⟨b,Row 46 (cm u 0 s),true⟩::[])++[]))++MF):=by
  have hl : (z.ms R).length=R.ms.length:=Rx.Ag k
  refine JL.perm (M':=⟨b,Row 46 (cm u 0 s),true⟩::(aY 46 3 z.qm (z.ms R)++MF)) ?_ (eS fun _ _ y=>by simp only [List.count_append,List.count_cons,List.count_nil];omega)
  refine JL.fS (c:=cm u 0 s) (L:=z.ms R) z.qm Tryz.underlying34 B1 (fun e=>by have:=k.qm e;exact List.length_eq_zero_iff.1 (by rw [hl,this];rfl)) (by rw [hl];exact e1) e2 rfl (fun v hv=>List.all_eq_true.1 (DK u 0 s) v hv) rfl (by decide) (by rw [hl];omega) (by rw [hl];omega) hd fun b' cap'=>?_
  have:=kk (b',cap')
  rw [List.nil_append] at this
  rw [List.length_append,hl]
  exact this
end
theorem JL.rD {P : Program} {n : Nat} {w0 : World} {S : List Nat} {ops : Array Oper} {Q : Exit→Act→World→Prop} {l : List Oper} {E : Env} {M M' : List ai} {b j k cap : Nat} {t e ty : TypeId} {pos : String} {aft : Array Edge} {v : Value} {x y : Operand} {xs xs' : List Value}
    (hz : dH P t=some 1) (hx : ev E x=some (.pointer (some ⟨b,j,none⟩))) (hy : ev E y=some v) (hv : v.oneCell'=true) (hcl : v.cells=#[v]) (hu : lE M b (Sl.Own e 1 k cap xs) (Sl.Own e 1 k cap xs') M') (hj : j<xs.length) (he : xs.set j v=xs')
    (kk : JL P n w0 S ops Q l E M') : JL P n w0 S ops Q (⟨none,.store t x y,ty,pos,aft,none⟩::l) E M:=
  JL.store hx hy hz hv hcl hu (by
    rintro o ⟨sp,rfl,h2,h3,h4⟩
    subst he
    refine ⟨_,_,rfl,by simp only [List.size_toArray,List.length_append];omega,sp,?_,by simpa using h2,by simpa using h3,h4⟩
    simp only [List.setIfInBounds_toArray]
    rw [List.set_append_left _ _ hj]) kk
structure tC (z : Rx) (R' : Rb) where
  z' : Rx
  p : z'.p=z.p
  ok : z'.ok R'
theorem Dd (a : ai) (A B C D F : List ai) : (a::(A++(B++(C++(D++F))))).Perm (D++(a::(A++(B++(C++F))))):=eS fun _ _ y=>by simp only [List.count_append,List.count_cons];omega
theorem DP (a b : ai) (A B C D F : List ai) : (b::(a::(A++(B++(C++(D++F)))))).Perm (C++(b::a::(A++(B++(D++F))))):=eS fun _ _ y=>by simp only [List.count_append,List.count_cons];omega
theorem DQ (a b : ai) (A B C D F : List ai) : (C++(b::a::(A++(B++(D++F))))).Perm (a::(A++(B++(C++(D++(b::F)))))):=eS fun _ _ y=>by simp only [List.count_append,List.count_cons];omega
theorem DR (a b : ai) (A B C D F : List ai) : (b::(a::(A++(B++(C++(D++F)))))).Perm (D++(b::a::(A++(B++(C++F))))):=eS fun _ _ y=>by simp only [List.count_append,List.count_cons];omega
theorem DS (a b : ai) (A B C D F : List ai) : (D++(b::a::(A++(B++(C++F))))).Perm (a::(A++(B++(C++(D++(b::F)))))):=eS fun _ _ y=>by simp only [List.count_append,List.count_cons];omega
theorem DT (a b : ai) (A B C D F : List ai) : (b::(a::(A++(B++(C++(D++F)))))).Perm (A++(b::a::(B++(C++(D++F))))):=eS fun _ _ y=>by simp only [List.count_append,List.count_cons];omega
theorem DU (a b : ai) (A B C D F : List ai) : (A++(b::a::(B++(C++(D++F))))).Perm (a::(B++((A++(C++(D++F)))++[b]))):=eS fun _ _ y=>by simp only [List.count_append,List.count_cons,List.count_nil];omega
theorem DV (a b : ai) (A B C D F X : List ai) : ([a]++(B++(X++(((A++(C++(D++F)))++[b])++[])))).Perm (a::(A++(B++(C++(D++(F++(X++[b]))))))):=eS fun _ _ y=>by simp only [List.count_append,List.count_cons,List.count_nil];omega
theorem nh : aL Tryz.prog 12:=⟨_,Tryz.func12,rfl,by kernel_rfl⟩
theorem vT (z : Rx) (R : Rb) (k : z.ok R) (f : Bk) (s : aC) {fn : Func} (hr : fn.results=#[]) {S : List Nat} {w : World} {R2 : Rb} (hR2 : R2=R.aD f s.l) (z1 : Rx) (hp : z1.p=z.p) (k1 : z1.ok ⟨R.ms,R2.nx⟩) {b : Nat} {q0 : Nat × Nat} {A : Obj→Prop} (q8 : B5 s.l) (q11 : Nat × Nat) {E : Env} :
    JE 84 w S (bodyPost Tryz.prog fn fun e w'=>∃ r : tC z R2,e=.returned (.tuple #[])∧Holds w S (r.z'.E R2) w') .normal E
      ([⟨z.p,Row 37 [ah (some q0) (R.ms.length+1),ah (some q11) (R.ms.length+1),ah z1.qn R2.nx.length,ah z1.qx R2.nx.length],true⟩]++(aY 46 3 (some q11) (z.ms R++[cm (R.next f) 0 (aI q8.1 s.l)])++(aa 5 q8.1 (s.l.map U8)++(((aa 9 (some q0) (R.ms.map (fun m=>Z m.f)++[Z f])++(aa 9 z1.qn (R2.nx.map fun x=>Z x.1)++(aa 3 z1.qx (R2.nx.map fun x=>N x.2)++ay z.ss)))++[⟨b,A,true⟩])++[])))):=by
  subst hR2
  obtain ⟨ms,nx⟩:=R
  have hss : (z.ss++[aI q8.1 s.l]).map aC.l=((Rb.mk ms nx).aD f s.l).ms.map Ml.b:=by
    show _=(ms++[Ml.mk f ((Rb.mk ms nx).next f) 0 s.l]).map Ml.b
    rw [List.map_append,List.map_append,k.ss,List.map_singleton,List.map_singleton,gI q8.2]
  have hok : (Rx.mk z.p (some q0) (some q11) z1.qn z1.qx (z.ss++[aI q8.1 s.l])).ok ((Rb.mk ms nx).aD f s.l):=
    ⟨hss,fun y hy=>by
      rcases List.mem_append.1 hy with hy | hy
      · exact k.h0 y hy
      · rw [List.mem_singleton.1 hy];exact nJ,nofun,nofun,k1.qn,k1.qx⟩
  refine JE.perm (DV _ _ _ _ _ _ _ _) ?_
  refine JE.rI hr fun w' hw=>⟨⟨Rx.mk z.p (some q0) (some q11) z1.qn z1.qx (z.ss++[aI q8.1 s.l]),rfl,hok⟩,rfl,?_⟩
  refine hw.weak ?_
  unfold Rx.E Rx.ms Rx.cs
  dsimp only
  have hml : ((Rb.mk ms nx).aD f s.l).ms.length=ms.length+1:=by
    show (ms++[_]).length=_
    rw [List.length_append]
    rfl
  have hzz : List.zipWith (fun (m : Ml) t=>cm m.u m.fl t) ((Rb.mk ms nx).aD f s.l).ms (z.ss++[aI q8.1 s.l])=List.zipWith (fun (m : Ml) t=>cm m.u m.fl t) ms z.ss++[cm ((Rb.mk ms nx).next f) 0 (aI q8.1 s.l)]:=by
    show List.zipWith _ (ms++[Ml.mk f ((Rb.mk ms nx).next f) 0 s.l]) (z.ss++[aI q8.1 s.l])=_
    rw [List.zipWith_append (by have : z.ss.length=ms.length:=Rx.len k;omega)]
    rfl
  have hmf : ((Rb.mk ms nx).aD f s.l).ms.map (fun m=>Z m.f)=ms.map (fun m=>Z m.f)++[Z f]:=by
    show (ms++[_]).map _=_
    rw [List.map_append]
    rfl
  rw [hml,hzz,hmf,fH]
  refine .keep _ _ _ _ _ _ (fun _ h=>h) (aE (aE (aE (aE (aE ?_ _) _) _) _) _)
  show aj (ay [aI q8.1 s.l]) _
  have : ay [aI q8.1 s.l]=(aI q8.1 s.l).dQ++[]:=rfl
  rw [this]
  exact dJ (nK _ _) (.nil _)
set_option maxHeartbeats 16000000 in
theorem nE (z : Rx) (R : Rb) (k : z.ok R) (f : Bk) (s : aC) (hn : R.ms.length≤1000000) (hx : R.nx.length≤1000000) (hu : ∀ x ∈ R.nx,x.2≤1000001) (hsl : s.l.length≤1000000) (w : World) (h0 : Holds w (keys (z.E R)) (z.E R) w) (hs : s.ok w) (ha : gw s (keys (z.E R))) :
    Calls Tryz.prog 12 [Pt z.p 0,Z f,s.v].toArray w fun e w'=>∃ r : tC z (R.aD f s.l),e=.returned (.tuple #[])∧Holds w (keys (z.E R)) (r.z'.E (R.aD f s.l)) w':=by
  generalize keys (z.E R)=S at h0 ha ⊢
  have rdRd : ∀ (w' : World) (M : List ai),Holds w S M w'→s.ok w':=fun w' M hw'=>hs.iY hw' ha
  refine enter (n:=84) Tryz.func12 rfl rfl rfl h0 ?_
  refine JC.seq (JC.region ?_)
  repeat (refine JL.q (by (apply OQ.move;rfl)) rfl ?_)
  refine JL.perm (M':=z.E R++[]) ?_ (by rw [List.append_nil])
  refine JL.yA k hx rfl rfl rfl ?_
  rw [List.append_nil]
  repeat (first | refine JL.q (by (apply OQ.assign;rfl)) rfl ?_ | refine JC.seq ?_ | refine JC.region ?_ | refine JC.block ?_ | refine JL.nil ?_ | refine JE.next ?_)
  refine JC.loop (fun i : Nat=>[(0,Pt z.p 0),(1,Z f),(2,s.v),(6,N (R.next f)),(7,.bool (AU R f i)),(8,N i)]) (fun i=>z.E (pL R f i)) (fun i=>R.nx.length - i) (fun i=>i≤R.nx.length) 0 (Nat.zero_le _) (by repeat (first | exact ag.nil | refine ag.cons _ _ _ rfl ?_)) (aj.refl _) ?_
  intro i hi
  have hnl:=lD R f i
  have hat:=B3 R f i
  have hnm:=oF R f i
  have hcs : z.cs (pL R f i)=z.cs R:=by unfold Rx.cs;rw [hnl];rfl
  have hms : z.ms (pL R f i)=z.ms R:=rfl
  have hc2 : ∀ o,Row 37 (z.cs R) o→cellAt o 2=some (ah z.qn R.nx.length):=Row.cell rfl
  have hc3 : ∀ o,Row 37 (z.cs R) o→cellAt o 3=some (ah z.qx R.nx.length):=Row.cell rfl
  have hnm2 : (pL R f i).nx.map (fun x=>Z x.1)=R.nx.map fun x=>Z x.1:=by
    have:=congrArg (List.map Z) hnm
    rwa [List.map_map,List.map_map] at this
  obtain ⟨xs,hxs⟩ : ∃ xs,(pL R f i).nx.map (fun x=>N x.2)=xs:=⟨_,rfl⟩
  have hxl : xs.length=R.nx.length:=by rw [← hxs,List.length_map,hnl]
  have hzE : z.E (pL R f i)=⟨z.p,Row 37 (z.cs R),true⟩::(aa 9 z.qi (R.ms.map fun m=>Z m.f)++(aY 46 3 z.qm (z.ms R)++(aa 9 z.qn (R.nx.map fun x=>Z x.1)++(aa 3 z.qx xs++ay z.ss)))):=by
    unfold Rx.E
    rw [hcs,hms,hnm2,hxs]
    rfl
  rw [hzE]
  repeat (first | refine JL.q (by first|(apply OQ.load;exact pz;rfl;exact .here;exact hc2)|(apply OQ.iV (q:=z.qn) (k:=R.nx.length);exact Tryz.underlying33;exact (fun e=>by rw [k.qn e];rfl);rfl)|(apply OQ.move;rfl)|(apply OQ.aO;rfl)|(apply OQ.dX;rfl;rfl)|(apply OQ.aV;rfl;rfl;rfl;exact (by decide);rfl)) rfl ?_ | refine JC.seq ?_ | refine JC.region ?_ | refine JL.nil ?_ | refine JE.next ?_)
  refine JC.cond rfl (fun h=>?_) (fun h=>?_)
  · have hi' : i<R.nx.length:=by have:=of_decide_eq_true h;omega
    clear h
    obtain ⟨x,hx0⟩ : ∃ x,R.nx[i]?=some x:=⟨R.nx[i],List.getElem?_eq_getElem hi'⟩
    have hux:=hu x (List.mem_of_getElem? hx0)
    obtain ⟨rn,hrn⟩ : ∃ r,z.qn=some r:=by cases h : z.qn with | none=>rw [k.qn h] at hi';cases hi' | some r=>exact ⟨r,rfl⟩
    obtain ⟨rx,hrx⟩ : ∃ r,z.qx=some r:=by cases h : z.qx with | none=>rw [k.qx h] at hi';cases hi' | some r=>exact ⟨r,rfl⟩
    have hz1 : (R.nx.map fun x=>Z x.1)[i]?=some (Z x.1):=by rw [List.getElem?_map,hx0];rfl
    have hz2 : xs[i]?=some (N x.2):=by rw [← hxs,List.getElem?_map,hat,hx0];rfl
    have hk1 : ∀ o,Sl.Own 9 1 (R.nx.map fun x=>Z x.1).length rn.2 (R.nx.map fun x=>Z x.1) o→cellAt o (0+i)=some (Z x.1):=by rw [Nat.zero_add];exact Sl.Own.cell hz1
    have hk2 : ∀ o,Sl.Own 3 1 xs.length rx.2 xs o→cellAt o (0+i)=some (N x.2):=by rw [Nat.zero_add];exact Sl.Own.cell hz2
    have hkn:=yz (f:=f) hx0
    have hsu:=yy (f:=f) hx0
    have hE2 : z.E (pL R f (i+1))=⟨z.p,Row 37 (z.cs R),true⟩::(aa 9 z.qi (R.ms.map fun m=>Z m.f)++(aY 46 3 z.qm (z.ms R)++(aa 9 z.qn (R.nx.map fun x=>Z x.1)++(aa 3 z.qx (xs.set i (N (hit R f x).2))++ay z.ss)))):=by
      unfold Rx.E
      have e1 : z.cs (pL R f (i+1))=z.cs R:=by unfold Rx.cs;rw [lD];rfl
      have e2 : (pL R f (i+1)).nx.map (fun x=>Z x.1)=R.nx.map fun x=>Z x.1:=by
        have:=congrArg (List.map Z) (oF R f (i+1))
        rwa [List.map_map,List.map_map] at this
      have e3 : (pL R f (i+1)).nx.map (fun x=>N x.2)=xs.set i (N (hit R f x).2):=by rw [hsu,List.map_set,hxs]
      rw [e1,e2,e3]
      rfl
    obtain ⟨F,hF⟩ : ∃ F,ay z.ss=F:=⟨_,rfl⟩
    obtain ⟨A,hA⟩ : ∃ A,aa 9 z.qi (R.ms.map fun m=>Z m.f)=A:=⟨_,rfl⟩
    obtain ⟨B,hB⟩ : ∃ B,aY 46 3 z.qm (z.ms R)=B:=⟨_,rfl⟩
    rw [hF,hA,hB] at hE2 ⊢
    have hcn : ah z.qn R.nx.length=.slice (some ⟨rn.1,0,none⟩) R.nx.length rn.2:=by rw [hrn];rfl
    have hcx : ah z.qx R.nx.length=.slice (some ⟨rx.1,0,none⟩) R.nx.length rx.2:=by rw [hrx];rfl
    rw [hcn] at hc2
    rw [hcx] at hc3
    have hH1 : Has (⟨z.p,Row 37 (z.cs R),true⟩::(A++(B++(aa 9 z.qn (R.nx.map fun x=>Z x.1)++(aa 3 z.qx xs++F))))) rn.1 (Sl.Own 9 1 (R.nx.map fun x=>Z x.1).length rn.2 (R.nx.map fun x=>Z x.1)) true:=.there (aG (aG (by rw [hrn];exact .here)))
    cases hg : decide (x.1=f)
    · have hh : N (hit R f x).2=N x.2:=by rw [hit,if_neg (of_decide_eq_false hg)]
      have hse : xs.set i (N x.2)=xs:=by
        apply List.ext_getElem?
        intro j
        rw [List.getElem?_set]
        by_cases h : i=j
        · subst h;rw [if_pos rfl,if_pos (by omega),hz2]
        · rw [if_neg h]
      rw [hh,hse] at hE2
      rw [hg,Bool.or_false] at hkn
      repeat (first | refine JL.q (by first|(apply OQ.load;exact pz;rfl;exact .here;exact hc2)|(apply OQ.bD (i:=i) (b:=rn.1) (j:=0);exact Tryz.underlying33;exact iE;rfl;rfl;exact hi')|(apply OQ.load;exact eE;rfl;exact hH1;exact hk1)|(apply OQ.lS;rfl;rfl;exact hg)|(apply OQ.move;rfl)|(apply OQ.aO;rfl)|(apply OQ.aV;rfl;rfl;rfl;exact (by decide);rfl)) rfl ?_ | refine JC.seq ?_ | refine JC.region ?_ | refine JC.block ?_ | refine JC.skip ?_ | refine JL.nil ?_ | refine JE.next ?_)
      refine JC.cond_false rfl rfl ?_
      repeat (first | refine JL.q (by first|(apply OQ.move;rfl)|(apply OQ.assign;rfl)|(apply OQ.addN;rfl;rfl;exact (by (try simp only []);omega))) rfl ?_ | refine JC.region ?_ | refine JC.skip ?_ | refine JL.nil ?_ | refine JE.next ?_ | refine JE.an ?_)
      refine JE.again (i:=i) (i+1) hi' (by omega) (by rw [hkn];exact (by repeat (first | exact ag.nil | refine ag.cons _ _ _ rfl ?_))) (by rw [hE2];exact aj.refl _)
    · have hh : N (hit R f x).2=N (x.2+1):=by rw [hit,if_pos (of_decide_eq_true hg)]
      rw [hh] at hE2
      rw [hg,Bool.or_true] at hkn
      repeat (first | refine JL.q (by first|(apply OQ.load;exact pz;rfl;exact .here;exact hc2)|(apply OQ.bD (i:=i) (b:=rn.1) (j:=0);exact Tryz.underlying33;exact iE;rfl;rfl;exact hi')|(apply OQ.load;exact eE;rfl;exact hH1;exact hk1)|(apply OQ.lS;rfl;rfl;exact hg)|(apply OQ.move;rfl)|(apply OQ.aO;rfl)|(apply OQ.aV;rfl;rfl;rfl;exact (by decide);rfl)) rfl ?_ | refine JC.seq ?_ | refine JC.region ?_ | refine JC.block ?_ | refine JC.skip ?_ | refine JL.nil ?_ | refine JE.next ?_)
      refine JC.cond_true rfl rfl ?_
      have hH2 : Has (⟨z.p,Row 37 (z.cs R),true⟩::(A++(B++(aa 9 z.qn (R.nx.map fun x=>Z x.1)++(aa 3 z.qx xs++F))))) rx.1 (Sl.Own 3 1 xs.length rx.2 xs) true:=.there (aG (aG (aG (by rw [hrx];exact .here))))
      refine JC.seq (JC.region ?_)
      repeat (refine JL.q (by first|(apply OQ.load;exact DN;rfl;exact .here;exact hc3)|(apply OQ.bD (i:=i) (b:=rx.1) (j:=0);exact Tryz.underlying35;exact nA;rfl;rfl;exact hi')|(apply OQ.load (v:=N x.2);exact bI;rfl;exact hH2;exact hk2)|(apply OQ.addN (a:=x.2) (b:=1);rfl;rfl;exact (by omega))|(apply OQ.move;rfl)|(apply OQ.aO;rfl)|(apply OQ.aV;rfl;rfl;rfl;exact (by decide);rfl)) rfl ?_)
      refine JL.perm (M':=aa 3 z.qx xs++(⟨z.p,Row 37 (z.cs R),true⟩::(A++(B++(aa 9 z.qn (R.nx.map fun x=>Z x.1)++F))))) ?_ (Dd _ _ _ _ _ _)
      have hE3 : aa 3 z.qx xs++(⟨z.p,Row 37 (z.cs R),true⟩::(A++(B++(aa 9 z.qn (R.nx.map fun x=>Z x.1)++F))))=⟨rx.1,Sl.Own 3 1 xs.length rx.2 xs,true⟩::(⟨z.p,Row 37 (z.cs R),true⟩::(A++(B++(aa 9 z.qn (R.nx.map fun x=>Z x.1)++F)))):=by rw [hrx];rfl
      rw [hE3]
      refine JL.rD (k:=xs.length) (cap:=rx.2) (xs:=xs) (xs':=xs.set i (N (x.2+1))) nA (j:=i) (by show some (Value.pointer (some ⟨rx.1,0+i,none⟩))=_;rw [Nat.zero_add]) rfl rfl rfl .here (by omega) rfl ?_
      repeat (first | refine JL.q (by first|(apply OQ.move;rfl)|(apply OQ.assign;rfl)|(apply OQ.addN;rfl;rfl;exact (by (try simp only []);omega))) rfl ?_ | refine JC.region ?_ | refine JL.nil ?_ | refine JE.next ?_ | refine JE.an ?_)
      have hE4 : (⟨rx.1,Sl.Own 3 1 xs.length rx.2 (xs.set i (N (x.2+1))),true⟩ : ai)::(⟨z.p,Row 37 (z.cs R),true⟩::(A++(B++(aa 9 z.qn (R.nx.map fun x=>Z x.1)++F))))=aa 3 z.qx (xs.set i (N (x.2+1)))++(⟨z.p,Row 37 (z.cs R),true⟩::(A++(B++(aa 9 z.qn (R.nx.map fun x=>Z x.1)++F)))):=by
        rw [hrx]
        show _=(⟨rx.1,Sl.Own 3 1 (xs.set i (N (x.2+1))).length rx.2 (xs.set i (N (x.2+1))),true⟩ : ai)::_
        rw [List.length_set]
        rfl
      rw [hE4]
      refine JE.perm (Dd _ _ _ _ _ _).symm ?_
      rw [← hE2]
      exact JE.again (i:=i) (i+1) hi' (by omega) (by rw [hkn];exact (by repeat (first | exact ag.nil | refine ag.cons _ _ _ rfl ?_))) (aj.refl _)
  have hi' : i=R.nx.length:=by have:=of_decide_eq_false h;omega
  subst hi'
  clear h hzE hc2 hc3 hat
  obtain ⟨R2,hR2⟩ : ∃ R2,R.aD f s.l=R2:=⟨_,rfl⟩
  have hR2x:=ng R f s.l
  rw [hR2] at hR2x ⊢
  obtain ⟨F,hF⟩ : ∃ F,ay z.ss=F:=⟨_,rfl⟩
  obtain ⟨A,hA⟩ : ∃ A,aa 9 z.qi (R.ms.map fun m=>Z m.f)=A:=⟨_,rfl⟩
  obtain ⟨B,hB⟩ : ∃ B,aY 46 3 z.qm (z.ms R)=B:=⟨_,rfl⟩
  have hcsE : z.cs R=[ah z.qi R.ms.length,ah z.qm R.ms.length,ah z.qn R.nx.length,ah z.qx R.nx.length]:=rfl
  rw [hF,hA,hB,hcsE]
  repeat (first | refine JC.exit ?_ | refine JE.aH ?_ | refine JE.aW ?_ | refine JE.next ?_)
  refine JC.mid (ι:=Acc × Acc) (fun _=>[(0,Pt z.p 0),(1,Z f),(2,s.v),(6,N (R.next f))]) (fun y=>⟨z.p,Row 37 [ah z.qi R.ms.length,ah z.qm R.ms.length,ah y.1 R2.nx.length,ah y.2 R2.nx.length],true⟩::(A++(B++(aa 9 y.1 (R2.nx.map fun x=>Z x.1)++(aa 3 y.2 (R2.nx.map fun x=>N x.2)++F))))) (fun y=>(y.1=none→R2.nx=[])∧(y.2=none→R2.nx=[])) ?_ ?_
  · cases hkn : AU R f R.nx.length
    · rw [hkn,if_neg (by decide)] at hR2x
      have hl2 : R2.nx.length=R.nx.length+1:=by rw [hR2x,List.length_append,hnl];rfl
      have hf2 : R2.nx.map (fun x=>Z x.1)=(R.nx.map fun x=>Z x.1)++[Z f]:=by rw [hR2x,List.map_append,hnm2];rfl
      have hs2 : R2.nx.map (fun x=>N x.2)=xs++[N 2]:=by rw [hR2x,List.map_append,hxs];rfl
      repeat (first | refine JL.q (by first|(apply OQ.not;rfl)|(apply OQ.move;rfl)) rfl ?_ | refine JC.seq ?_ | refine JC.region ?_ | refine JL.nil ?_ | refine JE.next ?_)
      refine JC.cond_true rfl rfl ?_
      refine JC.seq (JC.region ?_)
      repeat (refine JL.q (by first|(apply OQ.load;exact pz;rfl;exact .here;exact (Row.cell (v:=ah z.qn R.nx.length) rfl))|(apply OQ.move;rfl)|(apply OQ.aO;rfl)|(apply OQ.aV;rfl;rfl;rfl;exact (by decide);rfl)) rfl ?_)
      refine JL.gu (v:=Z f) Tryz.underlying33 gi rfl rfl rfl rfl fun b _=>?_
      refine JL.perm (M':=_) ?_ (DP _ _ _ _ _ _ _)
      refine JL.bM (xs:=R.nx.map fun x=>Z x.1) (cs:=[Z f]) (m:=1) (ad:=some ⟨b,0,none⟩) (sc:=1) z.qn Tryz.underlying33 gi (fun e=>by rw [k.qn e];rfl) ?_ ?_ rfl (fun w' hw'=>?_) (by simp [Value.oneCell']) rfl (by rw [List.length_map];omega) (by rw [List.length_map];omega) ?_ fun q1 hq1=>?_
      · rw [List.length_map];rfl
      · rfl
      · obtain ⟨o,ho,hAo⟩:=hw'.get (b:=b) (A:=Row 9 [Z f]) (wr:=true) (aG .here)
        exact Reads.block ho (Row.all o hAo)
      · rfl
      rw [← hf2,List.length_map]
      refine JL.perm (M':=_) ?_ (DQ _ _ _ _ _ _ _)
      repeat (refine JL.q (by first|(apply OQ.aO;rfl)|(apply OQ.aV;rfl;rfl;rfl;exact (by decide);rfl)) rfl ?_)
      refine JL.bK (r:=[ah z.qi R.ms.length,ah z.qm R.ms.length,ah z.qn R.nx.length,ah z.qx R.nx.length]) (r':=[ah z.qi R.ms.length,ah z.qm R.ms.length,ah q1 R2.nx.length,ah z.qx R.nx.length]) DO rfl rfl (eD _ _) (dw _ _) .here (by show _<4;decide) rfl ?_
      refine JL.nil (JE.next ?_)
      refine JC.region ?_
      repeat (refine JL.q (by first|(apply OQ.load;exact DN;rfl;exact .here;exact (Row.cell (v:=ah z.qx R.nx.length) rfl))|(apply OQ.move;rfl)|(apply OQ.aO;rfl)|(apply OQ.aV;rfl;rfl;rfl;exact (by decide);rfl)) rfl ?_)
      refine JL.gu (v:=N 2) Tryz.underlying35 fm rfl rfl rfl rfl fun b2 _=>?_
      refine JL.perm (M':=_) ?_ (DR _ _ _ _ _ _ _)
      refine JL.bM (xs:=xs) (cs:=[N 2]) (m:=1) (ad:=some ⟨b2,0,none⟩) (sc:=1) z.qx Tryz.underlying35 fm (fun e=>List.length_eq_zero_iff.1 (by rw [hxl,k.qx e];rfl)) ?_ ?_ rfl (fun w' hw'=>?_) (by simp [Value.oneCell']) rfl (by rw [hxl];omega) (by rw [hxl];omega) ?_ fun q2 hq2=>?_
      · rw [hxl];rfl
      · rfl
      · obtain ⟨o,ho,hAo⟩:=hw'.get (b:=b2) (A:=Row 3 [N 2]) (wr:=true) (aG .here)
        exact Reads.block ho (Row.all o hAo)
      · rfl
      rw [← hs2,List.length_map]
      refine JL.perm (M':=_) ?_ (DS _ _ _ _ _ _ _)
      repeat (refine JL.q (by first|(apply OQ.aO;rfl)|(apply OQ.aV;rfl;rfl;rfl;exact (by decide);rfl)) rfl ?_)
      refine JL.bK (r:=[ah z.qi R.ms.length,ah z.qm R.ms.length,ah q1 R2.nx.length,ah z.qx R.nx.length]) (r':=[ah z.qi R.ms.length,ah z.qm R.ms.length,ah q1 R2.nx.length,ah q2 R2.nx.length]) EJ rfl rfl (eD _ _) (dw _ _) .here (by show _<4;decide) rfl ?_
      refine JL.nil ?_
      exact JE.mid (q1,q2) ⟨fun e=>by have:=hq1 e;simp at this,fun e=>by have:=hq2 e;simp at this⟩ (by repeat (first | exact ag.nil | refine ag.cons _ _ _ rfl ?_)) (.keep _ _ _ _ _ _ (fun _ h=>h) (aE (aE (aE (aE (.drop _ _ _ (.drop _ _ _ (aj.refl _))) _) _) _) _))
    · rw [hkn,if_pos rfl] at hR2x
      have hl2 : R2.nx.length=R.nx.length:=by rw [hR2x,hnl]
      have hf2 : R2.nx.map (fun x=>Z x.1)=R.nx.map fun x=>Z x.1:=by rw [hR2x,hnm2]
      have hs2 : R2.nx.map (fun x=>N x.2)=xs:=by rw [hR2x,hxs]
      repeat (first | refine JL.q (by first|(apply OQ.not;rfl)|(apply OQ.move;rfl)) rfl ?_ | refine JC.seq ?_ | refine JC.region ?_ | refine JL.nil ?_ | refine JE.next ?_)
      refine JC.cond_false rfl rfl ?_
      repeat (refine JC.skip ?_)
      refine JE.mid (z.qn,z.qx) ⟨fun e=>List.length_eq_zero_iff.1 (by rw [hl2,k.qn e];rfl),fun e=>List.length_eq_zero_iff.1 (by rw [hl2,k.qx e];rfl)⟩ (by repeat (first | exact ag.nil | refine ag.cons _ _ _ rfl ?_)) ?_
      rw [hl2,hf2,hs2]
      exact aj.refl _
  rintro ⟨q1,q2⟩ ⟨hq1,hq2⟩
  dsimp only at hq1 hq2 ⊢
  refine JC.seq (JC.region ?_)
  rw [← hA]
  repeat (refine JL.q (by first|(apply OQ.load;exact pz;rfl;exact .here;exact (Row.cell (v:=ah z.qi R.ms.length) rfl))|(apply OQ.move;rfl)|(apply OQ.aO;rfl)|(apply OQ.aV;rfl;rfl;rfl;exact (by decide);rfl)) rfl ?_)
  refine JL.gu (v:=Z f) Tryz.underlying33 gi rfl rfl rfl rfl fun b _=>?_
  refine JL.perm (M':=_) ?_ (DT _ _ _ _ _ _ _)
  refine JL.bM (xs:=R.ms.map fun m=>Z m.f) (cs:=[Z f]) (m:=1) (ad:=some ⟨b,0,none⟩) (sc:=1) z.qi Tryz.underlying33 gi (fun e=>by rw [k.qi e];rfl) ?_ ?_ rfl (fun w' hw'=>?_) (by simp [Value.oneCell']) rfl (by rw [List.length_map];omega) (by rw [List.length_map];omega) ?_ fun q0 hq0=>?_
  · rw [List.length_map];rfl
  · rfl
  · obtain ⟨o,ho,hAo⟩:=hw'.get (b:=b) (A:=Row 9 [Z f]) (wr:=true) (aG .here)
    exact Reads.block ho (Row.all o hAo)
  · rfl
  cases q0 with
  | none=>exact absurd (hq0 rfl) (by simp)
  | some q0=>
  have hl0 : ((R.ms.map fun m=>Z m.f)++[Z f]).length=R.ms.length+1:=by rw [List.length_append,List.length_map];rfl
  rw [hl0]
  refine JL.perm (M':=_) ?_ (DU _ _ _ _ _ _ _)
  repeat (refine JL.q (by first|(apply OQ.aO;rfl)|(apply OQ.aV;rfl;rfl;rfl;exact (by decide);rfl)) rfl ?_)
  obtain ⟨v2,hv2⟩ : ∃ v2,ah q1 R2.nx.length=v2:=⟨_,rfl⟩
  obtain ⟨v3,hv3⟩ : ∃ v3,ah q2 R2.nx.length=v3:=⟨_,rfl⟩
  rw [hv2,hv3]
  refine JL.bK (r:=[ah z.qi R.ms.length,ah z.qm R.ms.length,v2,v3]) (r':=[ah (some q0) (R.ms.length+1),ah z.qm R.ms.length,v2,v3]) DO rfl rfl (eD _ _) (dw _ _) .here (by show _<4;decide) rfl ?_
  refine JL.nil (JE.next ?_)
  obtain ⟨v0,hv0⟩ : ∃ v0,ah (some q0) (R.ms.length+1)=v0:=⟨_,rfl⟩
  obtain ⟨Z0,hZ0⟩ : ∃ Z0,(aa 9 (some q0) ((R.ms.map fun m=>Z m.f)++[Z f])++(aa 9 q1 (R2.nx.map fun x=>Z x.1)++(aa 3 q2 (R2.nx.map fun x=>N x.2)++F)))++[(⟨b,Row 9 [Z f],true⟩ : ai)]=Z0:=⟨_,rfl⟩
  rw [hv0,hZ0,← hB]
  have hend:=fun (q8 : B5 s.l) (q11 : Nat × Nat)=>vT (E:=[(0,Pt z.p 0),(2,s.v),(6,N (R.next f))]) (fn:=Tryz.f12) z R k f s rfl (S:=S) (w:=w) hR2.symm ⟨z.p,z.qi,z.qm,q1,q2,z.ss⟩ rfl ⟨k.ss,k.h0,k.qi,k.qm,hq1,hq2⟩ (b:=b) (q0:=q0) (A:=Row 9 [Z f]) q8 q11
  dsimp only at hend
  rw [hv0,hv2,hv3,hF,hZ0] at hend
  let vs : Nat→Ep s.l→Value:=fun j y=>match j with
    | 0=>Pt z.p 0
    | 1=>Pt z.p 0
    | 2=>Pt z.p 0
    | 3=>Pt z.p 1
    | 4=>ah z.qm R.ms.length
    | 5=>N (R.next f)
    | 6=>.slice (some ⟨y.2.1,0,none⟩) 0 0
    | 7=>s.v
    | 8=>ah y.1.1 s.l.length
    | 9=>.agg (cm (R.next f) 0 (aI y.1.1 s.l)).toArray
    | 10=>.slice (some ⟨y.2.1,0,none⟩) 1 1
    | 11=>ah (some y.2.2) (R.ms.length+1)
    | 12=>Pt z.p 0
    | 13=>Pt z.p 1
    | _=>N 0
  let Ms : Nat→Ep s.l→List ai:=fun j y=>match j with
    | 6=>[⟨y.2.1,Sl.Own 5 1 0 0 [],true⟩]
    | 8=>aa 5 y.1.1 (s.l.map U8)
    | 10=>⟨y.2.1,Row 46 (cm (R.next f) 0 (aI y.1.1 s.l)),true⟩::[]
    | 11=>aY 46 3 (some y.2.2) (z.ms R++[cm (R.next f) 0 (aI y.1.1 s.l)])
    | 14=>[⟨z.p,Row 37 [v0,ah (some y.2.2) (R.ms.length+1),v2,v3],true⟩]
    | 15=>[⟨z.p,Row 37 [v0,ah z.qm R.ms.length,v2,v3],true⟩]
    | 16=>aY 46 3 z.qm (z.ms R)
    | 17=>Z0
    | _=>[]
  refine JC.nN (g:=⟨[(0,Pt z.p 0),(2,s.v),(6,N (R.next f))],18,vs,Ms,(fun j=>match j with | 2=>[(1,71)] | 3=>[(2,72)] | 4=>[(3,73)] | 8=>[(6,76),(7,77)] | 9=>[(5,75),(8,78)] | 10=>[(9,79)] | 11=>[(4,74),(10,80)] | 12=>[(0,70)] | 13=>[(12,82)] | 14=>[(13,83),(11,81)] | _=>[]),(fun j=>match j with | 4=>[15] | 8=>[6] | 11=>[16,10] | 14=>[15] | _=>[]),(fun j=>match j with | 8=>[6] | 11=>[16,10] | 14=>[15] | _=>[]),(fun j=>match j with | 9=>some 8 | 10=>some 9 | 11=>some 10 | 14=>some 11 | _=>none),fun _=>[],fun j a b=>match j with | 9=>a.1=b.1 | 10=>a.1=b.1 | 11=>a.1=b.1 | 14=>a.1=b.1∧a.2.2=b.2.2 | _=>True⟩) [] [14,11,8,17] bZ (by repeat (first | exact ag.nil | refine ag.cons _ _ _ rfl ?_)) (fun _ _=>.nil) ?_ (by kernel_rfl) (by kernel_rfl) (by kernel_rfl) ?_ ?_
  · show aj (⟨z.p,Row 37 [v0,ah z.qm R.ms.length,v2,v3],true⟩::(aY 46 3 z.qm (z.ms R)++(Z0++[]))) _;rw [List.append_nil];exact aj.refl _
  · refine ⟨?_,?_,?_,?_,?_,?_,?_,?_,?_,?_,?_,?_,?_,?_,?_,trivial⟩
    · (intro xx EF MF Q kk;(try refine JL.aB rfl rfl ?_);exact JL.q (OQ.move rfl) rfl (JL.nil (kk default nofun)))
    · (intro xx EF MF Q kk;(try refine JL.aB rfl rfl ?_);exact JL.q (OQ.move rfl) rfl (JL.nil (kk default nofun)))
    · (intro xx EF MF Q kk;(try refine JL.aB rfl rfl ?_);exact JL.q (OQ.aO rfl) rfl (JL.nil (kk default nofun)))
    · (intro xx EF MF Q kk;(try refine JL.aB rfl rfl ?_);exact JL.q (OQ.aV rfl rfl rfl (by decide) rfl) rfl (JL.nil (kk default nofun)))
    · (intro xx EF MF Q kk;(try refine JL.aB rfl rfl ?_);exact JL.q (OQ.load tu rfl .here (Row.cell rfl)) rfl (JL.nil (kk default nofun)))
    · (intro xx EF MF Q kk;(try refine JL.aB rfl rfl ?_);exact JL.q (OQ.move rfl) rfl (JL.nil (kk default nofun)))
    · (intro xx EF MF Q kk;exact JL.pV Tryz.underlying24 pJ rfl fun b _=>JL.nil (kk (⟨some (0,0),nofun⟩,b,(0,0)) nofun))
    · (intro xx EF MF Q kk;(try refine JL.aB rfl rfl ?_);exact JL.q (OQ.move rfl) rfl (JL.nil (kk default nofun)))
    · (intro xx EF MF Q kk;exact AW hs rdRd rfl rfl rfl hsl fun q=>JL.nil (kk (q,0,(0,0)) nofun))
    · (intro xx EF MF Q kk;exact JL.q (OQ.ry (u:=(R.next f : Int)) (s:=aI (xx 8).1.1 s.l) rfl (by show some (ah (xx 8).1.1 s.l.length)=_;rw [iT])) rfl (JL.nil (kk (xx 8) (fun k h=>by cases h;rfl))))
    · (intro xx EF MF Q kk;exact JL.pW (cs:=cm (R.next f) 0 (aI (xx 9).1.1 s.l)) Tryz.underlying34 B1 rfl (by decide) (by decide) rfl rfl rfl fun b _=>JL.nil (kk ((xx 9).1,b,(0,0)) (fun k h=>by cases h;rfl)))
    · (intro xx EF MF Q kk;exact B6 k hn rfl rfl rfl fun q=>JL.nil (kk ((xx 10).1,0,q) (fun k h=>by cases h;rfl)))
    · (intro xx EF MF Q kk;(try refine JL.aB rfl rfl ?_);exact JL.q (OQ.aO rfl) rfl (JL.nil (kk default nofun)))
    · (intro xx EF MF Q kk;(try refine JL.aB rfl rfl ?_);exact JL.q (OQ.aV rfl rfl rfl (by decide) rfl) rfl (JL.nil (kk default nofun)))
    · (intro xx EF MF Q kk;exact JL.bK (r:=[v0,ah z.qm R.ms.length,v2,v3]) (r':=[v0,ah (some (xx 11).2.2) (R.ms.length+1),v2,v3]) Er rfl rfl rfl rfl .here (by show _<4;decide) rfl (JL.nil (kk (xx 11) (fun k h=>by cases h;exact ⟨rfl,rfl⟩))))
  · intro xx hx
    have e9 : (xx 9).1=(xx 8).1:=hx 9 8 (by decide) rfl
    have e10 : (xx 10).1=(xx 9).1:=hx 10 9 (by decide) rfl
    have e11 : (xx 11).1=(xx 10).1:=hx 11 10 (by decide) rfl
    obtain ⟨e14,e15⟩:=hx 14 11 (by decide) rfl
    have e8 : (xx 14).1=(xx 8).1:=e14.trans (e11.trans (e10.trans e9))
    have e16 : (xx 11).1=(xx 8).1:=e11.trans (e10.trans e9)
    show JE _ _ _ _ _ [(0,Pt z.p 0),(2,s.v),(6,N (R.next f))] ([⟨z.p,Row 37 [v0,ah (some (xx 14).2.2) (R.ms.length+1),v2,v3],true⟩]++(aY 46 3 (some (xx 11).2.2) (z.ms R++[cm (R.next f) 0 (aI (xx 11).1.1 s.l)])++(aa 5 (xx 8).1.1 (s.l.map U8)++(Z0++[]))))
    rw [e15,e16]
    generalize (xx 8).1=q8
    generalize (xx 11).2.2=q11
    clear hx e9 e10 e11 e14 e15 e8 e16 xx vs Ms
    exact hend q8 q11
end
section
set_option maxRecDepth 10000
open Sl cY dy fI Bx
def nr (p : Ml × aC) : Value:=Z p.1.f
def nt (p : Ml × aC) : List Value:=cm p.1.u p.1.fl p.2
def uD (z : Rx) (R : Rb) (f : Bk) (i : Nat) : List (Ml × aC):=((R.ms.zip z.ss).take i).filter fun p=>!goes f p.1
theorem De (a b : ai) (A C Zs : List ai) : (a::(A++(b::(C++Zs)))).Perm (a::(C++(A++(b::Zs)))):=eS fun _ _ y=>by simp only [List.count_append,List.count_cons];omega
theorem Df (b : ai) (A C Zs : List ai) : (C++(A++(b::Zs))).Perm (A++(C++(b::Zs))):=eS fun _ _ y=>by simp only [List.count_append,List.count_cons];omega
theorem DW (a : ai) (A C Zs : List ai) : (A++(C++(a::Zs))).Perm (a::(A++(C++Zs))):=eS fun _ _ y=>by simp only [List.count_append,List.count_cons];omega
theorem tD {l l' : List aC} (h : l'.Sublist l) : aj (ay l') (ay l):=by
  induction h with
  | slnil=>exact aj.refl _
  | cons a _ ih=>
    show aj _ (a.dQ++ay _)
    exact av _ ih
  | cons_cons a _ ih=>
    show aj (a.dQ++ay _) (a.dQ++ay _)
    exact aE ih _
theorem ni {α β : Type} (g : α→Bool) : ∀ (l : List α) (r : List β),l.length=r.length→((l.zip r).filter fun p=>g p.1).map Prod.fst=l.filter g
  | [],_,_=>by simp
  | a::l,[],h=>by simp at h
  | a::l,b::r,h=>by
    have ih:=ni g l r (by simpa using h)
    rw [List.zip_cons_cons]
    by_cases hg : g a=true
    · rw [List.filter_cons_of_pos (by exact hg),List.filter_cons_of_pos hg,List.map_cons,ih]
    · rw [List.filter_cons_of_neg (by exact hg),List.filter_cons_of_neg hg,ih]
theorem Am {l : List Ml} {r : List aC} (h : r.map aC.l=l.map Ml.b) : ∀ p ∈ l.zip r,p.2.l=p.1.b:=by
  intro p hp
  obtain ⟨i,hi,e⟩:=List.mem_iff_getElem.1 hp
  rw [List.getElem_zip] at e
  have hl : i<l.length:=by simp at hi;omega
  have hr : i<r.length:=by simp at hi;omega
  have h1 : (r.map aC.l)[i]?=(l.map Ml.b)[i]?:=by rw [h]
  rw [List.getElem?_map,List.getElem?_map,List.getElem?_eq_getElem hl,List.getElem?_eq_getElem hr] at h1
  rw [← e]
  exact Option.some.inj h1
theorem nj : aL Tryz.prog 16:=⟨_,Tryz.func16,rfl,by kernel_rfl⟩
set_option maxHeartbeats 16000000 in
theorem nF (z : Rx) (R : Rb) (k : z.ok R) (f : Bk) (hn : R.ms.length≤1000000) (hfl : ∀ m ∈ R.ms,m.fl<16) (w : World) (h0 : Holds w (keys (z.E R)) (z.E R) w) :
    Calls Tryz.prog 16 [Pt z.p 0,Z f].toArray w fun e w'=>∃ r : tC z (R.aX f),e=.returned (.tuple #[])∧Holds w (keys (z.E R)) (r.z'.E (R.aX f)) w':=by
  generalize keys (z.E R)=S at h0 ⊢
  refine enter (n:=68) Tryz.func16 rfl rfl rfl h0 ?_
  have hc0 : ∀ o,Row 37 (z.cs R) o→cellAt o 0=some (ah z.qi R.ms.length):=Row.cell rfl
  have hc1 : ∀ o,Row 37 (z.cs R) o→cellAt o 1=some (ah z.qm R.ms.length):=Row.cell rfl
  refine JC.seq (JC.region ?_)
  repeat (refine JL.q (by fail) rfl ?_)
  refine JL.pV Tryz.underlying33 gi rfl fun b1 _=>?_
  try repeat (refine JL.q (by fail) rfl ?_)
  refine JL.Ct (sz:=3) Tryz.underlying34 B1 rfl fun b2 _=>?_
  repeat (refine JL.q (by (apply OQ.assign;rfl)) rfl ?_)
  refine JL.perm (M':=aa 9 (some (b1,0)) []++(aY 46 3 (some (b2,0)) []++z.E R)) ?_ (by exact List.Perm.swap _ _ _)
  refine JL.nil (JE.next ?_)
  repeat (first | refine JL.q (by (apply OQ.assign;rfl)) rfl ?_ | refine JC.seq ?_ | refine JC.region ?_ | refine JC.block ?_ | refine JL.nil ?_ | refine JE.next ?_)
  refine JC.loop (fun s : Nat × (Nat × Nat) × (Nat × Nat)=>[(0,Pt z.p 0),(1,Z f),(4,ah (some s.2.1) (uD z R f s.1).length),(5,ah (some s.2.2) (uD z R f s.1).length),(6,N s.1)]) (fun s=>aa 9 (some s.2.1) ((uD z R f s.1).map nr)++(aY 46 3 (some s.2.2) ((uD z R f s.1).map nt)++z.E R)) (fun s=>R.ms.length - s.1) (fun s=>s.1≤R.ms.length) (0,(b1,0),(b2,0)) (Nat.zero_le _) (by repeat (first | exact ag.nil | refine ag.cons _ _ _ rfl ?_)) (aj.refl _) ?_
  rintro ⟨i,q1,q2⟩ hi
  dsimp only at hi ⊢
  have hBox : Has (aa 9 (some q1) ((uD z R f i).map nr)++(aY 46 3 (some q2) ((uD z R f i).map nt)++z.E R)) z.p (Row 37 (z.cs R)) true:=aG (aG .here)
  repeat (first | refine JL.q (by first|(apply OQ.load;exact tu;rfl;exact hBox;exact hc1)|(apply OQ.iV (q:=z.qm) (k:=R.ms.length);exact Tryz.underlying34;exact (fun e=>by rw [k.qm e];rfl);rfl)|(apply OQ.move;rfl)|(apply OQ.aO;rfl)|(apply OQ.dX;rfl;rfl)|(apply OQ.aV;rfl;rfl;rfl;exact (by decide);rfl)) rfl ?_ | refine JC.seq ?_ | refine JC.region ?_ | refine JL.nil ?_ | refine JE.next ?_)
  refine JC.cond rfl (fun h=>?_) (fun h=>?_)
  · have hi' : i<R.ms.length:=by have:=of_decide_eq_true h;omega
    clear h
    obtain ⟨m,hm⟩ : ∃ m,R.ms[i]?=some m:=⟨R.ms[i],List.getElem?_eq_getElem hi'⟩
    have hmm:=hfl m (List.mem_of_getElem? hm)
    obtain ⟨ri,hri⟩ : ∃ r,z.qi=some r:=by cases h : z.qi with | none=>rw [k.qi h] at hi';cases hi' | some r=>exact ⟨r,rfl⟩
    obtain ⟨rm,hrm⟩ : ∃ r,z.qm=some r:=by cases h : z.qm with | none=>rw [k.qm h] at hi';cases hi' | some r=>exact ⟨r,rfl⟩
    obtain ⟨s,hs,_,hms⟩:=Rx.at k hm
    have hzp : (R.ms.zip z.ss)[i]?=some (m,s):=List.getElem?_zip_eq_some.2 ⟨hm,hs⟩
    have hz1 : (R.ms.map fun m=>Z m.f)[i]?=some (Z m.f):=by rw [List.getElem?_map,hm];rfl
    have hk1 : ∀ o,Sl.Own 9 1 (R.ms.map fun m=>Z m.f).length ri.2 (R.ms.map fun m=>Z m.f) o→cellAt o (0+i)=some (Z m.f):=by rw [Nat.zero_add];exact Sl.Own.cell hz1
    have hk3 : ∀ o,Sl.Own 46 3 (z.ms R).length rm.2 (z.ms R).flatten o→cellAt o (0+i * 3+1)=some (N m.fl):=fun o ho=>by
      obtain ⟨c,e,fr,rfl,hcc⟩:=Sl.Own.chunk (i:=i) (z.AT R) (by rw [Rx.Ag k];exact hi') o ho
      rw [hms] at hcc
      have:=hcc 1 (by show 1<3;decide)
      show c[0+i * 3+1]?=_
      rw [Nat.zero_add]
      exact this
    rw [hri] at hc0
    rw [hrm] at hc1
    have hMi : Has (z.E R) ri.1 (Sl.Own 9 1 (R.ms.map fun m=>Z m.f).length ri.2 (R.ms.map fun m=>Z m.f)) true:=by unfold Rx.E;exact .there (by rw [hri];exact .here)
    have hMm : Has (z.E R) rm.1 (Sl.Own 46 3 (z.ms R).length rm.2 (z.ms R).flatten) true:=by unfold Rx.E;exact .there (aG (by rw [hrm];exact .here))
    have htk : uD z R f (i+1)=uD z R f i++(if goes f m then [] else [(m,s)]):=by
      have hz:=(List.getElem?_eq_some_iff.1 hzp)
      obtain ⟨hzl,hze⟩:=hz
      unfold uD
      rw [List.take_succ_eq_append_getElem hzl,hze,List.filter_append]
      congr 1
      by_cases hg : goes f m=true
      · rw [if_pos hg,List.filter_cons_of_neg (by simp [hg])];rfl
      · rw [if_neg hg,List.filter_cons_of_pos (by simp [hg])];rfl
    have hpl : (uD z R f i).length≤i:=by
      unfold uD
      have:=List.length_filter_le (fun p : Ml × aC=>!goes f p.1) ((R.ms.zip z.ss).take i)
      rw [List.length_take] at this
      omega
    generalize uD z R f i=PE at htk hpl hBox ⊢
    have hx1 : (PE.map nr).length=PE.length:=List.length_map _
    have hx2 : (PE.map nt).length=PE.length:=List.length_map _
    have hH1:=aG (N:=aa 9 (some q1) (PE.map nr)) (aG (N:=aY 46 3 (some q2) (PE.map nt)) hMi)
    have hH2:=aG (N:=aa 9 (some q1) (PE.map nr)) (aG (N:=aY 46 3 (some q2) (PE.map nt)) hMm)
    cases hg : decide (m.f=f)
    · have hls : goes f m=false:=by unfold goes;rw [hg];rfl
      rw [hls,if_neg (by decide)] at htk
      repeat (first | refine JL.q (by first|(apply OQ.load;exact pz;rfl;exact hBox;exact hc0)|(apply OQ.bD (i:=i) (b:=ri.1) (j:=0);exact Tryz.underlying33;exact iE;rfl;rfl;exact hi')|(apply OQ.load;exact eE;rfl;exact hH1;exact hk1)|(apply OQ.A6;rfl;rfl;exact hg)|(apply OQ.aS;rfl;rfl)|(apply OQ.move;rfl)|(apply OQ.aO;rfl)|(apply OQ.aV;rfl;rfl;rfl;exact (by decide);rfl)) rfl ?_ | refine JC.seq ?_ | refine JC.region ?_ | refine JC.block ?_ | refine JC.skip ?_ | refine JL.nil ?_ | refine JE.next ?_ | refine JL.bC rfl rfl rfl rfl ?_)
      refine JC.cond_true rfl rfl ?_
      refine JC.seq (JC.region ?_)
      repeat (refine JL.q (by first|(apply OQ.load;exact pz;rfl;exact hBox;exact hc0)|(apply OQ.bD (i:=i) (b:=ri.1) (j:=0);exact Tryz.underlying33;exact iE;rfl;rfl;exact hi')|(apply OQ.load;exact eE;rfl;exact hH1;exact hk1)|(apply OQ.move;rfl)|(apply OQ.aO;rfl)|(apply OQ.aV;rfl;rfl;rfl;exact (by decide);rfl)) rfl ?_)
      refine JL.gu (v:=Z m.f) Tryz.underlying33 gi rfl rfl rfl rfl fun bl _=>?_
      refine JL.perm (M':=aa 9 (some q1) (PE.map nr)++(⟨bl,Row 9 [Z m.f],true⟩::(aY 46 3 (some q2) (PE.map nt)++z.E R))) ?_ (by exact List.perm_middle.symm)
      refine JL.bM (xs:=PE.map nr) (cs:=[Z m.f]) (m:=1) (ad:=some ⟨bl,0,none⟩) (sc:=1) (some q1) Tryz.underlying33 gi nofun (by rw [hx1];rfl) rfl rfl (fun w' hw'=>?_) (by simp [Value.oneCell']) rfl (by rw [hx1];omega) (by rw [hx1];omega) rfl fun q1' hq1'=>?_
      · obtain ⟨o,ho,hAo⟩:=hw'.get (b:=bl) (A:=Row 9 [Z m.f]) (wr:=true) (aG .here)
        exact Reads.block ho (Row.all o hAo)
      cases q1' with
      | none=>exact absurd (hq1' rfl) (by simp)
      | some q1'=>
      have hy1 : (PE.map nr++[Z m.f]).length=PE.length+1:=by rw [List.length_append,hx1];rfl
      rw [hy1]
      repeat (refine JL.q (by (apply OQ.assign;rfl)) rfl ?_)
      refine JL.nil (JE.next ?_)
      refine JC.region ?_
      have hB2 : Has (aa 9 (some q1') (PE.map nr++[Z m.f])++(⟨bl,Row 9 [Z m.f],true⟩::(aY 46 3 (some q2) (PE.map nt)++z.E R))) z.p (Row 37 (z.cs R)) true:=aG (.there (aG .here))
      have hM2 : Has (aa 9 (some q1') (PE.map nr++[Z m.f])++(⟨bl,Row 9 [Z m.f],true⟩::(aY 46 3 (some q2) (PE.map nt)++z.E R))) rm.1 (Sl.Own 46 3 (z.ms R).length rm.2 (z.ms R).flatten) true:=aG (.there (aG hMm))
      repeat (refine JL.q (by first|(apply OQ.load;exact tu;rfl;exact hB2;exact hc1)|(apply OQ.fc (i:=i) (b:=rm.1) (j:=0);exact Tryz.underlying34;exact mU;rfl;rfl;exact hi')|(apply OQ.move;rfl)|(apply OQ.aO;rfl)|(apply OQ.aV;rfl;rfl;rfl;exact (by decide);rfl)) rfl ?_)
      refine JL.q (v:=.agg (cm m.u m.fl s).toArray) (hms ▸ OQ.tK (i:=i) yd mU rfl (by rw [Nat.zero_add]) hM2 (Rx.AT z R) (by rw [Rx.Ag k];exact hi')) rfl ?_
      refine JL.pW (cs:=cm m.u m.fl s) Tryz.underlying34 B1 rfl (by decide) (by decide) rfl rfl rfl fun bl2 _=>?_
      refine JL.perm (M':=⟨bl2,Row 46 (cm m.u m.fl s),true⟩::(aY 46 3 (some q2) (PE.map nt)++(aa 9 (some q1') (PE.map nr++[Z m.f])++(⟨bl,Row 9 [Z m.f],true⟩::z.E R)))) ?_ (De _ _ _ _ _)
      refine JL.fS (c:=cm m.u m.fl s) (L:=PE.map nt) (some q2) Tryz.underlying34 B1 nofun (by rw [hx2];rfl) rfl rfl (fun v hv=>List.all_eq_true.1 (DK m.u m.fl s) v hv) rfl (by decide) (by rw [hx2];omega) (by rw [hx2];omega) rfl fun b' cap'=>?_
      have hy2 : (PE.map nt++[cm m.u m.fl s]).length=PE.length+1:=by rw [List.length_append,hx2];rfl
      rw [hy2]
      repeat (refine JL.q (by (apply OQ.assign;rfl)) rfl ?_)
      refine JL.nil ?_
      refine JE.perm (Df _ _ _ _) ?_
      have e6 : (PE++[(m,s)]).length=PE.length+1:=by rw [List.length_append];rfl
      have e7 : (PE++[(m,s)]).map nr=PE.map nr++[Z m.f]:=by rw [List.map_append];rfl
      have e8 : (PE++[(m,s)]).map nt=PE.map nt++[cm m.u m.fl s]:=by rw [List.map_append];rfl
      repeat (first | refine JL.q (by first|(apply OQ.move;rfl)|(apply OQ.assign;rfl)|(apply OQ.addN;rfl;rfl;exact (by (try simp only []);omega))) rfl ?_ | refine JC.region ?_ | refine JL.nil ?_ | refine JE.next ?_ | refine JE.an ?_)
      refine JE.again (i:=(i,q1,q2)) (i+1,q1',(b',cap')) hi' (by dsimp only;omega) (by dsimp only;rw [htk,e6];exact (by repeat (first | exact ag.nil | refine ag.cons _ _ _ rfl ?_))) (by dsimp only;rw [htk,e7,e8];exact aE (aE (.drop _ _ _ (aj.refl _)) _) _)
    · cases hg2 : decide (((m.fl / 4 % 2 : Nat) : Int)=0)
      · have h2 : m.fl / 4 % 2=1:=by have:=of_decide_eq_false hg2;have h3 : m.fl / 4 % 2<2:=Nat.mod_lt _ (by decide);omega
        have hls : goes f m=true:=by unfold goes;rw [hg,h2];rfl
        rw [hls,if_pos rfl,List.append_nil] at htk
        repeat (first | refine JL.q (by first|(apply OQ.load;exact pz;rfl;exact hBox;exact hc0)|(apply OQ.bD (i:=i) (b:=ri.1) (j:=0);exact Tryz.underlying33;exact iE;rfl;rfl;exact hi')|(apply OQ.load;exact eE;rfl;exact hH1;exact hk1)|(apply OQ.A6;rfl;rfl;exact hg)|(apply OQ.load;exact tu;rfl;exact hBox;exact hc1)|(apply OQ.fc (i:=i) (b:=rm.1) (j:=0);exact Tryz.underlying34;exact mU;rfl;rfl;exact hi')|(apply OQ.load (v:=N m.fl);exact bI;rfl;exact hH2;exact hk3)|(apply OQ.wg (a:=m.fl) (b:=4);rfl;rfl;exact (by decide);exact (by omega))|(apply OQ.AX (a:=m.fl / 4) (b:=2);rfl;rfl;exact (by decide))|(apply OQ.iC (b:=0);rfl;rfl;exact hg2)|(apply OQ.aJ;rfl;rfl)|(apply OQ.move;rfl)|(apply OQ.aO;rfl)|(apply OQ.aV;rfl;rfl;rfl;exact (by decide);rfl)) rfl ?_ | refine JC.seq ?_ | refine JC.region ?_ | refine JC.block ?_ | refine JC.skip ?_ | refine JL.nil ?_ | refine JE.next ?_ | refine JL.aB rfl rfl ?_)
        refine JC.cond_false rfl rfl ?_
        repeat (first | refine JL.q (by first|(apply OQ.move;rfl)|(apply OQ.assign;rfl)|(apply OQ.addN;rfl;rfl;exact (by (try simp only []);omega))) rfl ?_ | refine JC.region ?_ | refine JC.skip ?_ | refine JL.nil ?_ | refine JE.next ?_ | refine JE.an ?_)
        exact JE.again (i:=(i,q1,q2)) (i+1,q1,q2) hi' (by dsimp only;omega) (by dsimp only;rw [htk];exact (by repeat (first | exact ag.nil | refine ag.cons _ _ _ rfl ?_))) (by dsimp only;rw [htk];exact aj.refl _)
      · have h2 : m.fl / 4 % 2=0:=by have:=of_decide_eq_true hg2;omega
        have hls : goes f m=false:=by unfold goes;rw [hg,h2];rfl
        rw [hls,if_neg (by decide)] at htk
        repeat (first | refine JL.q (by first|(apply OQ.load;exact pz;rfl;exact hBox;exact hc0)|(apply OQ.bD (i:=i) (b:=ri.1) (j:=0);exact Tryz.underlying33;exact iE;rfl;rfl;exact hi')|(apply OQ.load;exact eE;rfl;exact hH1;exact hk1)|(apply OQ.A6;rfl;rfl;exact hg)|(apply OQ.load;exact tu;rfl;exact hBox;exact hc1)|(apply OQ.fc (i:=i) (b:=rm.1) (j:=0);exact Tryz.underlying34;exact mU;rfl;rfl;exact hi')|(apply OQ.load (v:=N m.fl);exact bI;rfl;exact hH2;exact hk3)|(apply OQ.wg (a:=m.fl) (b:=4);rfl;rfl;exact (by decide);exact (by omega))|(apply OQ.AX (a:=m.fl / 4) (b:=2);rfl;rfl;exact (by decide))|(apply OQ.iC (b:=0);rfl;rfl;exact hg2)|(apply OQ.aJ;rfl;rfl)|(apply OQ.move;rfl)|(apply OQ.aO;rfl)|(apply OQ.aV;rfl;rfl;rfl;exact (by decide);rfl)) rfl ?_ | refine JC.seq ?_ | refine JC.region ?_ | refine JC.block ?_ | refine JC.skip ?_ | refine JL.nil ?_ | refine JE.next ?_ | refine JL.aB rfl rfl ?_)
        refine JC.cond_true rfl rfl ?_
        refine JC.seq (JC.region ?_)
        repeat (refine JL.q (by first|(apply OQ.load;exact pz;rfl;exact hBox;exact hc0)|(apply OQ.bD (i:=i) (b:=ri.1) (j:=0);exact Tryz.underlying33;exact iE;rfl;rfl;exact hi')|(apply OQ.load;exact eE;rfl;exact hH1;exact hk1)|(apply OQ.move;rfl)|(apply OQ.aO;rfl)|(apply OQ.aV;rfl;rfl;rfl;exact (by decide);rfl)) rfl ?_)
        refine JL.gu (v:=Z m.f) Tryz.underlying33 gi rfl rfl rfl rfl fun bl _=>?_
        refine JL.perm (M':=aa 9 (some q1) (PE.map nr)++(⟨bl,Row 9 [Z m.f],true⟩::(aY 46 3 (some q2) (PE.map nt)++z.E R))) ?_ (by exact List.perm_middle.symm)
        refine JL.bM (xs:=PE.map nr) (cs:=[Z m.f]) (m:=1) (ad:=some ⟨bl,0,none⟩) (sc:=1) (some q1) Tryz.underlying33 gi nofun (by rw [hx1];rfl) rfl rfl (fun w' hw'=>?_) (by simp [Value.oneCell']) rfl (by rw [hx1];omega) (by rw [hx1];omega) rfl fun q1' hq1'=>?_
        · obtain ⟨o,ho,hAo⟩:=hw'.get (b:=bl) (A:=Row 9 [Z m.f]) (wr:=true) (aG .here)
          exact Reads.block ho (Row.all o hAo)
        cases q1' with
        | none=>exact absurd (hq1' rfl) (by simp)
        | some q1'=>
        have hy1 : (PE.map nr++[Z m.f]).length=PE.length+1:=by rw [List.length_append,hx1];rfl
        rw [hy1]
        repeat (refine JL.q (by (apply OQ.assign;rfl)) rfl ?_)
        refine JL.nil (JE.next ?_)
        refine JC.region ?_
        have hB2 : Has (aa 9 (some q1') (PE.map nr++[Z m.f])++(⟨bl,Row 9 [Z m.f],true⟩::(aY 46 3 (some q2) (PE.map nt)++z.E R))) z.p (Row 37 (z.cs R)) true:=aG (.there (aG .here))
        have hM2 : Has (aa 9 (some q1') (PE.map nr++[Z m.f])++(⟨bl,Row 9 [Z m.f],true⟩::(aY 46 3 (some q2) (PE.map nt)++z.E R))) rm.1 (Sl.Own 46 3 (z.ms R).length rm.2 (z.ms R).flatten) true:=aG (.there (aG hMm))
        repeat (refine JL.q (by first|(apply OQ.load;exact tu;rfl;exact hB2;exact hc1)|(apply OQ.fc (i:=i) (b:=rm.1) (j:=0);exact Tryz.underlying34;exact mU;rfl;rfl;exact hi')|(apply OQ.move;rfl)|(apply OQ.aO;rfl)|(apply OQ.aV;rfl;rfl;rfl;exact (by decide);rfl)) rfl ?_)
        refine JL.q (v:=.agg (cm m.u m.fl s).toArray) (hms ▸ OQ.tK (i:=i) yd mU rfl (by rw [Nat.zero_add]) hM2 (Rx.AT z R) (by rw [Rx.Ag k];exact hi')) rfl ?_
        refine JL.pW (cs:=cm m.u m.fl s) Tryz.underlying34 B1 rfl (by decide) (by decide) rfl rfl rfl fun bl2 _=>?_
        refine JL.perm (M':=⟨bl2,Row 46 (cm m.u m.fl s),true⟩::(aY 46 3 (some q2) (PE.map nt)++(aa 9 (some q1') (PE.map nr++[Z m.f])++(⟨bl,Row 9 [Z m.f],true⟩::z.E R)))) ?_ (De _ _ _ _ _)
        refine JL.fS (c:=cm m.u m.fl s) (L:=PE.map nt) (some q2) Tryz.underlying34 B1 nofun (by rw [hx2];rfl) rfl rfl (fun v hv=>List.all_eq_true.1 (DK m.u m.fl s) v hv) rfl (by decide) (by rw [hx2];omega) (by rw [hx2];omega) rfl fun b' cap'=>?_
        have hy2 : (PE.map nt++[cm m.u m.fl s]).length=PE.length+1:=by rw [List.length_append,hx2];rfl
        rw [hy2]
        repeat (refine JL.q (by (apply OQ.assign;rfl)) rfl ?_)
        refine JL.nil ?_
        refine JE.perm (Df _ _ _ _) ?_
        have e6 : (PE++[(m,s)]).length=PE.length+1:=by rw [List.length_append];rfl
        have e7 : (PE++[(m,s)]).map nr=PE.map nr++[Z m.f]:=by rw [List.map_append];rfl
        have e8 : (PE++[(m,s)]).map nt=PE.map nt++[cm m.u m.fl s]:=by rw [List.map_append];rfl
        repeat (first | refine JL.q (by first|(apply OQ.move;rfl)|(apply OQ.assign;rfl)|(apply OQ.addN;rfl;rfl;exact (by (try simp only []);omega))) rfl ?_ | refine JC.region ?_ | refine JL.nil ?_ | refine JE.next ?_ | refine JE.an ?_)
        refine JE.again (i:=(i,q1,q2)) (i+1,q1',(b',cap')) hi' (by dsimp only;omega) (by dsimp only;rw [htk,e6];exact (by repeat (first | exact ag.nil | refine ag.cons _ _ _ rfl ?_))) (by dsimp only;rw [htk,e7,e8];exact aE (aE (.drop _ _ _ (aj.refl _)) _) _)
  · have hi' : i=R.ms.length:=by have:=of_decide_eq_false h;omega
    subst hi'
    have hzl : (R.ms.zip z.ss).length=R.ms.length:=by rw [List.length_zip,Rx.len k,Nat.min_self]
    obtain ⟨PE,hPE⟩ : ∃ PE,uD z R f R.ms.length=PE:=⟨_,rfl⟩
    have hP0 : PE=(R.ms.zip z.ss).filter fun p=>!goes f p.1:=by
      rw [← hPE]
      unfold uD
      rw [List.take_of_length_le (by omega)]
    have hP1 : PE.map Prod.fst=(R.aX f).ms:=by rw [hP0];exact ni (fun m=>!goes f m) R.ms z.ss (Rx.len k).symm
    have hP2 : (PE.map Prod.snd).Sublist z.ss:=by
      have h1 : (PE.map Prod.snd).Sublist ((R.ms.zip z.ss).map Prod.snd):=by rw [hP0];exact List.filter_sublist.map _
      rwa [List.map_snd_zip (by have:=Rx.len k;omega)] at h1
    have hP3 : ∀ p ∈ PE,p.2.l=p.1.b:=fun p hp=>Am k.ss p (by rw [hP0] at hp;exact (List.mem_filter.1 hp).1)
    have hlE : (R.aX f).ms.length=PE.length:=by rw [← hP1,List.length_map]
    have hF1 : (R.aX f).ms.map (fun m=>Z m.f)=PE.map nr:=by rw [← hP1,List.map_map];rfl
    have hC1 : Rx.ms ⟨z.p,some q1,some q2,z.qn,z.qx,PE.map Prod.snd⟩ (R.aX f)=PE.map nt:=by
      unfold Rx.ms
      dsimp only
      rw [← hP1,List.zipWith_map,List.zipWith_self]
      rfl
    have hok : (Rx.mk z.p (some q1) (some q2) z.qn z.qx (PE.map Prod.snd)).ok (R.aX f):=
      ⟨by rw [← hP1,List.map_map,List.map_map];exact List.map_congr_left fun p hp=>hP3 p hp,fun y hy=>k.h0 y (hP2.subset hy),nofun,nofun,k.qn,k.qx⟩
    rw [hPE]
    have hcsE : z.cs R=[ah z.qi R.ms.length,ah z.qm R.ms.length,ah z.qn R.nx.length,ah z.qx R.nx.length]:=rfl
    obtain ⟨Zs,hZs⟩ : ∃ Zs,(aa 9 z.qi (R.ms.map fun m=>Z m.f)++(aY 46 3 z.qm (z.ms R)++(aa 9 z.qn (R.nx.map fun x=>Z x.1)++(aa 3 z.qx (R.nx.map fun x=>N x.2)++ay z.ss))))=Zs:=⟨_,rfl⟩
    have hzE : z.E R=⟨z.p,Row 37 [ah z.qi R.ms.length,ah z.qm R.ms.length,ah z.qn R.nx.length,ah z.qx R.nx.length],true⟩::Zs:=by rw [← hZs];rfl
    rw [hzE]
    repeat (first | refine JC.exit ?_ | refine JE.aH ?_ | refine JE.aW ?_ | refine JE.next ?_)
    refine JC.seq (JC.region ?_)
    refine JL.perm (M':=_) ?_ (DW _ _ _ _)
    repeat (refine JL.q (by first|(apply OQ.move;rfl)|(apply OQ.aO;rfl)|(apply OQ.aV;rfl;rfl;rfl;exact (by decide);rfl)) rfl ?_)
    refine JL.bK (r:=[ah z.qi R.ms.length,ah z.qm R.ms.length,ah z.qn R.nx.length,ah z.qx R.nx.length]) (r':=[ah (some q1) PE.length,ah z.qm R.ms.length,ah z.qn R.nx.length,ah z.qx R.nx.length]) DO rfl rfl (eD _ _) (dw _ _) .here (by show _<4;decide) rfl ?_
    refine JL.nil (JE.next ?_)
    refine JC.region ?_
    repeat (refine JL.q (by first|(apply OQ.move;rfl)|(apply OQ.aO;rfl)|(apply OQ.aV;rfl;rfl;rfl;exact (by decide);rfl)) rfl ?_)
    refine JL.bK (r:=[ah (some q1) PE.length,ah z.qm R.ms.length,ah z.qn R.nx.length,ah z.qx R.nx.length]) (r':=[ah (some q1) PE.length,ah (some q2) PE.length,ah z.qn R.nx.length,ah z.qx R.nx.length]) Er rfl rfl (eD _ _) (dw _ _) .here (by show _<4;decide) rfl ?_
    refine JL.nil ?_
    refine JE.rI rfl fun w' hw=>⟨⟨Rx.mk z.p (some q1) (some q2) z.qn z.qx (PE.map Prod.snd),rfl,hok⟩,rfl,hw.weak ?_⟩
    unfold Rx.E
    rw [hC1]
    unfold Rx.cs
    dsimp only
    rw [hlE,hF1,← hZs]
    exact .keep _ _ _ _ _ _ (fun _ h=>h) (aE (aE (av _ (av _ (aE (aE (tD hP2) _) _))) _) _)
end
end Go.Proofs.YtmhlgnbdhnolaaaGreatDoor
