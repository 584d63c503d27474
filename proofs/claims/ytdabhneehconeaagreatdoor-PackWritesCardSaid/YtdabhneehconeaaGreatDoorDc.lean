/-
  Of no statement by itself: the texts Prz, Slap, TkB, LsC, TokX, TkC, MibA, TokB, TokA, TokI, TokP, TokR, Same, MimQ, FieW in one.
  Conditions: each theorem's own.
-/
import Derived.Test.YtdabhneehconeaaGreatDoorDb
import Derived.Shelf.Strings.OnBuilder
import Derived.Shelf.Strings.Split
import Derived.Laws.Tables
set_option linter.unusedSimpArgs false
set_option linter.unusedVariables false
set_option maxRecDepth 10000
set_option maxHeartbeats 32000000
open Go.Proofs.YtdabhneehconeaaGreatDoor.YY
namespace Go.Proofs.YtdabhneehconeaaGreatDoor
section
open Sl
structure wV where
 ad:Option Addr
 cap:Nat
 l:List (List Bt)
def wV.cells(s:wV):List Value:=s.l.map Z
def wV.v(s:wV):Value:=.slice s.ad s.l.length s.cap
structure wV.ok (w:World) (s:wV):Prop where
 len:s.l.length<=s.cap
 reads:Reads w s.ad s.cells
theorem wV.ok.holds{w0 w:World}{S:List Nat}{M:List aL}{s:wV}(h:s.ok w0)(hw:aa w0 S M w)(hS:S=[]):s.ok w:=⟨h.len,hw.reads h.reads (fun _ a _=>by rw[hS];simp)⟩
theorem wV.ok.ext{w w':World}{s:wV}(h:s.ok w)(hx:Ext w w'):s.ok w':=h.holds (⟨hx,by simp,by simp⟩:aa w [] [] w') rfl
def Dv:wV:=⟨none,0,[]⟩
theorem qi(w:World):Dv.ok w:=⟨by simp[Dv],Reads.nil _ _⟩
theorem M4{w0 w:World}{S:List Nat}{M:List aL}{b k cap:Nat}{e:TypeId}{l:List (List Bt)}{wr:Bool}(hw:aa w0 S M w)(hM:Has M b (Sl.Own e 1 k cap (l.map Z)) wr)(hk:l.length=k):wV.ok w ⟨some ⟨b,0,none⟩,cap,l⟩:=by
 obtain⟨o,ho,hA⟩:=hw.get hM
 have hh:=Sl.Own.cells _ hA
 obtain⟨sp,rfl,h2,h3,h4⟩:=hA
 exact Y241
theorem Px:EI Tryz.prog 9 (Z []) 1 16:=by unfold EI;kernel_rfl
theorem M5{w0 w:World}{S:List Nat}{M:List aL}{b k cap:Nat}{e:TypeId}{l:List Pr}{wr:Bool}(hw:aa w0 S M w)(hM:Has M b (Sl.Own e 2 k cap (l.flatMap pc)) wr):gm.ok w ⟨some ⟨b,0,none⟩,cap,l⟩:=by
 obtain⟨o,ho,hA⟩:=hw.get hM
 have hh:=Sl.Own.cells _ hA
 obtain⟨sp,rfl,h2,h3,h4⟩:=hA
 rw[zQ] at h3
 exact Y241
theorem wV.ok.at{w:World}{s:wV}(h:s.ok w)(h0:0<s.l.length):∃ b j,s.ad=some ⟨b,j,none⟩/\b<w.heap.size/\∀ i,i<s.l.length->w.cell? ⟨b,j+i,none⟩=some (Z (s.l.getD i [])):=by
 obtain⟨b,j,h1,h2⟩:=h.reads.at (by simpa [wV.cells] using h0)
 have hc:∀ i,i<s.l.length->w.cell? ⟨b,j+i,none⟩=some (Z (s.l.getD i [])):=fun i hi=>h2 i _ (dF Z [] hi)
 exact⟨b,j,h1,block_lt_of_cell (hc 0 h0),hc⟩
def gm.an(s:gm):List aL:=match s.ad with
 | some a=>[⟨a.block,fun o=>dy o a.off s.cells/\s.l.length<=s.cap/\a.spot=none,true⟩]
 | none=>[]
theorem gm.bU{s:gm}{w0 w:World}{S:List Nat}{M:List aL}(h:aa w0 S (s.an++M) w)(h0:s.ad=none->s.l=[]):s.ok w:=by
 obtain⟨ad,cap,l⟩:=s
 cases ad with
 | none=>
   have:l=[]:=h0 rfl
   subst this
   exact⟨by simp,Reads.nil _ _⟩
 | some a=>
   obtain⟨o,ho,h1,h2,h3⟩:=h.get (b:=a.block) (A:=fun o=>dy o a.off (l.flatMap pc)/\l.length<=cap/\a.spot=none) (wr:=true) .here
   obtain⟨b,j,sp⟩:=a
   simp only at h3
   subst h3
   exact⟨h2,Reads.block ho h1⟩
theorem gm.bH(s:gm):∀ e∈s.an,e.wr=true:=by
 intro e he
 unfold gm.an at he
 split at he
 · rw[List.mem_singleton.1 he]
 · cases he
def wV.an(s:wV):List aL:=match s.ad with
 | some a=>[⟨a.block,fun o=>dy o a.off s.cells/\s.l.length<=s.cap/\a.spot=none,true⟩]
 | none=>[]
theorem rH{M:List aL}{b cap:Nat}{e:TypeId}{o:List Pr}:aj (gm.an ⟨some ⟨b,0,none⟩,cap,o⟩) (⟨b,Sl.Own e 2 o.length cap (o.flatMap pc),true⟩::M):=by
 refine .keep _ _ _ _ _ _ (fun ob hA=>?_) (.nil _)
 have hh:=Sl.Own.cells _ hA
 obtain⟨sp,rfl,h2,h3,h4⟩:=hA
 exact⟨hh,h4,rfl⟩
structure Gz (A:List (List Bt)) where
 z:wV
 h:z.l=A
 n:z.ad=none->z.l=[]
structure G2 (A:List Pr) where
 z:gm
 h:z.l=A
 n:z.ad=none->z.l=[]
def GY(M:List aL):List aL:=M.map fun e=>⟨e.b,e.A,false⟩
theorem aa.GY{w0 w:World}{S:List Nat}{M:List aL}(h:aa w0 S M w):aa w [] (GY M) w:=by
 refine⟨pV.refl _ _,?_,fun e he=>?_⟩
 · rw[Proofs.YtdabhneehconeaaGreatDoor.GY,List.map_map]
   exact h.nodup
 · obtain⟨q,hq,rfl⟩:=List.mem_map.1 he
   exact⟨(h.all q hq).1,nofun⟩
end
section
namespace Sl
theorem fU{N M:List aL}(h:N.Sublist M):aj N M:=by
 induction h with
 | slnil=>exact .nil _
 | cons a _ ih=>exact .drop _ _ _ ih
 | cons_cons a _ ih=>exact .keep _ _ _ _ _ _ (fun _ h=>h) ih
section
variable {P:Program} {n:Nat} {w0:World} {S:List Nat} {ops:Array Oper} {Q:Exit->Act->World->Prop} {l:List Oper} {E:Env} {M M' M0:List aL} {d:Nat} {t e ty:TypeId} {pos:String} {aft:Array Edge} {x y:Operand}
theorem aa.perm'{w0 w:World}{S:List Nat}{M M':List aL}(hp:M.Perm M')(h:aa w0 S M w):aa w0 S M' w:=
 h.sub ((hp.map aL.b).nodup_iff.1 h.nodup) fun e he=>hp.mem_iff.2 he
theorem JL.kC(h:JL P n w0 S ops Q l E M')(hM:aj M' M):JL P n w0 S ops Q l E M:=⟨fun a w ha hw=>h.go a w ha (hw.weak hM)⟩
theorem JL.perm(h:JL P n w0 S ops Q l E M')(hp:M.Perm M'):JL P n w0 S ops Q l E M:=⟨fun a w ha hw=>h.go a w ha (hw.perm' hp)⟩
theorem JC.kC{c:Code}(h:JC P n w0 S Q c E M')(hM:aj M' M):JC P n w0 S Q c E M:=⟨fun a w ha hw=>h.go a w ha (hw.weak hM)⟩
def dr(e:TypeId)(q:Acc)(l:List Pr):List aL:=match q with
 | none=>[]
 | some p=>[⟨p.1,Sl.Own e 2 l.length p.2 (l.flatMap pc),true⟩]
def ew(q:Acc)(l:List Pr):gm:=match q with
 | none=>bV
 | some p=>⟨some ⟨p.1,0,none⟩,p.2,l⟩
theorem kD(q:Acc)(l:List Pr):(ew q l).v=aD q l.length:=by cases q <;> rfl
theorem Fu{q:Acc}{l:List Pr}(h:q=none->l=[]):(ew q l).l=l:=by
 cases q with
 | none=>rw[h rfl];rfl
 | some p=>rfl
theorem qj{w0 w:World}{S:List Nat}{M:List aL}{e:TypeId}{q:Acc}{l:List Pr}(hw:aa w0 S (dr e q l++M) w):(ew q l).ok w:=by
 cases q with
 | none=>exact zP w
 | some p=>exact M5 hw .here
theorem u5{p:Pr}:∀ v∈pc p,v.oneCell'=true:=by
 intro v hv
 simp only[pc,List.mem_cons,List.not_mem_nil,or_false] at hv
 rcases hv with rfl|rfl <;> rfl
theorem JL.zR{z:Value}{by' bl:Nat}{p:Pr}{L:List Pr}{ba:aL}(q:Acc)(hu:P.underlying t=some (.slice e))(hi:EI P e z 2 by')(hq:q=none->L=[])(hx:ev E x=some (aD q L.length))(hy:ev E y=some (.slice (some ⟨bl,0,none⟩) 1 1))
  (hzz:z.cells.size=2) (hsm:(L.length+1)*by'<=140737488355328) (hsm2:L.length+1<9223372036854775808) (hd:Nat.blt d n=true)
  (kk:∀ b' cap',JL P n w0 S ops Q l ((d,aD (some (b',cap')) (L++[p]).length)::E) (dr e (some (b',cap')) (L++[p])++M0)) :
  JL P n w0 S ops Q (⟨some d,.call ⟨.builtin .append,#[x,y],#[t,t]⟩,ty,pos,aft,none⟩::l) E (⟨bl,Row e (pc p),true⟩::ba::(dr e q L++M0)):=by
 have hr:∀ w,aa w0 S (⟨bl,Row e (pc p),true⟩::ba::(dr e q L++M0)) w->Reads w (some ⟨bl,0,none⟩) (pc p):=fun w hw=>by
  obtain⟨o,ho,hA⟩:=hw.get (b:=bl) (A:=Row e (pc p)) (wr:=true) .here
  exact Y242
 have eN:(L++[p]).length=L.length+1:=List.length_append
 have eF:(L++[p]).flatMap pc=L.flatMap pc++pc p:=by rw[List.flatMap_append];simp
 cases q with
 | none=>
   obtain rfl:=hq rfl
   refine JL.append_nil (cs:=pc p) (m:=1) hu hi hx hy rfl hr Y610 hzz Y610 Y639 Y610 hd fun b' cap' _=>?_
   refine(kk b' cap').kC ?_
   exact .keep _ _ _ _ _ _ (fun o h=>h) (.drop _ _ _ (.drop _ _ _ (aj.refl _)))
 | some r=>
   refine JL.append (cs:=pc p) (m:=1) (b:=r.1) (cap:=r.2) (k:=L.length) (xs:=L.flatMap pc) (fun b' cap'=>⟨bl,Row e (pc p),true⟩::ba::(dr e (some (b',cap')) (L++[p])++M0)) hu hi hx hy (fun b' cap'=>?_) rfl hr u5 hzz Y610 hsm hsm2 hd fun b' cap'=>?_
   · show aR (_::ba::⟨r.1,Sl.Own e 2 L.length r.2 (L.flatMap pc),true⟩::M0) _ _ _ _ (_::ba::⟨b',Sl.Own e 2 (L++[p]).length cap' ((L++[p]).flatMap pc),true⟩::M0)
     rw[eN,eF]
     exact .there (.there .here)
   · have:=kk b' cap'
     rw[show aD (some (b',cap')) (L++[p]).length=Value.slice (some ⟨b',0,none⟩) (L.length+1) cap' by rw[eN];rfl] at this
     exact this.kC (.drop _ _ _ (.drop _ _ _ (aj.refl _)))
theorem JL.M6{z:Value}{by' bl:Nat}{p:List Bt}{L:List (List Bt)}(q:Acc)(hu:P.underlying t=some (.slice e))(hi:EI P e z 1 by')(hq:q=none->L=[])(hx:ev E x=some (aD q L.length))(hy:ev E y=some (.slice (some ⟨bl,0,none⟩) 1 1))
  (hzz:z.cells.size=1) (hsm:(L.length+1)*by'<=140737488355328) (hsm2:L.length+1<9223372036854775808) (hd:Nat.blt d n=true)
  (kk:∀ b' cap',JL P n w0 S ops Q l ((d,aD (some (b',cap')) (L++[p]).length)::E) (bw e (some (b',cap')) ((L++[p]).map Z)++M0)) :
  JL P n w0 S ops Q (⟨some d,.call ⟨.builtin .append,#[x,y],#[t,t]⟩,ty,pos,aft,none⟩::l) E (⟨bl,Row e [Z p],true⟩::(bw e q (L.map Z)++M0)):=by
 have hr:∀ w,aa w0 S (⟨bl,Row e [Z p],true⟩::(bw e q (L.map Z)++M0)) w->Reads w (some ⟨bl,0,none⟩) [Z p]:=fun w hw=>by
  obtain⟨o,ho,hA⟩:=hw.get (b:=bl) (A:=Row e [Z p]) (wr:=true) .here
  exact Y242
 have h1:∀ v∈[Z p],v.oneCell'=true:=fun v hv=>by rw[List.mem_singleton.1 hv];rfl
 have eN:(L++[p]).length=L.length+1:=List.length_append
 have eM:(L++[p]).map Z=L.map Z++[Z p]:=by rw[List.map_append];rfl
 have eL:((L++[p]).map Z).length=L.length+1:=by rw[List.length_map,eN]
 cases q with
 | none=>
   obtain rfl:=hq rfl
   refine JL.append_nil (cs:=[Z p]) (m:=1) hu hi hx hy rfl hr Y610 hzz Y610 Y639 Y610 hd fun b' cap' _=>?_
   exact(kk b' cap').kC (.keep _ _ _ _ _ _ (fun o h=>h) (.drop _ _ _ (aj.refl _)))
 | some r=>
   refine JL.append (cs:=[Z p]) (m:=1) (b:=r.1) (cap:=r.2) (k:=L.length) (xs:=L.map Z) (fun b' cap'=>⟨bl,Row e [Z p],true⟩::(bw e (some (b',cap')) ((L++[p]).map Z)++M0)) hu hi hx hy (fun b' cap'=>?_) rfl hr h1 hzz Y610 hsm hsm2 hd fun b' cap'=>?_
   · show aR (_::⟨r.1,Sl.Own e 1 (L.map Z).length r.2 (L.map Z),true⟩::M0) _ _ _ _ (_::⟨b',Sl.Own e 1 ((L++[p]).map Z).length cap' ((L++[p]).map Z),true⟩::M0)
     rw[eL,eM,List.length_map]
     exact .there .here
   · have:=kk b' cap'
     rw[show aD (some (b',cap')) (L++[p]).length=Value.slice (some ⟨b',0,none⟩) (L.length+1) cap' by rw[eN];rfl] at this
     exact this.kC (.drop _ _ _ (aj.refl _))
end
end Sl
end
section
open Sl aq Tok
theorem u6{e:TypeId}(p:Nat × Nat)(o:List Bt):bw e (some p) (o.map U8)=[⟨p.1,Sl.Own e 1 o.length p.2 (o.map U8),true⟩]:=by
 show [(⟨p.1,Sl.Own e 1 (o.map U8).length p.2 (o.map U8),true⟩:aL)]=_
 rw[List.length_map]
theorem JC.Py{P:Program}{n:Nat}{w0:World}{S:List Nat}{Q:Exit->Act->World->Prop}{E:Env}{M:List aL}{ι:Type}(l:Nat)(Ei:ι->Env)(Mi:ι->List aL)(μ:ι->Nat)(I:ι->Prop){c rest:Code}(hf:findLabel c l=some (.seq .skip rest))
  (pass:∀ i,I i->JC P n w0 S (Exit.jump l (Q5 n w0 S Ei Mi fun j=>I j/\μ j<μ i) Q) rest (Ei i) (Mi i))
  (first:(∀ i,I i->JC P n w0 S (Exit.jump l (Q5 n w0 S Ei Mi I) Q) rest (Ei i) (Mi i))->JC P n w0 S (Exit.jump l (Q5 n w0 S Ei Mi I) Q) c E M):JC P n w0 S Q (.scope c) E M:=
 JC.scope l Ei Mi μ I hf (first fun i hi=>(pass i hi).mono fun e a w hq=>by
  cases e with
  | goto l'=>exact⟨hq.1,let ⟨j,h1,h2⟩:=hq.2;⟨j,h1.1,h2⟩⟩
  | _=>exact hq) fun i hi=>JC.seq (JC.skip (JE.next (pass i hi)))
def Uk(o:Except Nat Nat):Value:=match o with
 | .ok m=>.tuple #[N m,N 0]
 | .error e=>.tuple #[N 0,N e]
theorem Bs(r:List Bt)(w:World)(hl:r.length<9223372036854770000):Calls Tryz.prog 173 [Z (40::r)].toArray w fun e w'=>e=.returned (Uk (dY (40::r) 0 0))/\Ext w w':=by
 refine enter (n:=32) Tryz.func173 rfl rfl rfl (aa.start w []) ?_
 generalize hs:40::r=s
 have hsl:s.length<9223372036854770001:=by rw[<- hs,List.length_cons];omega
 have hs0:s.getD 0 0=40:=by rw[<- hs];rfl
 clear hs
 repeat(refine JL.q (by fail) rfl ?_)
 refine JC.seq (JC.region ?_)
 refine Y258 ?_
 refine JL.nil (JE.next ?_)
 refine JC.Py (ι:=Nat × Nat) 0 (fun i=>[(0,Z s),(4,N i.1),(5,N i.2)]) (fun _=>[]) (fun i=>s.length+1-i.1) (fun i=>i.1<=s.length+1/\i.2<=9/\(0<i.2\/i.1=0)/\dY (s.drop i.1) i.2 i.1=dY s 0 0) rfl ?_ ?_
 · rintro⟨k,d⟩ ⟨hk,hd,h0,hc⟩
   dsimp only at hk hd h0 hc⊢
   repeat(first|refine JL.q (by first|exact Y322|exact Y323|(apply OQ.MN;rfl;rfl)) rfl ?_|refine JC.seq ?_|refine JC.region ?_|refine JL.nil ?_|refine JE.next ?_)
   refine JC.cond rfl (fun h=>?_) (fun h=>?_)
   · have hk':s.length<=k:=of_decide_eq_true h
     rw[List.drop_eq_nil_of_le hk',rA] at hc
     rw[<- hc]
     refine Y3 ?_
     refine JC.ret (JE.ag (JE.uU ?_))
     exact Y259
   · have hk':k<s.length:=by have:=of_decide_eq_false h;omega
     clear h hk
     have hdr:s.drop k=s.getD k 0::s.drop (k+1):=by rw[List.drop_eq_getElem_cons hk',List.getD_eq_getElem?_getD,List.getElem?_eq_getElem hk'];rfl
     have h0':0<d\/s.getD k 0=40:=h0.imp id fun h=>by rw[h];exact hs0
     clear h0
     rw[hdr] at hc
     have i0:=fun {n:Nat} {E:Env} {C:World->Prop} {dst:Option Tmp} {ty:TypeId} {pos:String} {aft:Array Edge} {g:Option (Nat × Bool)} {x y:Operand}=>dI hk' (n:=n) (E:=E) (C:=C) (dst:=dst) (ty:=ty) (pos:=pos) (aft:=aft) (g:=g) (x:=x) (y:=y)
     generalize s.getD k 0=c at hc i0 h0'
     cases h40:decide (c=40)
     · cases h41:decide (c=41)
       · cases h92:decide (c=92)
         · rw[Ds (of_decide_eq_false h40) (of_decide_eq_false h41) (of_decide_eq_false h92)] at hc
           have hd0:0<d:=h0'.resolve_right (of_decide_eq_false h40)
           refine Y28 ?_
           refine Y245 ?_
           refine Y29 ?_
           refine Y245 ?_
           repeat(first|refine JL.q (by exact Y336) rfl ?_|refine Y20 ?_)
           refine Y245 ?_
           refine Y30 ?_
           refine JC.cond rfl (fun _=>JC.goto (JE.fJ ?_)) (fun h=>absurd hd0 (of_decide_eq_false h))
           exact JE.tM (k+1,d) ⟨⟨by dsimp only;omega,hd,Or.inl hd0,hc⟩,by dsimp only;omega⟩ Y640 (aj.refl _)
         · rw[of_decide_eq_true h92] at hc
           have hd0:0<d:=h0'.resolve_right (of_decide_eq_false h40)
           have hc':dY (s.drop (k+2)) d (k+2)=dY s 0 0:=by
            by_cases he:k+1<s.length
            · have hdr':s.drop (k+1)=s.getD (k+1) 0::s.drop (k+2):=by rw[List.drop_eq_getElem_cons he,List.getD_eq_getElem?_getD,List.getElem?_eq_getElem he];rfl
              rw[hdr',zH] at hc
              exact hc
            · rw[List.drop_eq_nil_of_le Y609,uY] at hc
              rw[List.drop_eq_nil_of_le Y609,rA]
              exact hc
           refine Y28 ?_
           refine Y245 ?_
           refine Y29 ?_
           refine Y245 ?_
           repeat(first|refine JL.q (by exact Y336) rfl ?_|refine Y20 ?_)
           refine Y246 ?_
           repeat(first|refine JL.q (by first|exact Y323|exact Y324|exact Y337|(apply OQ.uH;rfl;rfl)) rfl ?_|refine JC.seq ?_|refine JC.region ?_|refine JL.nil ?_|refine JE.next ?_|refine JE.ah ?_)
           refine JC.cond rfl (fun _=>JC.goto (JE.fJ ?_)) (fun h=>absurd hd0 (of_decide_eq_false h))
           exact JE.tM (k+2,d) ⟨⟨by dsimp only;omega,hd,Or.inl hd0,hc'⟩,by dsimp only;omega⟩ Y640 (aj.refl _)
       · have h40':¬ c=40:=of_decide_eq_false h40
         rw[of_decide_eq_true h41,tN] at hc
         have hd0:0<d:=h0'.resolve_right h40'
         refine Y28 ?_
         refine Y245 ?_
         refine Y29 ?_
         refine Y246 ?_
         repeat(first|refine JL.q (by first|exact Y323|exact Y324|exact Y337|exact Y338|(apply OQ.uH;rfl;rfl)) rfl ?_|refine JC.seq ?_|refine JC.region ?_|refine JL.nil ?_|refine JE.next ?_|refine JE.ah ?_)
         refine JC.cond rfl (fun h=>?_) (fun h=>?_)
         · have hd1:0<d-1:=of_decide_eq_true h
           rw[if_neg Y609] at hc
           refine JC.goto (JE.fJ ?_)
           exact JE.tM (k+1,d-1) ⟨⟨by dsimp only;omega,by dsimp only;omega,Or.inl hd1,hc⟩,by dsimp only;omega⟩ Y640 (aj.refl _)
         · have hd1:¬ 0<d-1:=of_decide_eq_false h
           rw[if_pos Y609] at hc
           rw[<- hc]
           refine Y5 ?_
           refine JC.ret (JE.uU ?_)
           exact Y259
     · rw[of_decide_eq_true h40,nX] at hc
       clear h0'
       by_cases h8:8<d
       · rw[if_pos h8] at hc
         rw[<- hc]
         refine Y28 ?_
         refine Y246 ?_
         refine Y31 ?_
         refine JC.cond rfl (fun _=>?_) (fun h=>absurd h8 (of_decide_eq_false h))
         refine Y3 ?_
         refine Y247 ?_
         refine Y2 ?_
         refine JE.uU ?_
         exact Y259
       · rw[if_neg h8] at hc
         refine Y28 ?_
         refine Y246 ?_
         refine Y31 ?_
         refine JC.cond rfl (fun h=>absurd (of_decide_eq_true h) h8) (fun _=>?_)
         refine Y30 ?_
         refine JC.cond rfl (fun _=>JC.goto (JE.fJ ?_)) (fun h=>absurd (Nat.succ_pos d) (of_decide_eq_false h))
         exact JE.tM (k+1,d+1) ⟨⟨by dsimp only;omega,by dsimp only;omega,Or.inl (Nat.succ_pos d),hc⟩,by dsimp only;omega⟩ Y640 (aj.refl _)
 · intro hp
   refine JC.seq (JC.region ?_)
   refine Y258 ?_
   refine JL.nil (JE.next ?_)
   refine JC.seq (JC.region ?_)
   refine Y258 ?_
   refine JL.nil (JE.next ?_)
   refine JC.seq (JC.label (JE.next ?_))
   exact(hp (0,0) ⟨Nat.zero_le _,Nat.zero_le _,Or.inr rfl,rfl⟩).weak Y640 (aj.refl _)
theorem u7(c0:Bt)(r:List Bt)(w:World)(hl:r.length<9223372036854770000):Calls Tryz.prog 174 [Z (c0::r)].toArray w fun e w'=>e=.returned (N (bZ r 1))/\Ext w w':=by
 refine enter (n:=21) Tryz.func174 rfl rfl rfl (aa.start w []) ?_
 rw[show bZ r 1=bZ ((c0::r).drop 1) 1 from rfl]
 generalize hs:c0::r=s
 have hsl:s.length<9223372036854770001:=by rw[<- hs,List.length_cons];omega
 clear hs
 refine Y7 ?_
 refine JC.loop (fun k:Nat=>[(0,Z s),(3,N k)]) (fun _=>[]) (fun k=>s.length+1-k) (fun k=>k<=s.length+1/\bZ (s.drop k) k=bZ (s.drop 1) 1) 1 ⟨by omega,rfl⟩ Y640 (aj.refl _) ?_
 rintro k ⟨hk,hc⟩
 refine Y8 ?_
 refine JC.cond rfl (fun h=>?_) (fun h=>?_)
 · have hk':k<s.length:=of_decide_eq_true h
   clear h hk
   have hdr:s.drop k=s.getD k 0::s.drop (k+1):=by rw[List.drop_eq_getElem_cons hk',List.getD_eq_getElem?_getD,List.getElem?_eq_getElem hk'];rfl
   rw[hdr] at hc
   have i0:=fun {n:Nat} {E:Env} {C:World->Prop} {dst:Option Tmp} {ty:TypeId} {pos:String} {aft:Array Edge} {g:Option (Nat × Bool)} {x y:Operand}=>dI hk' (n:=n) (E:=E) (C:=C) (dst:=dst) (ty:=ty) (pos:=pos) (aft:=aft) (g:=g) (x:=x) (y:=y)
   generalize s.getD k 0=c at hc i0
   cases h92:decide (c=92)
   · cases h34:decide (c=34)
     · rw[zJ (of_decide_eq_false h34) (of_decide_eq_false h92)] at hc
       refine Y32 ?_
       refine Y245 ?_
       refine Y33 ?_
       refine Y245 ?_
       refine Y10 ?_
       exact JE.again (i:=k) (k+1) ⟨by omega,hc⟩ Y609 Y640 (aj.refl _)
     · rw[of_decide_eq_true h34,zI] at hc
       rw[<- hc]
       refine Y32 ?_
       refine Y245 ?_
       refine Y33 ?_
       refine Y246 ?_
       repeat refine Y34 ?_
       refine Y247 ?_
       refine Y2 ?_
       exact Y248
   · rw[of_decide_eq_true h92] at hc
     have hc':bZ (s.drop (k+2)) (k+2)=bZ (s.drop 1) 1:=by
      by_cases he:k+1<s.length
      · have hdr':s.drop (k+1)=s.getD (k+1) 0::s.drop (k+2):=by rw[List.drop_eq_getElem_cons he,List.getD_eq_getElem?_getD,List.getElem?_eq_getElem he];rfl
        rw[hdr',tO] at hc
        exact hc
      · rw[List.drop_eq_nil_of_le Y609,uZ] at hc
        rw[List.drop_eq_nil_of_le Y609,oN]
        exact hc
     refine Y32 ?_
     refine Y246 ?_
     refine Y18 ?_
     exact JE.again (i:=k) (k+2) ⟨by omega,hc'⟩ Y609 Y640 (aj.refl _)
 · have hk':s.length<=k:=by have:=of_decide_eq_false h;omega
   rw[List.drop_eq_nil_of_le hk',oN] at hc
   rw[<- hc]
   refine Y11 ?_
   refine Y247 ?_
   exact Y248
def Pz:Nat->List (Nat × Nat)
 | 2=>[(0,25),(1,26)]
 | 5=>[(3,28),(4,29)]
 | 6=>[(2,27)]
 | 7=>[(5,30)]
 | _=>[]
def RN:Nat->List Nat
 | 2=>[8,1]
 | _=>[]
def RO:Nat->List Nat
 | 2=>[8]
 | _=>[]
def RP:Nat->Option Nat
 | 6=>some 2
 | _=>none
def J5:Nat->List (Nat × Nat)
 | 3=>[(1,40),(2,41)]
 | 4=>[(0,39),(3,42)]
 | 7=>[(5,44),(6,45)]
 | 8=>[(4,43)]
 | 9=>[(7,46)]
 | _=>[]
def OI:Nat->List Nat
 | 4=>[10]
 | _=>[]
def OJ:Nat->List Nat
 | 4=>[10]
 | _=>[]
def OK:Nat->Option Nat
 | 8=>some 4
 | _=>none
theorem J6:∀ (n:Nat) (r:List aq.By) (d k e:Nat),r.length<=n->dY r d k=.error e->decide ((e:Int)=0)=false:=by
 intro n
 induction n with
 | zero=>
   intro r d k e h hc
   obtain rfl:r=[]:=List.eq_nil_of_length_eq_zero Y609
   rw[rA] at hc
   cases hc
   rfl
 | succ n ih=>
   intro r d k e h hc
   match r,h with
   | [],_=>
     rw[rA] at hc
     cases hc
     rfl
   | c::r,h=>
     simp only[List.length_cons] at h
     by_cases h40:c=40
     · rw[h40,nX] at hc
       split at hc
       · cases hc
         rfl
       · exact ih _ _ _ _ Y609 hc
     by_cases h41:c=41
     · rw[h41,tN] at hc
       split at hc
       · cases hc
       · exact ih _ _ _ _ Y609 hc
     by_cases h92:c=92
     · rw[h92] at hc
       match r,h with
       | [],_=>
         rw[uY] at hc
         cases hc
         rfl
       | c2::r,h=>
         rw[zH] at hc
         simp only[List.length_cons] at h
         exact ih _ _ _ _ Y609 hc
     · rw[Ds h40 h41 h92] at hc
       exact ih _ _ _ _ Y609 hc
structure PB where
 r:List Bt
 o:List Bt
 b:Nat
 cap:Nat
theorem rI(s:List Bt)(w:World)(hl:s.length<140000000):Calls Tryz.prog 121 [Z s].toArray w fun e w'=>e=.returned (.tuple #[Z (dW s).1,N (dW s).2])/\Ext w w':=by
 refine enter (n:=49) Tryz.func121 rfl rfl rfl (aa.start w []) ?_
 refine Y35 ?_
 refine JL.uO (c:=s.length) Tryz.underlying22 dV rfl rfl Y609 rfl fun b0 _=>?_
 repeat(first|refine JL.q Y644 rfl ?_|refine JC.seq ?_|refine JC.block ?_|refine JL.nil ?_|refine JE.next ?_)
 refine JC.loop (fun z:PB=>[(0,Z z.r),(4,.slice (some ⟨z.b,0,none⟩) z.o.length z.cap)]) (fun z=>[⟨z.b,Sl.Own 5 1 z.o.length z.cap (z.o.map U8),true⟩]) (fun z=>z.r.length) (fun z=>z.r.length+z.o.length<=s.length/\dW s=aU z.r 0 false z.o) ⟨s,[],b0,s.length⟩ ⟨Nat.le_refl _,rfl⟩ Y640 (aj.refl _) ?_
 rintro⟨r,o,b,cap⟩ ⟨hlen,hc⟩
 dsimp only at hlen hc⊢
 cases hr0:decide (r=[])
 · obtain⟨c,r,rfl⟩:∃ c r',r=c::r':=by
    cases r with
    | nil=>cases hr0
    | cons c r=>exact⟨c,r,rfl⟩
   have hrl:r.length+1+o.length<=s.length:=by rw[List.length_cons] at hlen;exact hlen
   have i0:=fun {n:Nat} {E:Env} {C:World->Prop} {dst:Option Tmp} {ty:TypeId} {pos:String} {aft:Array Edge} {g:Option (Nat × Bool)} {x y:Operand}=>dI (s:=c::r) (i:=0) (Nat.succ_pos _) (n:=n) (E:=E) (C:=C) (dst:=dst) (ty:=ty) (pos:=pos) (aft:=aft) (g:=g) (x:=x) (y:=y)
   rw[List.getD_cons_zero] at i0
   repeat(first|refine JL.q Y645 rfl ?_|refine Y36 ?_)
   refine Y246 ?_
   cases h40:decide (c=40)
   · cases h41:decide (c=41)
     · cases h34:decide (c=34)
       · rw[lR (of_decide_eq_false h40) (of_decide_eq_false h41),show(c==34)=false from beq_eq_false_iff_ne.2 (of_decide_eq_false h34)] at hc
         replace hc:dW s=aU ((c::r).drop 1) 0 false (o++(c::r).take 1):=hc
         refine Y28 ?_
         refine Y245 ?_
         refine Y29 ?_
         refine Y245 ?_
         refine Y33 ?_
         refine Y245 ?_
         refine Y37 ?_
         have hml:((c::r).take 1).length=1:=by rw[List.length_take,List.length_cons];omega
         have hdl:((c::r).drop 1).length=r.length+1-1:=by rw[List.length_drop,List.length_cons]
         have hne:(c::r).take 1≠[]:=fun h=>by rw[h] at hml;rw[List.length_nil] at hml;omega
         have hlm:1<=(c::r).length:=by rw[List.length_cons];omega
         let vs:Nat->X->Value:=fun j x=>match j with
          | 0=>.slice (some ⟨b,0,none⟩) o.length cap
          | 1=>Z (c::r)
          | 2=>N 1
          | 3=>Z ((c::r).take 1)
          | 5=>Z (c::r)
          | 6=>N 1
          | 7=>Z ((c::r).drop 1)
          | 9=>Z ((c::r).drop 1)
          | _=>.slice (some ⟨x.1,0,none⟩) (o++(c::r).take 1).length x.2
         let Ms:Nat->X->List aL:=fun j x=>match j with
          | 4=>[⟨x.1,Sl.Own 5 1 (o++(c::r).take 1).length x.2 ((o++(c::r).take 1).map U8),true⟩]
          | 10=>[⟨b,Sl.Own 5 1 o.length cap (o.map U8),true⟩]
          | _=>[]
         refine JC.JJ (g:=⟨[(5,N 1)],11,vs,Ms,J5,OI,OJ,OK,fun j=>match j with|0=>[(4,.slice (some ⟨b,0,none⟩) o.length cap)]|1=>[(0,Z (c::r))]|5=>[(0,Z (c::r))]|_=>[]⟩) [(8,4),(9,0)] [4] oL Y640 (fun j _=>match j with|0=>Y640|1=>Y640|2=>.nil|3=>.nil|4=>.nil|5=>Y640|_+6=>.nil) (aj.refl _) Y636 Y636 Y636 ?_ ?_
         · refine⟨?_,?_,?_,?_,?_,?_,?_,?_,?_,?_,trivial⟩
           iterate 4 (focus (intro x EF MF Q kk;(try refine JL.bG rfl rfl ?_);exact JL.q Y646 rfl (JL.nil (kk default nofun))))
           · intro x EF MF Q kk
             refine JL.kC (M':=bw 5 (some (b,cap)) (o.map U8)++MF) ?_ Y647
             refine JL.jB (r:=(c::r).take 1) (xs:=o.map U8) (M:=MF) (some (b,cap)) Tryz.underlying22 Tryz.underlying9 dV (fun h=>by cases h) Y648 rfl hne Y649 rfl fun p=>JL.nil ?_
             rw[<- List.map_append,List.length_map,u6]
             exact kk p (fun k h=>by cases h)
           iterate 3 (focus (intro x EF MF Q kk;(try refine JL.bG rfl rfl ?_);exact JL.q Y650 rfl (JL.nil (kk default nofun))))
           · intro x EF MF Q kk
             exact Y260
           · (intro x EF MF Q kk;(try refine JL.bG rfl rfl ?_);exact JL.q Y644 rfl (JL.nil (kk default nofun)))
         · intro x hx'
           have h84:=hx' 8 4 Y610 rfl
           show JE _ _ _ _ _ [(4,.slice (some ⟨(x 8).1,0,none⟩) (o++(c::r).take 1).length (x 8).2),(0,Z ((c::r).drop 1)),(5,N 1)] [⟨(x 4).1,Sl.Own 5 1 (o++(c::r).take 1).length (x 4).2 ((o++(c::r).take 1).map U8),true⟩]
           rw[h84]
           obtain⟨b',cap'⟩:=x 4
           clear hx' h84 x vs Ms
           dsimp only
           repeat(refine JE.ah ?_)
           exact JE.again (i:=PB.mk (c::r) o b cap) (PB.mk ((c::r).drop 1) (o++(c::r).take 1) b' cap') ⟨by dsimp only;rw[List.length_append];omega,hc⟩ Y651 Y640 (aj.refl _)
       · obtain rfl:c=34:=of_decide_eq_true h34
         have cQ:=fun w'=>u7 34 r w' Y609
         cases hq:decide ((bZ r 1:Int)=0)
         · have hqn:bZ r 1≠0:=by have:=of_decide_eq_false hq;omega
           obtain⟨m0,m1,hb⟩:=zL o hqn
           rw[hb] at hc
           generalize bZ r 1=m at cQ hq m0 m1 hc
           clear hb hqn
           refine Y28 ?_
           refine Y245 ?_
           refine Y29 ?_
           refine Y245 ?_
           refine Y33 ?_
           refine Y246 ?_
           repeat(first|refine JL.q (by first|exact Y340|exact Y341) rfl ?_|refine Y0 ?_)
           refine Y245 ?_
           refine Y37 ?_
           have hml:((34::r).take m).length=m:=by rw[List.length_take,List.length_cons];omega
           have hdl:((34::r).drop m).length=r.length+1-m:=by rw[List.length_drop,List.length_cons]
           have hne:(34::r).take m≠[]:=fun h=>by rw[h] at hml;rw[List.length_nil] at hml;omega
           have hlm:m<=(34::r).length:=by rw[List.length_cons];omega
           let vs:Nat->X->Value:=fun j x=>match j with
            | 0=>.slice (some ⟨b,0,none⟩) o.length cap
            | 1=>Z (34::r)
            | 2=>N m
            | 3=>Z ((34::r).take m)
            | 5=>Z (34::r)
            | 6=>N m
            | 7=>Z ((34::r).drop m)
            | 9=>Z ((34::r).drop m)
            | _=>.slice (some ⟨x.1,0,none⟩) (o++(34::r).take m).length x.2
           let Ms:Nat->X->List aL:=fun j x=>match j with
            | 4=>[⟨x.1,Sl.Own 5 1 (o++(34::r).take m).length x.2 ((o++(34::r).take m).map U8),true⟩]
            | 10=>[⟨b,Sl.Own 5 1 o.length cap (o.map U8),true⟩]
            | _=>[]
           refine JC.JJ (g:=⟨[(5,N m)],11,vs,Ms,J5,OI,OJ,OK,fun j=>match j with|0=>[(4,.slice (some ⟨b,0,none⟩) o.length cap)]|1=>[(0,Z (34::r))]|5=>[(0,Z (34::r))]|_=>[]⟩) [(8,4),(9,0)] [4] oL Y640 (fun j _=>match j with|0=>Y640|1=>Y640|2=>.nil|3=>.nil|4=>.nil|5=>Y640|_+6=>.nil) (aj.refl _) Y636 Y636 Y636 ?_ ?_
           · refine⟨?_,?_,?_,?_,?_,?_,?_,?_,?_,?_,trivial⟩
             iterate 4 (focus (intro x EF MF Q kk;(try refine JL.bG rfl rfl ?_);exact JL.q Y646 rfl (JL.nil (kk default nofun))))
             · intro x EF MF Q kk
               refine JL.kC (M':=bw 5 (some (b,cap)) (o.map U8)++MF) ?_ Y647
               refine JL.jB (r:=(34::r).take m) (xs:=o.map U8) (M:=MF) (some (b,cap)) Tryz.underlying22 Tryz.underlying9 dV (fun h=>by cases h) Y648 rfl hne Y649 rfl fun p=>JL.nil ?_
               rw[<- List.map_append,List.length_map,u6]
               exact kk p (fun k h=>by cases h)
             iterate 3 (focus (intro x EF MF Q kk;(try refine JL.bG rfl rfl ?_);exact JL.q Y650 rfl (JL.nil (kk default nofun))))
             · intro x EF MF Q kk
               exact Y260
             · (intro x EF MF Q kk;(try refine JL.bG rfl rfl ?_);exact JL.q Y644 rfl (JL.nil (kk default nofun)))
           · intro x hx'
             have h84:=hx' 8 4 Y610 rfl
             show JE _ _ _ _ _ [(4,.slice (some ⟨(x 8).1,0,none⟩) (o++(34::r).take m).length (x 8).2),(0,Z ((34::r).drop m)),(5,N m)] [⟨(x 4).1,Sl.Own 5 1 (o++(34::r).take m).length (x 4).2 ((o++(34::r).take m).map U8),true⟩]
             rw[h84]
             obtain⟨b',cap'⟩:=x 4
             clear hx' h84 x vs Ms
             dsimp only
             repeat(refine JE.ah ?_)
             exact JE.again (i:=PB.mk (34::r) o b cap) (PB.mk ((34::r).drop m) (o++(34::r).take m) b' cap') ⟨by dsimp only;rw[List.length_append];omega,hc⟩ Y651 Y640 (aj.refl _)
         · rw[GU o (by have:=of_decide_eq_true hq;omega)] at hc
           rw[hc]
           generalize bZ r 1=m at cQ hq
           refine Y28 ?_
           refine Y245 ?_
           refine Y29 ?_
           refine Y245 ?_
           refine Y33 ?_
           refine Y246 ?_
           repeat(first|refine JL.q (by first|exact Y340|exact Y341) rfl ?_|refine Y0 ?_)
           refine Y246 ?_
           refine Y3 ?_
           refine Y247 ?_
           refine Y2 ?_
           exact Y259
     · rw[of_decide_eq_true h41,lQ,if_pos rfl] at hc
       rw[hc]
       refine Y28 ?_
       refine Y245 ?_
       refine Y29 ?_
       refine Y246 ?_
       refine Y3 ?_
       refine Y247 ?_
       refine Y2 ?_
       exact Y259
   · obtain rfl:c=40:=of_decide_eq_true h40
     have cC:=fun w'=>Bs r w' Y609
     cases hcm:dY (40::r) 0 0 with
     | error e=>
       rw[hcm] at cC
       have he:=J6 _ _ _ _ _ (Nat.le_refl _) hcm
       rw[GR o hcm] at hc
       rw[hc]
       refine Y28 ?_
       refine Y246 ?_
       repeat(first|refine JL.q (by first|exact Y342|(apply OQ.fh (b:=0);rfl;rfl;exact he)) rfl ?_|refine Y6 ?_)
       refine Y246 ?_
       refine Y24 ?_
       refine Y247 ?_
       refine Y2 ?_
       exact Y259
     | ok m=>
       rw[hcm] at cC
       obtain⟨m0,m1,hb⟩:=zK o hcm
       rw[hb] at hc
       refine Y28 ?_
       refine Y246 ?_
       repeat(first|refine JL.q (by first|exact Y342|(apply OQ.fh (b:=0) (c:=true);rfl;rfl;rfl)) rfl ?_|refine Y6 ?_)
       refine Y245 ?_
       refine Y38 ?_
       have hdl:((40::r).drop m).length=r.length+1-m:=by rw[List.length_drop,List.length_cons]
       have hlm:m<=(40::r).length:=by rw[List.length_cons];omega
       let vs:Nat->X->Value:=fun j x=>match j with
        | 0=>.slice (some ⟨b,0,none⟩) o.length cap
        | 1=>.slice (some ⟨x.1,0,none⟩) 1 1
        | 3=>Z (40::r)
        | 4=>N m
        | 5=>Z ((40::r).drop m)
        | 7=>Z ((40::r).drop m)
        | _=>.slice (some ⟨x.1,0,none⟩) (o++[32]).length x.2
       let Ms:Nat->X->List aL:=fun j x=>match j with
        | 1=>[⟨x.1,Row 5 [U8 32],true⟩]
        | 2=>[⟨x.1,Sl.Own 5 1 (o++[32]).length x.2 ((o++[32]).map U8),true⟩]
        | 8=>[⟨b,Sl.Own 5 1 o.length cap (o.map U8),true⟩]
        | _=>[]
       refine JC.JJ (g:=⟨[(6,N m)],9,vs,Ms,Pz,RN,RO,RP,fun j=>match j with|0=>[(4,.slice (some ⟨b,0,none⟩) o.length cap)]|3=>[(0,Z (40::r))]|_=>[]⟩) [(6,4),(7,0)] [2] oL Y640 (fun j _=>match j with|0=>Y640|1=>.nil|2=>.nil|3=>Y640|_+4=>.nil) (aj.refl _) Y636 Y636 Y636 ?_ ?_
       · refine⟨?_,?_,?_,?_,?_,?_,?_,?_,trivial⟩
         · (intro x EF MF Q kk;(try refine JL.bG rfl rfl ?_);exact JL.q Y652 rfl (JL.nil (kk default nofun)))
         · intro x EF MF Q kk
           exact JL.q9 Tryz.underlying22 dV rfl rfl rfl rfl fun b _=>JL.nil (kk (b,0) nofun)
         · intro x EF MF Q kk
           refine JL.kC (M':=bw 5 (some (b,cap)) (o.map U8)++⟨(x 1).1,Row 5 [U8 32],true⟩::MF) ?_ (by show aj ([⟨b,Sl.Own 5 1 (o.map U8).length cap (o.map U8),true⟩]++⟨(x 1).1,Row 5 [U8 32],true⟩::MF) _;rw[List.length_map];exact aj.refl _)
           refine JL.je (cs:=[U8 32]) (m:=1) (ad:=some ⟨(x 1).1,0,none⟩) (sc:=1) (xs:=o.map U8) (M:=⟨(x 1).1,Row 5 [U8 32],true⟩::MF) (some (b,cap)) Tryz.underlying22 dV (fun h=>by cases h) Y648 rfl rfl (fun w' hw'=>?_) (fun v hv=>by rw[List.mem_singleton.1 hv];rfl) rfl Y649 Y649 rfl fun q' hq'=>JL.nil ?_
           · have hw':aa _ _ (⟨b,Sl.Own 5 1 (o.map U8).length cap (o.map U8),true⟩::⟨(x 1).1,Row 5 [U8 32],true⟩::MF) w':=hw'
             obtain⟨o',ho,hA⟩:=hw'.get (.there .here)
             exact Y242
           · cases q' with
             | none=>exact absurd (hq' rfl) Y614
             | some p=>
               rw[show o.map U8++[U8 32]=(o++[32]).map U8 by rw[List.map_append];rfl,List.length_map,u6]
               exact kk p (fun k h=>by cases h)
         iterate 3 (focus (intro x EF MF Q kk;(try refine JL.bG rfl rfl ?_);exact JL.q Y650 rfl (JL.nil (kk default nofun))))
         · intro x EF MF Q kk
           exact JL.q (OQ.assign rfl) rfl (JL.nil (kk (x 2) (fun k h=>by cases h;rfl)))
         · (intro x EF MF Q kk;(try refine JL.bG rfl rfl ?_);exact JL.q Y644 rfl (JL.nil (kk default nofun)))
       · intro x hx'
         have h84:=hx' 6 2 Y610 rfl
         show JE _ _ _ _ _ [(4,.slice (some ⟨(x 6).1,0,none⟩) (o++[32]).length (x 6).2),(0,Z ((40::r).drop m)),(6,N m)] [⟨(x 2).1,Sl.Own 5 1 (o++[32]).length (x 2).2 ((o++[32]).map U8),true⟩]
         rw[h84]
         obtain⟨b',cap'⟩:=x 2
         clear hx' h84 x vs Ms
         dsimp only
         repeat(first|refine JC.exit ?_|refine JE.next ?_|refine JE.ak ?_|refine JE.aC ?_|refine JE.uC rfl ?_)
         exact JE.again (i:=PB.mk (40::r) o b cap) (PB.mk ((40::r).drop m) (o++[32]) b' cap') ⟨by dsimp only;rw[List.length_append,List.length_singleton];omega,hc⟩ Y651 Y640 (aj.refl _)
 · obtain rfl:r=[]:=of_decide_eq_true hr0
   rw[gW,if_neg Y610] at hc
   rw[hc]
   repeat(first|refine JL.q Y645 rfl ?_|refine Y36 ?_)
   refine Y245 ?_
   repeat(first|refine JL.q (by exact Y343) rfl ?_|refine Y19 ?_)
   refine Y247 ?_
   exact Y259
end
section
open Sl aq Go.Shelf
def u9:Ren:=⟨fun|159=>125|165=>178|166=>179|167=>180|169=>181|230=>182|204=>183|240=>223|241=>224|197=>218|118=>225|168=>226|270=>227|262=>228|276=>250|277=>251|260=>245|242=>252|313=>253|278=>261|274=>262|275=>263|n=>n,
 fun|9=>9|4=>4|3=>3|5=>5|72=>193|0=>0|76=>197|75=>196|107=>202|70=>191|20=>20|37=>22|127=>227|21=>21|105=>223|164=>245|162=>251|203=>249|119=>254|46=>211|139=>257|138=>256|51=>210|160=>258|208=>264|206=>262|80=>200|n=>n,
 fun|13=>3|3=>4|4=>5|n=>n⟩
theorem M7:Lays.n159 Tryz.prog u9:={
 mixed:=by kernel_rfl
 f118:=Tryz.func225.trans (congrArg some Y636)
 f159:=Tryz.func125.trans (congrArg some Y636)
 f165:=Tryz.func178.trans (congrArg some Y636)
 f166:=Tryz.func179.trans (congrArg some Y636)
 f167:=Tryz.func180.trans (congrArg some Y636)
 f168:=Tryz.func226.trans (congrArg some Y636)
 f169:=Tryz.func181.trans (congrArg some Y636)
 f197:=Tryz.func218.trans (congrArg some Y636)
 f204:=Tryz.func183.trans (congrArg some Y636)
 f230:=Tryz.func182.trans (congrArg some Y636)
 f240:=Tryz.func223.trans (congrArg some Y636)
 f241:=Tryz.func224.trans (congrArg some Y636)
 f242:=Tryz.func252.trans (congrArg some Y636)
 f260:=Tryz.func245.trans (congrArg some Y636)
 f262:=Tryz.func228.trans (congrArg some Y636)
 f270:=Tryz.func227.trans (congrArg some Y636)
 f274:=Tryz.func262.trans (congrArg some Y636)
 f275:=Tryz.func263.trans (congrArg some Y636)
 f276:=Tryz.func250.trans (congrArg some Y636)
 f277:=Tryz.func251.trans (congrArg some Y636)
 f278:=Tryz.func261.trans (congrArg some Y636)
 f313:=Tryz.func253.trans (congrArg some Y636)
 t0:=Tryz.underlying0
 a0:=Tryz.isAgg0
 z0:=Tryz.sizeOf0
 v0:=Tryz.zeroValue0
 t3:=Tryz.underlying3
 a3:=Tryz.isAgg3
 z3:=Tryz.sizeOf3
 v3:=Tryz.zeroValue3
 t4:=Tryz.underlying4
 a4:=Tryz.isAgg4
 z4:=Tryz.sizeOf4
 v4:=Tryz.zeroValue4
 t5:=Tryz.underlying5
 a5:=Tryz.isAgg5
 z5:=Tryz.sizeOf5
 v5:=Tryz.zeroValue5
 t9:=Tryz.underlying9
 a9:=Tryz.isAgg9
 z9:=Tryz.sizeOf9
 v9:=Tryz.zeroValue9
 t20:=Tryz.underlying20
 a20:=Tryz.isAgg20
 z20:=Tryz.sizeOf20
 v20:=Tryz.zeroValue20
 t21:=Tryz.underlying21
 a21:=Tryz.isAgg21
 z21:=Tryz.sizeOf21
 v21:=Tryz.zeroValue21
 t37:=Tryz.underlying22
 a37:=Tryz.isAgg22
 z37:=Tryz.sizeOf22
 v37:=Tryz.zeroValue22
 t46:=Tryz.underlying211
 a46:=Tryz.isAgg211
 z46:=Tryz.sizeOf211
 v46:=Tryz.zeroValue211
 t51:=Tryz.underlying210
 a51:=Tryz.isAgg210
 z51:=Tryz.sizeOf210
 v51:=Tryz.zeroValue210
 t70:=Tryz.underlying191
 a70:=Tryz.isAgg191
 z70:=Tryz.sizeOf191
 v70:=Tryz.zeroValue191
 t72:=Tryz.underlying193
 a72:=Tryz.isAgg193
 z72:=Tryz.sizeOf193
 v72:=Tryz.zeroValue193
 t75:=Tryz.underlying196
 a75:=Tryz.isAgg196
 z75:=Tryz.sizeOf196
 v75:=Tryz.zeroValue196
 t76:=Tryz.underlying197
 a76:=Tryz.isAgg197
 z76:=Tryz.sizeOf197
 v76:=Tryz.zeroValue197
 t105:=Tryz.underlying223
 a105:=Tryz.isAgg223
 z105:=Tryz.sizeOf223
 v105:=Tryz.zeroValue223
 t107:=Tryz.underlying202
 a107:=Tryz.isAgg202
 z107:=Tryz.sizeOf202
 v107:=Tryz.zeroValue202
 t119:=Tryz.underlying254
 a119:=Tryz.isAgg254
 z119:=Tryz.sizeOf254
 t127:=Tryz.underlying227
 a127:=Tryz.isAgg227
 z127:=Tryz.sizeOf227
 v127:=Tryz.zeroValue227
 t138:=Tryz.underlying256
 a138:=Tryz.isAgg256
 z138:=Tryz.sizeOf256
 v138:=Tryz.zeroValue256
 t139:=Tryz.underlying257
 a139:=Tryz.isAgg257
 z139:=Tryz.sizeOf257
 v139:=Tryz.zeroValue257
 t160:=Tryz.underlying258
 a160:=Tryz.isAgg258
 z160:=Tryz.sizeOf258
 v160:=Tryz.zeroValue258
 t162:=Tryz.underlying251
 a162:=Tryz.isAgg251
 z162:=Tryz.sizeOf251
 v162:=Tryz.zeroValue251
 t164:=Tryz.underlying245
 a164:=Tryz.isAgg245
 z164:=Tryz.sizeOf245
 v164:=Tryz.zeroValue245
 t203:=Tryz.underlying249
 a203:=Tryz.isAgg249
 z203:=Tryz.sizeOf249
 v203:=Tryz.zeroValue249
 t206:=Tryz.underlying262
 a206:=Tryz.isAgg262
 z206:=Tryz.sizeOf262
 v206:=Tryz.zeroValue262
 t208:=Tryz.underlying264
 a208:=Tryz.isAgg264
 z208:=Tryz.sizeOf264
 v208:=Tryz.zeroValue264
 g3:=by kernel_rfl
 g4:=by kernel_rfl
 g13:=by kernel_rfl }
theorem Tl:Builder.Extra Tryz.prog u9:={
 sizeBuilder:=by kernel_rfl
 liesBuilder:=by kernel_rfl
 t5:=Tryz.underlying5
 a5:=Tryz.isAgg5
 z5:=Tryz.sizeOf5
 v5:=Tryz.zeroValue5
 infoByte:=by kernel_rfl
 cellsByte:=by kernel_rfl
 sizeByte:=by kernel_rfl
 neB5:=by decide }
theorem PC(l:List aq.By):Go.Lib.toLowerA (aq.dD l)=aq.dD (l.map small):=by
 have h:∀ c:Fin 256,Go.Lib.lowerB (UInt8.ofBitVec (BitVec.ofNat 8 c.val))=UInt8.ofBitVec (small (BitVec.ofNat 8 c.val)):=by decide +kernel
 unfold Go.Lib.toLowerA aq.dD
 rw[List.map_map,List.map_map]
 refine List.map_congr_left fun c _=>?_
 simpa using h ⟨c.toNat,c.isLt⟩
theorem mc:aJ Tryz.prog 125:=⟨_,Tryz.func125,rfl,by kernel_rfl⟩
theorem n6(s:List Bt)(w:World)(hl:s.length<=140737488355328)(hs:∀ c∈s,c.toNat<128):Calls Tryz.prog 125 [Z s].toArray w fun e w'=>e=.returned (Z (s.map small))/\Ext w w':=
 (Any.strings_ToLower_ascii M7 Tl (bP s) w (by rw[cj];exact hl) (fun j b hb=>by
   rw[fI] at hb
   obtain⟨c,hc,rfl⟩:=List.mem_map.1 (List.mem_of_getElem? hb)
   exact hs c hc)).mono fun e w' ⟨h1,h2⟩=>⟨by rw[h1,fI,PC,zC],nV h2⟩
namespace aq
def kE(c:aq.By):List aq.By->List (List aq.By)
 | []=>[[]]
 | d::r=>if d=c then []::kE c r else match kE c r with
   | []=>[[d]]
   | x::L=>(d::x)::L
theorem Dw(c:aq.By):∀ s,kE c s≠[]
 | []=>by simp[kE]
 | d::r=>by
   unfold kE
   split
   · simp
   · split <;> simp
theorem Bu{c:aq.By}:∀ {s:List aq.By},fi c s=s.length->kE c s=[s]
 | [],_=>rfl
 | d::r,h=>by
   rw[jA] at h
   by_cases hd:d=c
   · rw[if_pos hd] at h;simp at h
   · rw[if_neg hd] at h
     rw[kE,if_neg hd,Bu (s:=r) Y616]
theorem Bv{c:aq.By}:∀ {s:List aq.By},fi c s<s.length->kE c s=s.take (fi c s)::kE c (s.drop (fi c s+1))
 | [],h=>by simp[fi] at h
 | d::r,h=>by
   by_cases hd:d=c
   · rw[jA,if_pos hd,kE,if_pos hd]
     rfl
   · rw[jA,if_neg hd] at h⊢
     rw[kE,if_neg hd,Bv (s:=r) Y616]
     rfl
theorem J7(c:aq.By)(s:List aq.By):Go.Lib.index (aq.dD s) (aq.dD [c])=kO c s:=by
 show Go.Lib.index (aq.dD s) [UInt8.ofBitVec c]=_
 rw[Go.Lib.index_one,Fv]
where
 Fv {c:aq.By}:∀ {l:List aq.By},Go.Lib.indexByte (aq.dD l) (UInt8.ofBitVec c)=kO c l
 | []=>rfl
 | d::r=>by
   show(if (UInt8.ofBitVec d==UInt8.ofBitVec c) then 0 else if Go.Lib.indexByte (aq.dD r) (UInt8.ofBitVec c) == -1 then -1 else Go.Lib.indexByte (aq.dD r) (UInt8.ofBitVec c)+1:Int)=_
   rw[Fv (c:=c) (l:=r)]
   unfold kO
   rw[jA]
   have hb:(UInt8.ofBitVec d==UInt8.ofBitVec c)=decide (d=c):=by
    by_cases h:d=c
    · subst h;simp
    · rw[decide_eq_false h]
      exact beq_eq_false_iff_ne.2 fun k=>h (congrArg UInt8.toBitVec k)
   rw[hb]
   by_cases hd:d=c
   · simp[hd]
   · simp only[hd,decide_false,Bool.false_eq_true,if_false,List.length_cons,Nat.add_lt_add_iff_right]
     by_cases h:fi c r<r.length
     · simp only[h,if_true]
       rw[if_neg Y633]
       omega
     · simp only[h,if_false]
       rfl
theorem rJ(c:aq.By):∀ s:List aq.By,(aq.dD s).count (UInt8.ofBitVec c)=s.count c
 | []=>rfl
 | d::r=>by
   show(UInt8.ofBitVec d::aq.dD r).count _=_
   rw[List.count_cons,List.count_cons,rJ c r]
   congr 1
   by_cases h:d=c
   · subst h;simp
   · have h2:¬ UInt8.ofBitVec d=UInt8.ofBitVec c:=fun k=>h (congrArg UInt8.toBitVec k)
     rw[if_neg (by simpa using h2),if_neg Y616]
theorem nj{c:aq.By}:∀ {s:List aq.By},(s.count c=0->fi c s=s.length)/\(s.count c≠0->fi c s<s.length/\s.count c=(s.drop (fi c s+1)).count c+1)
 | []=>by simp[fi]
 | d::r=>by
   obtain⟨h1,h2⟩:=nj (c:=c) (s:=r)
   rw[jA,List.count_cons]
   by_cases hd:d=c
   · subst hd
     simp
   · have hdb:(d==c)=false:=beq_eq_false_iff_ne.2 hd
     simp only[hdb,hd,if_false,Bool.false_eq_true,Nat.add_zero,List.length_cons,Nat.add_lt_add_iff_right,List.drop_succ_cons]
     exact⟨fun h=>by rw[h1 h],h2⟩
theorem xU(c:aq.By):∀ (k:Nat) (s:List aq.By),s.count c=k->Go.Lib.splitK (aq.dD [c]) 0 k (aq.dD s)=(kE c s).map aq.dD
 | 0,s,h=>by
   rw[Bu (nj.1 h)]
   rfl
 | k+1,s,h=>by
   obtain⟨h1,h2⟩:=(nj (c:=c) (s:=s)).2 Y609
   have hi:Go.Lib.index (aq.dD s) (aq.dD [c])=(fi c s:Nat):=by rw[J7,kO,if_pos h1]
   have hd:(aq.dD s).drop (fi c s+1)=aq.dD (s.drop (fi c s+1)):=by unfold aq.dD;rw[List.map_drop]
   have ht:(aq.dD s).take (fi c s)=aq.dD (s.take (fi c s)):=by unfold aq.dD;rw[List.map_take]
   show(if Go.Lib.index (aq.dD s) (aq.dD [c]) == -1 then [aq.dD s] else(aq.dD s).take ((Go.Lib.index (aq.dD s) (aq.dD [c])).toNat+0)::Go.Lib.splitK (aq.dD [c]) 0 k ((aq.dD s).drop ((Go.Lib.index (aq.dD s) (aq.dD [c])).toNat+(aq.dD [c]).length)))=_
   rw[hi,if_neg Y633,Int.toNat_natCast,Nat.add_zero,show(aq.dD [c]).length=1 from rfl,hd,ht,xU c k _ Y609,Bv h1]
   rfl
end aq
theorem Bw(c:Bt)(s:List Bt):(Go.Lib.splitB (bP [c]) 0 (s.count c) (bP s)).map Value.string=(kE c s).map Z:=by
 have h1:=Go.Lib.splitB_data (bP [c]) 0 (s.count c) (bP s)
 rw[fI,fI,xU c _ s rfl] at h1
 have h2:=congrArg (List.map fun l:List UInt8=>Value.string ⟨l.toArray⟩) h1
 rw[List.map_map,List.map_map] at h2
 exact h2
def qk:Ren:=⟨fun|221=>222|268=>247|138=>248|143=>249|195=>259|197=>218|218=>260|219=>217|260=>245|217=>127|225=>241|224=>215|267=>244|266=>184|314=>258|n=>n,
 fun|9=>9|3=>3|31=>96|4=>4|0=>0|105=>223|21=>21|5=>5|46=>211|119=>254|139=>257|138=>256|146=>242|51=>210|n=>n,
 fun|1=>2|3=>4|4=>5|n=>n⟩
theorem rK:Lays.n221 Tryz.prog qk:={
 mixed:=by kernel_rfl
 f138:=Tryz.func248.trans (congrArg some Y636)
 f143:=Tryz.func249.trans (congrArg some Y636)
 f195:=Tryz.func259.trans (congrArg some Y636)
 f197:=Tryz.func218.trans (congrArg some Y636)
 f217:=Tryz.func127.trans (congrArg some Y636)
 f218:=Tryz.func260.trans (congrArg some Y636)
 f219:=Tryz.func217.trans (congrArg some Y636)
 f221:=Tryz.func222.trans (congrArg some Y636)
 f224:=Tryz.func215.trans (congrArg some Y636)
 f225:=Tryz.func241.trans (congrArg some Y636)
 f260:=Tryz.func245.trans (congrArg some Y636)
 f266:=Tryz.func184.trans (congrArg some Y636)
 f267:=Tryz.func244.trans (congrArg some Y636)
 f268:=Tryz.func247.trans (congrArg some Y636)
 f314:=Tryz.func258.trans (congrArg some Y636)
 t0:=Tryz.underlying0
 a0:=Tryz.isAgg0
 z0:=Tryz.sizeOf0
 v0:=Tryz.zeroValue0
 t3:=Tryz.underlying3
 a3:=Tryz.isAgg3
 z3:=Tryz.sizeOf3
 v3:=Tryz.zeroValue3
 t4:=Tryz.underlying4
 a4:=Tryz.isAgg4
 z4:=Tryz.sizeOf4
 v4:=Tryz.zeroValue4
 t5:=Tryz.underlying5
 a5:=Tryz.isAgg5
 z5:=Tryz.sizeOf5
 v5:=Tryz.zeroValue5
 t9:=Tryz.underlying9
 a9:=Tryz.isAgg9
 z9:=Tryz.sizeOf9
 v9:=Tryz.zeroValue9
 t21:=Tryz.underlying21
 a21:=Tryz.isAgg21
 z21:=Tryz.sizeOf21
 v21:=Tryz.zeroValue21
 t31:=Tryz.underlying96
 a31:=Tryz.isAgg96
 z31:=Tryz.sizeOf96
 v31:=Tryz.zeroValue96
 t46:=Tryz.underlying211
 a46:=Tryz.isAgg211
 z46:=Tryz.sizeOf211
 v46:=Tryz.zeroValue211
 t51:=Tryz.underlying210
 a51:=Tryz.isAgg210
 z51:=Tryz.sizeOf210
 v51:=Tryz.zeroValue210
 t105:=Tryz.underlying223
 a105:=Tryz.isAgg223
 z105:=Tryz.sizeOf223
 v105:=Tryz.zeroValue223
 t119:=Tryz.underlying254
 a119:=Tryz.isAgg254
 z119:=Tryz.sizeOf254
 t138:=Tryz.underlying256
 a138:=Tryz.isAgg256
 z138:=Tryz.sizeOf256
 v138:=Tryz.zeroValue256
 t139:=Tryz.underlying257
 a139:=Tryz.isAgg257
 z139:=Tryz.sizeOf257
 v139:=Tryz.zeroValue257
 t146:=Tryz.underlying242
 a146:=Tryz.isAgg242
 z146:=Tryz.sizeOf242
 v146:=Tryz.zeroValue242
 g1:=by kernel_rfl
 g3:=by kernel_rfl
 g4:=by kernel_rfl }
theorem RQ:(Tryz.prog.info? (qk.t 9)).map (fun i=>(i.zero,i.size,i.bytes))=some (some (.string ByteArray.empty),1,16):=by kernel_rfl
theorem GZ:aJ Tryz.prog 222:=⟨_,Tryz.func222,rfl,by kernel_rfl⟩
theorem G0:aJ Tryz.prog 177:=⟨_,Tryz.func177,rfl,by kernel_rfl⟩
theorem J8(s:List Bt)(c:Bt)(w:World)(hl:s.length<4294967281):Calls Tryz.prog 222 [Z s,Z [c],N 0,I (-1)].toArray w fun e w'=>
  ∃ b,e=.returned (.slice (some ⟨b,0,none⟩) (kE c s).length (kE c s).length)/\aa w [] [⟨b,Row 9 ((kE c s).map Z),true⟩] w':=by
 have hcnt:Go.Lib.countB (bP s) (bP [c])=s.count c:=by
  show Go.Lib.count (aq.dD s) [UInt8.ofBitVec c]=_
  rw[Go.Lib.count_one,rJ]
 have hcle:s.count c<=s.length:=List.count_le_length
 have hlen:(Go.Lib.splitB (bP [c]) 0 (s.count c) (bP s)).length=s.count c+1:=Go.Lib.splitB_all (bP [c]) (by rw[cj];exact Nat.le_refl _) 0 _ (bP s) hcnt
 have hlen2:(kE c s).length=s.count c+1:=by
  have:=congrArg List.length (Bw c s)
  rw[List.length_map,List.length_map,hlen] at this
  exact this.symm
 have:=Any.strings_genSplit_core rK RQ (bP s) (bP [c]) 0 (-1) (s.count c+1) w (by rw[cj];exact hl) (by rw[cj];exact Nat.le_refl _) (Nat.zero_le _)
  (fun x cs hx=>(Any.strings_Index_one { rK with } x (UInt8.ofBitVec c) _).mono fun e w' ⟨h1,h2⟩=>⟨by
    rw[h1]
    show Ending.returned (Value.int .i64 (Go.Lib.indexByte x.data.toList (UInt8.ofBitVec c)))=Ending.returned (Value.int .i64 (Go.Lib.index x.data.toList [UInt8.ofBitVec c]))
    rw[Go.Lib.index_one],h2⟩)
  ((Any.strings_Count_one { rK with } (bP s) (UInt8.ofBitVec c) w).mono fun e w' ⟨h1,h2⟩=>⟨by
    rw[h1]
    show Ending.returned (Value.int .i64 (((aq.dD s).count (UInt8.ofBitVec c):Nat):Int))=Ending.returned (Value.int .i64 ((Go.Lib.countB (bP s) (bP [c]):Nat):Int))
    rw[hcnt,rJ],h2⟩) Y610 Y610 (by
     rw[if_pos Y610,hcnt,cj]
     omega)
 refine this.mono fun e w' ⟨h1,h2⟩=>⟨w.heap.size,?_,?_⟩
 · rw[h1,Nat.add_sub_cancel,hlen,hlen2]
 · rw[h2,Nat.add_sub_cancel]
   have e1:Go.Lib.cellsOf (Go.Lib.splitB (bP [c]) 0 (s.count c) (bP s)) (s.count c+1)=((kE c s).map Z).toArray:=by
    rw[<- hlen,Go.Lib.cellsOf_full,Bw]
   rw[e1]
   exact(aa.start w []).push (.cells ((kE c s).map Z).toArray 9 (0,0)) rfl rfl rfl rfl rfl
theorem J9(s:List Bt)(c:Bt)(w:World)(hl:s.length<4294967281):Calls Tryz.prog 177 [Z s,Z [c]].toArray w fun e w'=>
  ∃ b,e=.returned (.slice (some ⟨b,0,none⟩) (kE c s).length (kE c s).length)/\aa w [] [⟨b,Row 9 ((kE c s).map Z),true⟩] w':=by
 refine enter (n:=8) Tryz.func177 rfl rfl rfl (aa.start w []) ?_
 refine Y24 ?_
 refine JL.bD (ι:=Nat) (vs:=[Z s,Z [c],N 0,I (-1)]) (fun b=>.slice (some ⟨b,0,none⟩) (kE c s).length (kE c s).length) (fun b=>[⟨b,Row 9 ((kE c s).map Z),true⟩]) GZ rfl rfl (fun b e he=>by rw[List.mem_singleton.1 he]) (fun w' _=>J8 s c w' hl) fun b=>?_
 refine Y39 ?_
 exact JC.ret (JE.aK rfl (RV.tmp rfl) fun w' hw=>⟨b,rfl,hw⟩)
theorem Bx:aJ Tryz.prog 188:=⟨_,Tryz.func188,rfl,by kernel_rfl⟩
theorem Bz:aJ Tryz.prog 200:=⟨_,Tryz.func200,rfl,by kernel_rfl⟩
theorem ec:aJ Tryz.prog 148:=⟨_,Tryz.func148,rfl,by kernel_rfl⟩
theorem BA:aJ Tryz.prog 221:=⟨_,Tryz.func221,rfl,by kernel_rfl⟩
theorem BC:aJ Tryz.prog 175:=⟨_,Tryz.func175,rfl,by kernel_rfl⟩
theorem BD:aJ Tryz.prog 122:=⟨_,Tryz.func122,rfl,by kernel_rfl⟩
theorem Fc(s:List aq.By)(c:aq.By):decide (s.head?=some c)=(decide ((1:Int)<=(s.length:Int))&&decide (s.take 1=[c])):=by
 cases s with
 | nil=>simp
 | cons d r=>
   simp
   intro _
   omega
theorem M8(s:List aq.By)(c:aq.By):decide (s.getLast?=some c)=(decide ((1:Int)<=(s.length:Int))&&decide (s.drop (s.length-1)=[c])):=by
 rcases List.eq_nil_or_concat s with rfl|⟨r,d,rfl⟩
 · simp
 · simp
   intro _
   omega
theorem M9(s:List Bt)(c:Bt)(w:World):Calls Tryz.prog 188 [Z s,Z [c]].toArray w fun e w'=>e=.returned (.bool (decide (s.head?=some c)))/\Ext w w':=by
 refine enter (n:=18) Tryz.func188 rfl rfl rfl (aa.start w []) ?_
 rw[Fc]
 cases h1:decide ((1:Int)<=(s.length:Int))
 · repeat(first|refine JL.q (by exact Y344) rfl ?_|refine JL.aM rfl rfl rfl rfl ?_|refine Y40 ?_)
   exact Y244
 · have hle:1<=s.length:=by have:=of_decide_eq_true h1;omega
   cases h2:decide (s.take 1=[c])
   all_goals (repeat(first|refine JL.q (by first|exact Y344|(apply OQ.gu (j:=1);exact Tryz.underlying9;rfl;rfl;exact hle)|exact Y345) rfl ?_|refine JL.bG rfl rfl ?_|refine Y41 ?_))
   all_goals exact JC.ret (JE.aK rfl (RV.tmp rfl) fun w' hw=>⟨rfl,hw.aH⟩)
def Q6(c:Bt)(s:List Bt):Value:=if s.head?=some c then .tuple #[Z s.tail,.bool true] else .tuple #[Z s,.bool false]
theorem Na(s:List Bt)(c:Bt)(w:World):Calls Tryz.prog 200 [Z s,Z [c]].toArray w fun e w'=>e=.returned (Q6 c s)/\Ext w w':=by
 refine enter (n:=15) Tryz.func200 rfl rfl rfl (aa.start w []) ?_
 have hq:=fun w'=>M9 s c w'
 unfold Q6
 by_cases h:s.head?=some c
 · simp only[h,decide_true,if_true] at hq⊢
   have hle:1<=s.length:=by
    cases s with
    | nil=>cases h
    | cons d r=>simp
   repeat(first|refine JL.q (by exact Y346) rfl ?_|refine Y42 ?_)
   refine Y245 ?_
   repeat(first|refine JL.q (by(apply OQ.eV (i:=1);exact Tryz.underlying9;rfl;rfl;exact hle)) rfl ?_|refine Y43 ?_)
   refine Y247 ?_
   skip
   refine JE.aV rfl (RV.tmp rfl) (RV.tmp rfl) fun w' hw=>⟨?_,hw.aH⟩
   rw[List.drop_one]
 · simp only[h,decide_false,if_false] at hq⊢
   repeat(first|refine JL.q (by exact Y346) rfl ?_|refine Y42 ?_)
   refine Y246 ?_
   refine Y24 ?_
   refine Y247 ?_
   refine Y250 ?_
   exact Y259
theorem tQ(s:List Bt)(c:Bt)(w:World):Calls Tryz.prog 148 [Z s,Z [c]].toArray w fun e w'=>e=.returned (Q6 c s)/\Ext w w':=by
 refine enter (n:=11) Tryz.func148 rfl rfl rfl (aa.start w []) ?_
 have hq:=fun w'=>Na s c w'
 unfold Q6 at hq⊢
 by_cases h:s.head?=some c
 · simp only[h,if_true] at hq⊢
   repeat(first|refine JL.q (by exact Y347) rfl ?_|refine Y6 ?_)
   exact Y261
 · simp only[h,if_false] at hq⊢
   repeat(first|refine JL.q (by exact Y347) rfl ?_|refine Y6 ?_)
   exact Y261
theorem Nb(s:List Bt)(c:Bt)(w:World)(hl:s.length<9223372036854775808):Calls Tryz.prog 221 [Z s,Z [c]].toArray w fun e w'=>e=.returned (.bool (decide (s.getLast?=some c)))/\Ext w w':=by
 refine enter (n:=21) Tryz.func221 rfl rfl rfl (aa.start w []) ?_
 rw[M8]
 cases h1:decide ((1:Int)<=(s.length:Int))
 · repeat(first|refine JL.q (by exact Y344) rfl ?_|refine JL.aM rfl rfl rfl rfl ?_|refine Y40 ?_)
   exact Y244
 · have hle:1<=s.length:=by have:=of_decide_eq_true h1;omega
   have hsub:s.length-1<=s.length:=Nat.sub_le _ _
   cases h2:decide (s.drop (s.length-1)=[c])
   all_goals (repeat(first|refine JL.q (by first|exact Y344|(apply OQ.gh (b:=1);rfl;rfl;exact hle;exact hl)|(apply OQ.eV (i:=s.length-1);exact Tryz.underlying9;rfl;rfl;exact hsub)|exact Y345) rfl ?_|refine JL.bG rfl rfl ?_|refine Y41 ?_))
   all_goals exact JC.ret (JE.aK rfl (RV.tmp rfl) fun w' hw=>⟨rfl,hw.aH⟩)
def RR(c:Bt)(s:List Bt):Value:=if s.getLast?=some c then .tuple #[Z s.dropLast,.bool true] else .tuple #[Z s,.bool false]
theorem Nc(s:List Bt)(c:Bt)(w:World)(hl:s.length<9223372036854775808):Calls Tryz.prog 175 [Z s,Z [c]].toArray w fun e w'=>e=.returned (RR c s)/\Ext w w':=by
 refine enter (n:=18) Tryz.func175 rfl rfl rfl (aa.start w []) ?_
 have hq:=fun w'=>Nb s c w' hl
 unfold RR
 by_cases h:s.getLast?=some c
 · simp only[h,decide_true,if_true] at hq⊢
   have hle:1<=s.length:=by
    cases s with
    | nil=>cases h
    | cons d r=>simp
   have hsub:s.length-1<=s.length:=Nat.sub_le _ _
   repeat(first|refine JL.q (by exact Y348) rfl ?_|refine Y42 ?_)
   refine Y245 ?_
   repeat(first|refine JL.q (by first|(apply OQ.gh (b:=1);rfl;rfl;exact hle;exact hl)|(apply OQ.gu (j:=s.length-1);exact Tryz.underlying9;rfl;rfl;exact hsub)) rfl ?_|refine Y43 ?_)
   refine Y247 ?_
   skip
   refine JE.aV rfl (RV.tmp rfl) (RV.tmp rfl) fun w' hw=>⟨?_,hw.aH⟩
   rw[List.dropLast_eq_take]
 · simp only[h,decide_false,if_false] at hq⊢
   repeat(first|refine JL.q (by exact Y348) rfl ?_|refine Y42 ?_)
   refine Y246 ?_
   refine Y24 ?_
   refine Y247 ?_
   refine Y250 ?_
   exact Y259
theorem Nd(s:List Bt)(c:Bt)(w:World)(hl:s.length<9223372036854775808):Calls Tryz.prog 122 [Z s,Z [c]].toArray w fun e w'=>e=.returned (RR c s)/\Ext w w':=by
 refine enter (n:=11) Tryz.func122 rfl rfl rfl (aa.start w []) ?_
 have hq:=fun w'=>Nc s c w' hl
 unfold RR at hq⊢
 by_cases h:s.getLast?=some c
 · simp only[h,if_true] at hq⊢
   repeat(first|refine JL.q (by exact Y349) rfl ?_|refine Y6 ?_)
   exact Y261
 · simp only[h,if_false] at hq⊢
   repeat(first|refine JL.q (by exact Y349) rfl ?_|refine Y6 ?_)
   exact Y261
theorem Dx:aJ Tryz.prog 176:=⟨_,Tryz.func176,rfl,by kernel_rfl⟩
theorem vc:aJ Tryz.prog 123:=⟨_,Tryz.func123,rfl,by kernel_rfl⟩
theorem G1(s:List Bt)(c:Bt)(w:World)(hl:s.length<9223372036854775808):Calls Tryz.prog 176 [Z s,U8 c].toArray w fun e w'=>e=.returned (I (GN c s))/\Ext w w':=by
 refine enter (n:=19) Tryz.func176 rfl rfl rfl (aa.start w []) ?_
 repeat(first|refine JL.q (by first|exact Y322|(apply OQ.JH (a:=(s.length:Int)) (b:=1);rfl;rfl;exact Y609;exact Y609)|exact Y323|exact Y324) rfl ?_|refine JC.seq ?_|refine JC.region ?_|refine JC.block ?_|refine JL.nil ?_|refine JE.next ?_)
 refine JC.loop (fun i:Int=>[(0,Z s),(1,U8 c),(5,I i)]) (fun _=>[]) (fun i=>(i+1).toNat) (fun i=>-1<=i/\i<s.length/\(la c s:Int)=(s.length:Int)-1-i+la c (s.take (i+1).toNat)) ((s.length:Int)-1) ⟨by omega,by omega,by rw[show((s.length:Int)-1+1).toNat=s.length by omega,List.take_length];omega⟩ Y640 (aj.refl _) ?_
 rintro i ⟨h1,h2,h3⟩
 cases g:decide ((0:Int)<=i)
 · have hi:i=-1:=by have:=of_decide_eq_false g;omega
   subst hi
   have e:GN c s=-1:=by
    unfold GN
    have:la c (s.take ((-1:Int)+1).toNat)=0:=rfl
    rw[this] at h3
    omega
   rw[e]
   refine Y44 ?_
   refine Y245 ?_
   refine Y11 ?_
   refine Y247 ?_
   exact Y248
 · obtain⟨k,rfl⟩:∃ k:Nat,i=k:=⟨i.toNat,by have:=of_decide_eq_true g;omega⟩
   have hk:k<s.length:=by omega
   have ht:s.take ((k:Int)+1).toNat=s.take k++[s.getD k 0]:=by
    rw[show((k:Int)+1).toNat=k+1 by omega]
    exact eD s hk
   rw[ht,MX] at h3
   have i0:∀ {n:Nat} {E:Env} {C:World->Prop} {dst:Option Tmp} {ty:TypeId} {pos:String} {aft:Array Edge} {g:Option (Nat × Bool)} {x y:Operand},ev E x=some (Z s)->ev E y=some (I k)->OQ Tryz.prog n E C ⟨dst,.index 9 x y,ty,pos,aft,g⟩ (U8 (s.getD k 0)):=fun hx hy=>OQ.ru Tryz.underlying9 hx hy hk
   generalize s.getD k 0=d at h3 i0
   cases g2:decide (d=c)
   · rw[if_neg (of_decide_eq_false g2)] at h3
     refine Y44 ?_
     refine Y246 ?_
     repeat(first|refine JL.q (by first|(apply i0;rfl;rfl)|exact Y350) rfl ?_|refine Y9 ?_)
     refine Y245 ?_
     repeat(first|refine JL.q (by(apply OQ.JH (a:=(k:Int)) (b:=1);rfl;rfl;exact Y609;exact Y609)) rfl ?_|refine Y45 ?_)
     refine JE.again (i:=(k:Int)) ((k:Int)-1) ⟨by omega,by omega,?_⟩ Y609 Y640 (aj.refl _)
     rw[show((k:Int)-1+1).toNat=k by omega]
     omega
   · rw[if_pos (of_decide_eq_true g2)] at h3
     have e:GN c s=k:=by
      unfold GN
      omega
     rw[e]
     refine Y44 ?_
     refine Y246 ?_
     repeat(first|refine JL.q (by first|(apply i0;rfl;rfl)|exact Y350) rfl ?_|refine Y9 ?_)
     refine Y246 ?_
     refine Y24 ?_
     refine Y247 ?_
     refine Y2 ?_
     exact Y248
theorem G3(s:List Bt)(c:Bt)(w:World)(hl:s.length<9223372036854775808):Calls Tryz.prog 123 [Z s,U8 c].toArray w fun e w'=>e=.returned (I (GN c s))/\Ext w w':=by
 refine enter (n:=8) Tryz.func123 rfl rfl rfl (aa.start w []) ?_
 repeat(first|refine JL.q (by(apply OQ.ai (vs:=[Z s,U8 c]);exact Dx;rfl;exact(fun w' _=>G1 s c w' hl))) rfl ?_|refine Y0 ?_)
 exact Y244
end
section
open Sl aq Tok
theorem ve:aJ Tryz.prog 63:=⟨_,Tryz.func63,rfl,by kernel_rfl⟩
theorem ql:aJ Tryz.prog 64:=⟨_,Tryz.func64,rfl,by kernel_rfl⟩
theorem Dy:aJ Tryz.prog 91:=⟨_,Tryz.func91,rfl,by kernel_rfl⟩
theorem Fw:∀ c:aq.By,bl c=(decide ((c.toNat:Int)=32)||decide ((c.toNat:Int)=9)):=by
 have h:∀ c:Fin 256,bl (BitVec.ofNat 8 c.val)=(decide (((BitVec.ofNat 8 c.val).toNat:Int)=32)||decide (((BitVec.ofNat 8 c.val).toNat:Int)=9)):=by decide +kernel
 intro c
 simpa using h ⟨c.toNat,c.isLt⟩
theorem vg:∀ {v:List aq.By},0<v.length->bl (v.getD 0 0)=true->aO (v.drop 1)=aO v
 | [],h,_=>by simp at h
 | c::r,_,h=>by
   have h':bl c=true:=h
   show aO r=List.dropWhile bl (c::r)
   rw[List.dropWhile_cons,if_pos h'];rfl
theorem oR:∀ {v:List aq.By},(0<v.length->bl (v.getD 0 0)=false)->aO v=v
 | [],_=>rfl
 | c::r,h=>by
   have h':bl c=false:=h Y614
   show List.dropWhile bl (c::r)=_
   rw[List.dropWhile_cons,if_neg (by rw[h'];decide)]
theorem rev_last{v:List aq.By}(h:0<v.length):v.reverse=v.getD (v.length-1) 0::(v.take (v.length-1)).reverse:=by
 have h1:=eD v (i:=v.length-1) Y609
 rw[show v.length-1+1=v.length by omega,List.take_length] at h1
 conv=>lhs;rw[h1]
 simp
theorem Ka{v:List aq.By}(h:0<v.length)(hb:bl (v.getD (v.length-1) 0)=true):aO (v.take (v.length-1)).reverse=aO v.reverse:=by
 rw[rev_last h]
 exact vg (v:=_::_) Y614 hb
theorem vh{v:List aq.By}(h:0<v.length->bl (v.getD (v.length-1) 0)=false):aO v.reverse=v.reverse:=
 oR fun h0=>by
  rw[List.length_reverse] at h0
  rw[rev_last h0]
  exact h h0
theorem me(s:List aq.By):(trim s).length<=s.length:=by
 have h:∀ l:List aq.By,(aO l).length<=l.length:=fun l=>(List.dropWhile_sublist _).length_le
 have h1:=h s
 have h2:=h (aO s).reverse
 simp only[trim,List.length_reverse] at h2⊢
 omega
theorem xV(s:List aq.By)(w:World)(hl:s.length<9223372036854775808):Calls Tryz.prog 63 [Z s].toArray w fun e w'=>e=.returned (Z (trim s))/\Ext w w':=by
 refine enter (n:=43) Tryz.func63 rfl rfl rfl (aa.start w []) ?_
 refine Y7 ?_
 refine JC.p9 (ι:=Unit) (fun _=>[(0,Z (aO s))]) (fun _=>[]) (fun _=>True) ?_ ?_
 · refine JC.loop (fun v:List aq.By=>[(0,Z v)]) (fun _=>[]) (fun v=>v.length) (fun v=>v.length<=s.length/\aO v=aO s) s ⟨Nat.le_refl _,rfl⟩ Y640 (aj.refl _) ?_
   rintro v ⟨hv,ht⟩
   cases h0:decide ((0:Int)<(v.length:Int))
   case true=>
    have hp:0<v.length:=by have:=of_decide_eq_true h0;omega
    have hidx:=fun {n:Nat} {E:Env} {C:World->Prop} {dst:Option Tmp} {ty:TypeId} {pos:String} {aft:Array Edge} {g:Option (Nat × Bool)} {x y:Operand}=>dI hp (n:=n) (E:=E) (C:=C) (dst:=dst) (ty:=ty) (pos:=pos) (aft:=aft) (g:=g) (x:=x) (y:=y)
    have hgo:=vg hp
    have hst:=oR (v:=v)
    have hb:=Fw (v.getD 0 0)
    generalize v.getD 0 0=c at hidx hgo hst hb
    cases h1:decide ((c.toNat:Int)=32) <;> cases h2:decide ((c.toNat:Int)=9)
    all_goals (
     rw[h1,h2] at hb
     (repeat(first|refine JL.q (by first|exact Y322|exact Y351|(apply hidx;rfl;rfl)|exact Y352|exact Y353|exact Y330|exact Y331|exact Y323) rfl ?_|refine JC.seq ?_|refine JC.region ?_|refine JL.nil ?_|refine JE.next ?_|refine JL.bG rfl rfl ?_|refine JL.aM rfl rfl rfl rfl ?_))
     refine JC.cond rfl (fun h=>?_) (fun h=>?_)
     all_goals first|(exfalso;revert h;decide)|skip
     all_goals clear h)
    case false.false=>
     rw[<- ht,hst fun _=>hb]
     (refine Y46 ?_)
     exact Y262
    all_goals (
     (repeat(first|refine JL.q (by(apply OQ.eV (i:=1);exact Tryz.underlying9;rfl;rfl;exact Y609)) rfl ?_|refine Y47 ?_))
     refine JE.again (i:=v) (v.drop 1) ⟨by rw[List.length_drop];omega,by rw[hgo hb,ht]⟩ Y632 Y640 (aj.refl _))
   case false=>
    have hn:¬ 0<v.length:=by have:=of_decide_eq_false h0;omega
    rw[<- ht,oR fun h=>absurd h hn]
    repeat(first|refine JL.q Y653 rfl ?_|refine JL.aM rfl rfl rfl rfl ?_|refine JL.ic rfl rfl rfl rfl ?_|refine Y48 ?_)
    refine JC.cond rfl (fun h=>by cases h) (fun h=>?_)
    refine Y46 ?_
    exact Y262
 rintro⟨⟩ _
 have hs1:(aO s).length<=s.length:=(List.dropWhile_sublist _).length_le
 rw[show trim s=(aO (aO s).reverse).reverse from rfl]
 generalize aO s=u at hs1⊢
 refine Y49 ?_
 refine JC.p9 (ι:=Unit) (fun _=>[(0,Z (aO u.reverse).reverse)]) (fun _=>[]) (fun _=>True) ?_ ?_
 · refine JC.loop (fun v:List aq.By=>[(0,Z v)]) (fun _=>[]) (fun v=>v.length) (fun v=>v.length<=s.length/\aO v.reverse=aO u.reverse) u ⟨hs1,rfl⟩ Y640 (aj.refl _) ?_
   rintro v ⟨hv,ht⟩
   cases h0:decide ((0:Int)<(v.length:Int))
   case true=>
    have hp:0<v.length:=by have:=of_decide_eq_true h0;omega
    have hidx:=fun {n:Nat} {E:Env} {C:World->Prop} {dst:Option Tmp} {ty:TypeId} {pos:String} {aft:Array Edge} {g:Option (Nat × Bool)} {x y:Operand}=>dI (s:=v) (i:=v.length-1) Y609 (n:=n) (E:=E) (C:=C) (dst:=dst) (ty:=ty) (pos:=pos) (aft:=aft) (g:=g) (x:=x) (y:=y)
    have hgo:=Ka hp
    have hst:=vh (v:=v)
    have hb:=Fw (v.getD (v.length-1) 0)
    generalize v.getD (v.length-1) 0=c at hidx hgo hst hb
    cases h1:decide ((c.toNat:Int)=32) <;> cases h2:decide ((c.toNat:Int)=9)
    all_goals (
     rw[h1,h2] at hb
     (repeat(first|refine JL.q (by first|exact Y322|exact Y351|(apply hidx;rfl;rfl)|exact Y352|exact Y353|exact Y330|exact Y331|exact Y323|exact Y338) rfl ?_|refine JC.seq ?_|refine JC.region ?_|refine JL.nil ?_|refine JE.next ?_|refine JL.bG rfl rfl ?_|refine JL.aM rfl rfl rfl rfl ?_))
     refine JC.cond rfl (fun h=>?_) (fun h=>?_)
     all_goals first|(exfalso;revert h;decide)|skip
     all_goals clear h)
    case false.false=>
     rw[<- ht,hst fun _=>hb,List.reverse_reverse]
     (refine Y46 ?_)
     exact Y262
    all_goals (
     (repeat(first|refine JL.q (by first|exact Y322|(apply OQ.gu (j:=v.length-1);exact Tryz.underlying9;rfl;rfl;exact Y609)|exact Y323|exact Y324|exact Y338) rfl ?_|refine JC.region ?_|refine JC.block ?_|refine JC.skip ?_|refine JL.nil ?_|refine JE.next ?_|refine JE.ah ?_))
     refine JE.again (i:=v) (v.take (v.length-1)) ⟨by rw[List.length_take];omega,by rw[hgo hb,ht]⟩ Y625 Y640 (aj.refl _))
   case false=>
    have hn:¬ 0<v.length:=by have:=of_decide_eq_false h0;omega
    rw[<- ht,vh fun h=>absurd h hn,List.reverse_reverse]
    repeat(first|refine JL.q Y653 rfl ?_|refine JL.aM rfl rfl rfl rfl ?_|refine JL.ic rfl rfl rfl rfl ?_|refine Y48 ?_)
    refine JC.cond rfl (fun h=>by cases h) (fun h=>?_)
    refine Y46 ?_
    exact Y262
 rintro⟨⟩ _
 refine Y24 ?_
 refine Y247 ?_
 skip
 exact Y248
theorem RT(c:aq.By):decide ((c.toNat:Int)=46)=decide (c=46):=by
 have h:=rE 46 c
 rw[show(((46:aq.By).toNat:Nat):Int)=46 from rfl] at h
 rw[h];rfl
theorem lG{s:List aq.By}{i:Nat}(h:i<s.length):s.drop i=s.getD i 0::s.drop (i+1):=by
 rw[List.drop_eq_getElem_cons h,List.getD_eq_getElem?_getD,List.getElem?_eq_getElem h];rfl
theorem sI(s:List aq.By)(w:World)(hl:s.length<9223372036854775808):Calls Tryz.prog 64 [Z s].toArray w fun e w'=>e=.returned (.bool (gM s))/\Ext w w':=by
 refine enter (n:=37) Tryz.func64 rfl rfl rfl (aa.start w []) ?_
 refine Y7 ?_
 refine JC.loop (fun q:Nat × aq.By=>[(0,Z s),(3,U8 q.2),(4,N q.1)]) (fun _=>[]) (fun q=>s.length-q.1) (fun q=>q.1<=s.length/\gM s=qU (s.drop q.1) q.2) (0,46) ⟨Nat.zero_le _,rfl⟩ Y640 (aj.refl _) ?_
 rintro⟨i,l⟩ ⟨hi,ha⟩
 simp only at hi ha
 dsimp only
 have hl4:=RT l
 refine Y8 ?_
 refine JC.cond rfl (fun h=>?_) (fun h=>?_)
 · have hi':i<s.length:=of_decide_eq_true h
   clear h hi
   rw[lG hi'] at ha
   have hidx:=fun {n:Nat} {E:Env} {C:World->Prop} {dst:Option Tmp} {ty:TypeId} {pos:String} {aft:Array Edge} {g:Option (Nat × Bool)} {x y:Operand}=>dI hi' (n:=n) (E:=E) (C:=C) (dst:=dst) (ty:=ty) (pos:=pos) (aft:=aft) (g:=g) (x:=x) (y:=y)
   have cP:=fun w'=>oP (s.getD i 0) w'
   generalize s.getD i 0=c at hidx cP ha
   have hc4:=RT c
   unfold qU at ha
   generalize aW c=x at cP ha
   cases h1:decide ((c.toNat:Int)=46) <;> cases h2:decide ((l.toNat:Int)=46) <;> cases h3:x
   all_goals (
    subst h3
    rw[h1] at hc4
    rw[h2] at hl4
    have hc:=hc4.symm
    have hl:=hl4.symm
    simp only[decide_eq_true_eq,decide_eq_false_iff_not] at hc hl
    simp only[hc,hl,true_and,and_true,false_and,and_false,or_false,false_or,not_true,not_false_eq_true,if_true,if_false,reduceCtorEq] at ha
    (repeat(first|refine JL.q (by first|(apply hidx;rfl;rfl)|(apply OQ.ep (b:=46);rfl;rfl;exact h1)|(apply OQ.ep (b:=46);rfl;rfl;exact h2)|(apply OQ.fh (b:=46);rfl;rfl;exact h1)|exact Y332|exact Y329|exact Y330|exact Y331|exact Y323) rfl ?_|refine JC.seq ?_|refine JC.region ?_|refine JC.block ?_|refine JC.skip ?_|refine JL.nil ?_|refine JE.next ?_|refine JL.bG rfl rfl ?_|refine JL.aM rfl rfl rfl rfl ?_|refine JL.ic rfl rfl rfl rfl ?_))
    refine JC.cond rfl (fun h=>?_) (fun h=>?_)
    all_goals first|(exfalso;revert h;decide)|skip
    all_goals clear h)
   all_goals first
    | (rw[ha]
       (refine Y5 ?_)
       refine Y247 ?_
       (refine Y2 ?_)
       exact JE.aK rfl (RV.tmp rfl) fun w' hw=>⟨rfl,hw.aH⟩)
    | ((repeat(first|refine JL.q (by first|(apply hidx;rfl;rfl)|exact Y323|exact Y324|exact Y337) rfl ?_|refine JC.region ?_|refine JC.skip ?_|refine JL.nil ?_|refine JE.next ?_|refine JE.ah ?_))
       exact JE.again (i:=(i,l)) (i+1,c) ⟨hi',by show gM s=qU (s.drop (i+1)) c;first|exact ha|(rw[hc];exact ha)⟩ Y643 Y640 (aj.refl _))
 · have hi':¬ i<s.length:=of_decide_eq_false h
   obtain rfl:i=s.length:=by omega
   clear h hi hi'
   rw[List.drop_length] at ha
   have he:(l==46)=decide ((l.toNat:Int)=46):=(rE 46 l).symm
   rw[ha,qU,he]
   cases h1:decide ((l.toNat:Int)=46)
   all_goals (repeat(first|refine JL.q (by(apply OQ.fh (b:=46);rfl;rfl;exact h1)) rfl ?_|refine Y19 ?_))
   all_goals refine JC.ret ?_
   all_goals exact JE.aK rfl (RV.tmp rfl) fun w' hw=>⟨rfl,hw.aH⟩
theorem Dz(c:aq.By):∀ (s:List aq.By) {i:Nat},i<s.length->(s.take i).all (fun d=>!(d==c))=true->(s.getD i 0==c)=true->fst c s=i
 | [],i,h,_,_=>by simp at h
 | d::r,0,_,_,h=>by
   have h':(d==c)=true:=h
   unfold fst
   rw[List.takeWhile_cons,if_neg (by rw[h'];decide)];rfl
 | d::r,i+1,hi,ha,h=>by
   rw[List.take_succ_cons,List.all_cons,Bool.and_eq_true] at ha
   have:=Dz c r (i:=i) (by simpa using hi) ha.2 h
   unfold fst at this⊢
   rw[List.takeWhile_cons,if_pos ha.1,List.length_cons,this]
theorem zS(c:aq.By):∀ s:List aq.By,s.all (fun d=>!(d==c))=true->fst c s=s.length
 | [],_=>rfl
 | d::r,h=>by
   rw[List.all_cons,Bool.and_eq_true] at h
   have:=zS c r h.2
   unfold fst at this⊢
   rw[List.takeWhile_cons,if_pos h.1,List.length_cons,this,List.length_cons]
theorem Kb(c:aq.By)(s:List aq.By):fst c s<=s.length:=(List.takeWhile_sublist _).length_le
theorem eqc(c:aq.By)(k:aq.By):(c==k)=decide ((c.toNat:Int)=(k.toNat:Int)):=(rE k c).symm
theorem G4(s:List aq.By)(w:World)(hl:s.length<9223372036854775807):Calls Tryz.prog 91 [Z s].toArray w fun e w'=>e=.returned (.bool (gy s))/\Ext w w':=by
 refine enter (n:=33) Tryz.func91 rfl rfl rfl (aa.start w []) ?_
 refine Y7 ?_
 refine JC.p9 (ι:=Unit) (fun _=>[(0,Z s),(3,N (fst 47 s))]) (fun _=>[]) (fun _=>True) ?_ ?_
 · refine JC.loop (fun i:Nat=>[(0,Z s),(3,N i)]) (fun _=>[]) (fun i=>s.length-i) (fun i=>i<=s.length/\(s.take i).all (fun d=>!(d==47))=true) 0 ⟨Nat.zero_le _,rfl⟩ Y640 (aj.refl _) ?_
   rintro i ⟨hi,ha⟩
   cases h0:decide ((i:Int)<(s.length:Int))
   · obtain rfl:i=s.length:=by have:=of_decide_eq_false h0;omega
     rw[List.take_length] at ha
     rw[zS 47 s ha]
     repeat(first|refine JL.q (by exact Y354) rfl ?_|refine JL.aM rfl rfl rfl rfl ?_|refine Y48 ?_)
     refine JC.cond rfl (fun h=>by cases h) (fun h=>?_)
     refine Y46 ?_
     exact Y262
   · have hi':i<s.length:=by have:=of_decide_eq_true h0;omega
     have hf:=Dz 47 s hi' ha
     have hx:=eK (fun d=>!(d==(47:aq.By))) s 0 hi'
     rw[ha,Bool.true_and] at hx
     have hidx:=fun {n:Nat} {E:Env} {C:World->Prop} {dst:Option Tmp} {ty:TypeId} {pos:String} {aft:Array Edge} {g:Option (Nat × Bool)} {x y:Operand}=>dI hi' (n:=n) (E:=E) (C:=C) (dst:=dst) (ty:=ty) (pos:=pos) (aft:=aft) (g:=g) (x:=x) (y:=y)
     generalize s.getD i 0=c at hidx hf hx
     rw[eqc] at hf
     rw[eqc] at hx
     cases h1:decide ((c.toNat:Int)=47)
     · repeat(first|refine JL.q Y654 rfl ?_|refine JL.bG rfl rfl ?_|refine Y50 ?_)
       refine JC.cond rfl (fun h=>?_) (fun h=>by cases h)
       refine Y51 ?_
       exact Y263
     · rw[hf h1]
       repeat(first|refine JL.q Y654 rfl ?_|refine JL.bG rfl rfl ?_|refine Y50 ?_)
       refine JC.cond rfl (fun h=>by cases h) (fun h=>?_)
       refine Y46 ?_
       exact Y262
 rintro⟨⟩ _
 have hle:=Kb 47 s
 unfold gy
 generalize fst 47 s=k at hle⊢
 rw[show decide (k<s.length)=decide ((k:Int)<(s.length:Int)) from decide_eq_decide.2 Y609]
 have c1:=fun w'=>rF (s.take k) w' Y625
 have c2:=fun w'=>rF (s.drop (k+1)) w' Y632
 cases h0:decide ((k:Int)<(s.length:Int))
 · repeat(first|refine JL.q (by exact Y354) rfl ?_|refine JL.aM rfl rfl rfl rfl ?_|refine Y40 ?_)
   refine Y247 ?_
   exact Y248
 · have hk:k<s.length:=by have:=of_decide_eq_true h0;omega
   cases h1:dh (s.take k) <;> cases h2:dh (s.drop (k+1))
   all_goals (repeat(first|refine JL.q (by first|exact Y322|exact Y354|exact Y321|(apply OQ.eV (i:=k+1);exact Tryz.underlying9;rfl;rfl;exact hk)|(apply OQ.dB (vs:=[Z (s.take k)]);exact oO;rfl;exact c1;exact h1)|(apply OQ.dB (vs:=[Z (s.drop (k+1))]);exact oO;rfl;exact c2;exact h2)|exact Y330|exact Y331|exact Y323|exact Y324|exact Y337) rfl ?_|refine JC.seq ?_|refine JC.region ?_|refine JL.nil ?_|refine JE.next ?_|refine JL.bG rfl rfl ?_|refine JL.aM rfl rfl rfl rfl ?_))
   all_goals refine JC.ret ?_
   all_goals exact JE.aK rfl (RV.tmp rfl) fun w' hw=>⟨rfl,hw.aH⟩
theorem ez:aJ Tryz.prog 124:=⟨_,Tryz.func124,rfl,by kernel_rfl⟩
theorem oS:aJ Tryz.prog 79:=⟨_,Tryz.func79,rfl,by kernel_rfl⟩
theorem OL:gX Tryz.prog 9=some 1:=by kernel_rfl
theorem Fx:∀ (s:List aq.By) (l:aq.By),qU s l=((!(l==46)||!((kE 46 s).headD []).isEmpty)&&(((kE 46 s).headD []).all aW&&(kE 46 s).tail.all dh))
 | [],l=>by simp[qU,kE]
 | c::r,l=>by
   have ih:=Fx r
   have hne:=Dw 46 r
   rw[qU]
   obtain⟨x,L,hx⟩:∃ x L,kE 46 r=x::L:=by
    cases h:kE 46 r with
    | nil=>exact absurd h hne
    | cons x L=>exact⟨x,L,rfl⟩
   by_cases hc:c=46
   · subst hc
     rw[kE,if_pos rfl]
     simp only[ih,hx,List.headD_cons,List.tail_cons,List.all_cons,List.all_nil]
     by_cases hl:l=46
     · subst hl
       simp
     · rw[if_neg (by rintro(⟨_,h⟩|⟨h,_⟩);exact hl h;exact h trivial)]
       have:(l==46)=false:=beq_eq_false_iff_ne.2 hl
       rw[this]
       simp only[dh,Bool.not_false,Bool.true_or,Bool.true_and,beq_self_eq_true,Bool.not_true,Bool.false_or]
       cases x with
       | nil=>simp
       | cons d x=>simp[Bool.and_assoc]
   · rw[kE,if_neg hc,hx]
     simp only[ih,hx,List.headD_cons,List.tail_cons,List.all_cons]
     have hb:(c==46)=false:=beq_eq_false_iff_ne.2 hc
     rw[hb]
     cases hp:aW c with
     | false=>
       rw[if_pos (.inr ⟨hc,rfl⟩)]
       simp
     | true=>
       rw[if_neg (by rintro(⟨h,_⟩|⟨_,h⟩);exact hc h;cases h)]
       simp
theorem Nf(s:List aq.By):gM s=(kE 46 s).all dh:=by
 unfold gM
 rw[Fx]
 cases h:kE 46 s with
 | nil=>exact absurd h (Dw 46 s)
 | cons x L=>
   rw[List.headD_cons,List.tail_cons,List.all_cons,dh]
   cases x with
   | nil=>simp
   | cons d x=>simp[Bool.and_assoc]
theorem Fy(c:aq.By):∀ s:List aq.By,(kE c s).length<=s.length+1/\∀ x∈kE c s,x.length<=s.length
 | []=>by simp[kE]
 | d::r=>by
   obtain⟨h1,h2⟩:=Fy c r
   rw[kE]
   split
   · refine⟨by simp only[List.length_cons];omega,fun x hx=>?_⟩
     rcases List.mem_cons.1 hx with rfl|hx
     · simp
     · have:=h2 x hx
       simp only[List.length_cons]
       omega
   · cases h:kE c r with
     | nil=>exact absurd h (Dw c r)
     | cons y L=>
       rw[h] at h1 h2
       refine⟨by simpa using Nat.le_succ_of_le h1,fun x hx=>?_⟩
       rcases List.mem_cons.1 hx with rfl|hx
       · have:=h2 y Y614
         simpa using this
       · have:=h2 x (by simp[hx])
         simp only[List.length_cons]
         omega
theorem mg(s:List Bt)(w:World)(hl:s.length<4294967281):Calls Tryz.prog 124 [Z s].toArray w fun e w'=>e=.returned (.bool (gM s))/\Ext w w':=by
 refine enter (n:=16) Tryz.func124 rfl rfl rfl (aa.start w []) ?_
 rw[Nf]
 obtain⟨h1,h2⟩:=Fy 46 s
 refine Y24 ?_
 refine JL.bD (ι:=Nat) (vs:=[Z s,Z [46]]) (fun b=>.slice (some ⟨b,0,none⟩) (kE 46 s).length (kE 46 s).length) (fun b=>[⟨b,Row 9 ((kE 46 s).map Z),true⟩]) G0 rfl rfl (fun b e he=>by rw[List.mem_singleton.1 he]) (fun w' _=>J9 s 46 w' hl) fun b=>?_
 generalize kE 46 s=L at h1 h2
 repeat(first|refine JL.q (by first|(apply OQ.len;exact Tryz.underlying96;rfl)|exact Y323) rfl ?_|refine JC.block ?_|refine JL.nil ?_|refine JE.next ?_)
 refine JC.loop (fun i:Nat=>[(6,.slice (some ⟨b,0,none⟩) L.length L.length),(7,N L.length),(8,N i)]) (fun _=>[⟨b,Row 9 (L.map Z),true⟩]) (fun i=>L.length-i) (fun i=>i<=L.length/\(L.take i).all dh=true) 0 ⟨Nat.zero_le _,by simp⟩ Y640 (aj.refl _) ?_
 rintro i ⟨hi,ha⟩
 refine Y22 ?_
 refine JC.cond rfl (fun h=>?_) (fun h=>?_)
 · have hi':i<L.length:=of_decide_eq_true h
   clear h hi
   have hx:L.getD i []∈L:=by
    rw[List.getD_eq_getElem?_getD,List.getElem?_eq_getElem hi']
    exact List.getElem_mem hi'
   have hxl:=h2 _ hx
   have hv:(L.map Z)[i]?=some (Z (L.getD i [])):=dF Z [] hi'
   have cA:=fun w'=>nZ (L.getD i []) w' Y609
   have hall:=eK dh L [] hi'
   have hbad:=gY dh L [] hi'
   rw[ha,Bool.true_and] at hall
   generalize L.getD i []=x at hv cA hall hbad
   cases hat:dh x
   · rw[hat] at cA
     rw[hbad hat]
     repeat(first|refine JL.q Y655 rfl ?_|refine Y52 ?_)
     refine Y246 ?_
     refine Y3 ?_
     refine Y247 ?_
     refine Y2 ?_
     exact Y248
   · rw[hat] at cA hall
     repeat(first|refine JL.q Y655 rfl ?_|refine Y52 ?_)
     refine Y245 ?_
     refine Y25 ?_
     exact Y264
 · have hi':¬ i<L.length:=of_decide_eq_false h
   obtain rfl:i=L.length:=by omega
   rw[List.take_length] at ha
   rw[ha]
   refine Y11 ?_
   refine Y247 ?_
   exact Y248
theorem rL{c:aq.By}(h:aW c=true):c.toNat<128:=by
 simp only[aW,Bool.and_eq_true,decide_eq_true_eq] at h
 omega
theorem vi:∀ (s:List aq.By) (l:aq.By),qU s l=true->∀ c∈s,c.toNat<128
 | [],_,_,_,hc=>by cases hc
 | c::r,l,h,d,hd=>by
   rw[qU] at h
   split at h
   · cases h
   · next hn=>
     rcases List.mem_cons.1 hd with rfl|hd
     · by_cases e:d=46
       · subst e;decide
       · cases hp:aW d with
         | true=>exact rL hp
         | false=>exact absurd (.inr ⟨e,hp⟩) hn
     · exact vi r c h d hd
theorem PD(s:List aq.By):Q1 s=s.drop (s.length-la 60 s):=by
 unfold Q1 la
 have h:=List.takeWhile_append_dropWhile (p:=fun d=>!(d==(60:aq.By))) (l:=s.reverse)
 generalize s.reverse.takeWhile (fun d=>!(d==(60:aq.By)))=a at h⊢
 generalize s.reverse.dropWhile (fun d=>!(d==(60:aq.By)))=b at h
 have hs:s=b.reverse++a.reverse:=by rw[<- List.reverse_append,h,List.reverse_reverse]
 rw[hs,List.length_append,List.length_reverse,List.length_reverse,Nat.add_sub_cancel,List.drop_append_of_le_length Y614,List.drop_of_length_le Y614,List.nil_append]
theorem Kc(s:List aq.By):oy s=if s.getLast?=some 62 then(if 60∈s.dropLast then iF (trim (s.dropLast.drop (s.dropLast.length-la 60 s.dropLast))) else([],3)) else iF s:=by
 unfold oy
 by_cases h:s.getLast?=some 62
 · obtain⟨a,rfl⟩:=List.getLast?_eq_some_iff.1 h
   rw[if_pos ⟨by simp,by simp⟩,if_pos h,List.dropLast_concat,PD]
   congr 1
   simp
 · rw[if_neg h,if_neg]
   rintro⟨h1,h2⟩
   refine h ?_
   rw[List.getLast?_eq_getElem?,List.getElem?_eq_getElem Y609]
   rw[List.getD_eq_getElem?_getD,List.getElem?_eq_getElem Y609] at h2
   exact congrArg some h2
theorem BE(s:List aq.By):iF s=if fi 64 s<s.length/\gM (s.take (fi 64 s))=true/\gM (s.drop (fi 64 s+1))=true then(s.take (fi 64 s)++[64]++(s.drop (fi 64 s+1)).map small,0) else([],3):=by
 have hf:fst 64 s=fi 64 s:=rfl
 unfold iF
 rw[hf]
 have h1:=uS 64 s
 by_cases h:fi 64 s<s.length
 · have ht:s.take (fi 64 s+1)=s.take (fi 64 s)++[64]:=by
    rw[List.take_add_one,List.getElem?_eq_getElem h,Option.toList_some]
    congr 2
    have:=JU 64 s h
    rw[List.getD_eq_getElem?_getD,List.getElem?_eq_getElem h] at this
    exact this
   cases d1:gM (s.take (fi 64 s)) <;> cases d2:gM (s.drop (fi 64 s+1))
   · rw[if_pos (.inr (.inl rfl)),if_neg (fun k=>by cases k.2.1)]
   · rw[if_pos (.inr (.inl rfl)),if_neg (fun k=>by cases k.2.1)]
   · rw[if_pos (.inr (.inr rfl)),if_neg (fun k=>by cases k.2.2)]
   · rw[if_neg (by rintro(k|k|k);omega;cases k;cases k),if_pos ⟨h,rfl,rfl⟩,ht]
 · rw[if_pos (.inl Y609),if_neg (fun k=>h k.1)]
theorem xW(s:List Bt)(w:World)(hl:s.length<1000000):Calls Tryz.prog 79 [Z s].toArray w fun e w'=>e=.returned (.tuple #[Z (cH s).1,N (cH s).2])/\Ext w w':=by
 refine enter (n:=61) Tryz.func79 rfl rfl rfl (aa.start w []) ?_
 have cB:=fun w'=>rI s w' Y609
 have hbl:=kV s
 unfold cH
 generalize (dW s).1=x at cB hbl⊢
 generalize (dW s).2=k at cB⊢
 cases hk:decide ((k:Int)=0)
 · rw[if_neg Y656]
   refine Y53 ?_
   refine Y246 ?_
   refine Y24 ?_
   refine Y247 ?_
   refine Y250 ?_
   refine Y265 ?_
   exact Y266
 rw[if_pos Y657]
 have cT:=fun w'=>lE x w' Y609
 have htl:=me x
 generalize trim x=t at cT htl⊢
 have cS:=fun w'=>Nd t 62 w' Y609
 have hT:=Kc t
 unfold RR at cS
 refine Y53 ?_
 refine Y245 ?_
 by_cases hg:t.getLast?=some 62
 · rw[if_pos hg] at hT cS
   have hal:t.dropLast.length<=t.length:=by rw[List.length_dropLast];omega
   generalize t.dropLast=a at hT cS hal
   have cL:=fun w'=>G3 a 60 w' Y609
   have hla:=RJ 60 a
   have hla2:=RI 60 a
   repeat(first|refine JL.q (by first|exact Y358|exact Y359) rfl ?_|refine Y54 ?_)
   refine JC.join (ι:=List Bt) (fun y=>[(6,Z y)]) (fun _=>[]) (fun y=>oy t=iF y/\y.length<1000000) ?_ ?_
   · refine Y246 ?_
     cases hm:decide (GN 60 a<0)
     · have hm':¬ GN 60 a<0:=of_decide_eq_false hm
       have hmem:60∈a:=hla.1 (by unfold GN at hm';omega)
       rw[if_pos hmem] at hT
       obtain⟨p,hp⟩:∃ p,p+1=a.length-la 60 a:=⟨a.length-la 60 a-1,by have:=hla.2 hmem;omega⟩
       have hix:GN 60 a=(p:Int):=by unfold GN;omega
       have hpl:p+1<=a.length:=by omega
       rw[<- hp] at hT
       rw[hix] at cL hm
       have hdl:(a.drop (p+1)).length<=a.length:=by rw[List.length_drop];omega
       have cT2:=fun w'=>lE (a.drop (p+1)) w' Y609
       have htl2:=me (a.drop (p+1))
       generalize trim (a.drop (p+1))=y at hT cT2 htl2
       repeat(first|refine JL.q Y658 rfl ?_|refine Y0 ?_)
       refine Y245 ?_
       repeat(first|refine JL.q (by first|(apply OQ.eV;exact Tryz.underlying9;rfl;rfl;exact hpl)|(apply OQ.ai (vs:=[Z (a.drop (p+1)),Z [32,9]]);exact ig;rfl;exact(fun w' _=>cT2 w'))|exact Y323|exact Y324|exact Y337) rfl ?_|refine JC.region ?_|refine JC.skip ?_|refine JL.nil ?_|refine JE.next ?_)
       exact JE.mid y ⟨hT,by omega⟩ Y640 (aj.refl _)
     · have hm':GN 60 a<0:=of_decide_eq_true hm
       have hmem:¬ 60∈a:=fun h=>by have:=hla.2 h;unfold GN at hm';omega
       rw[if_neg hmem] at hT
       rw[hT]
       repeat(first|refine JL.q Y658 rfl ?_|refine Y0 ?_)
       refine Y246 ?_
       refine Y3 ?_
       refine Y247 ?_
       refine Y250 ?_
       exact Y259
   · rintro y ⟨hy,hyl⟩
     rw[hy]
     have cC:=fun w'=>qc y 64 w' Y609
     have hfl:=uS 64 y
     have hS:=BE y
     unfold zG at cC
     by_cases hf:fi 64 y<y.length
     · rw[if_pos hf] at cC
       have hwl:(y.take (fi 64 y)).length<=y.length:=by rw[List.length_take];omega
       have hdl:(y.drop (fi 64 y+1)).length<=y.length:=by rw[List.length_drop];omega
       have hlow:=vi (y.drop (fi 64 y+1)) 46
       replace hlow:gM (y.drop (fi 64 y+1))=true->∀ c∈y.drop (fi 64 y+1),c.toNat<128:=hlow
       replace hS:iF y=if gM (y.take (fi 64 y))=true/\gM (y.drop (fi 64 y+1))=true then(y.take (fi 64 y)++[64]++(y.drop (fi 64 y+1)).map small,0) else([],3):=by
        rw[hS]
        by_cases h:gM (y.take (fi 64 y))=true/\gM (y.drop (fi 64 y+1))=true
        · rw[if_pos ⟨hf,h⟩,if_pos h]
        · rw[if_neg (fun k=>h k.2),if_neg h]
       generalize y.take (fi 64 y)=who at cC hS hwl
       generalize y.drop (fi 64 y+1)=whe at cC hS hdl hlow
       have c1:=fun w'=>mg who w' Y609
       have c2:=fun w'=>mg whe w' Y609
       cases d1:gM who
       · rw[d1] at c1
         rw[hS,if_neg (fun k=>by rw[d1] at k;cases k.1)]
         repeat(first|refine JL.q (by first|exact Y361|exact Y362) rfl ?_|refine JL.bG rfl rfl ?_|refine JL.aM rfl rfl rfl rfl ?_|refine Y55 ?_)
         refine Y246 ?_
         refine Y3 ?_
         refine Y247 ?_
         refine Y250 ?_
         exact Y259
       · cases d2:gM whe
         · rw[d1] at c1
           rw[d2] at c2
           rw[hS,if_neg (fun k=>by rw[d2] at k;cases k.2)]
           repeat(first|refine JL.q Y659 rfl ?_|refine JL.bG rfl rfl ?_|refine Y56 ?_)
           refine Y246 ?_
           refine Y3 ?_
           refine Y247 ?_
           refine Y250 ?_
           exact Y259
         · rw[hS,if_pos ⟨d1,d2⟩]
           rw[d1] at c1
           rw[d2] at c2
           have cL:=fun w'=>n6 whe w' Y609 (hlow d2)
           repeat(first|refine JL.q Y659 rfl ?_|refine JL.bG rfl rfl ?_|refine Y56 ?_)
           refine Y245 ?_
           repeat(first|refine JL.q Y660 rfl ?_|refine Y57 ?_)
           refine Y247 ?_
           exact Y259
     · rw[if_neg hf] at cC
       rw[hS,if_neg (fun k=>hf k.1)]
       repeat(first|refine JL.q (by exact Y361) rfl ?_|refine JL.aM rfl rfl rfl rfl ?_|refine Y58 ?_)
       refine Y246 ?_
       refine Y3 ?_
       refine Y247 ?_
       refine Y250 ?_
       exact Y259
 · rw[if_neg hg] at hT cS
   repeat(first|refine JL.q (by first|exact Y358|exact Y359) rfl ?_|refine Y54 ?_)
   refine JC.join (ι:=List Bt) (fun y=>[(6,Z y)]) (fun _=>[]) (fun y=>oy t=iF y/\y.length<1000000) ?_ ?_
   · refine Y245 ?_
     repeat(refine JC.skip ?_)
     exact JE.mid t ⟨hT,by omega⟩ Y640 (aj.refl _)
   · rintro y ⟨hy,hyl⟩
     rw[hy]
     have cC:=fun w'=>qc y 64 w' Y609
     have hfl:=uS 64 y
     have hS:=BE y
     unfold zG at cC
     by_cases hf:fi 64 y<y.length
     · rw[if_pos hf] at cC
       have hwl:(y.take (fi 64 y)).length<=y.length:=by rw[List.length_take];omega
       have hdl:(y.drop (fi 64 y+1)).length<=y.length:=by rw[List.length_drop];omega
       have hlow:=vi (y.drop (fi 64 y+1)) 46
       replace hlow:gM (y.drop (fi 64 y+1))=true->∀ c∈y.drop (fi 64 y+1),c.toNat<128:=hlow
       replace hS:iF y=if gM (y.take (fi 64 y))=true/\gM (y.drop (fi 64 y+1))=true then(y.take (fi 64 y)++[64]++(y.drop (fi 64 y+1)).map small,0) else([],3):=by
        rw[hS]
        by_cases h:gM (y.take (fi 64 y))=true/\gM (y.drop (fi 64 y+1))=true
        · rw[if_pos ⟨hf,h⟩,if_pos h]
        · rw[if_neg (fun k=>h k.2),if_neg h]
       generalize y.take (fi 64 y)=who at cC hS hwl
       generalize y.drop (fi 64 y+1)=whe at cC hS hdl hlow
       have c1:=fun w'=>mg who w' Y609
       have c2:=fun w'=>mg whe w' Y609
       cases d1:gM who
       · rw[d1] at c1
         rw[hS,if_neg (fun k=>by rw[d1] at k;cases k.1)]
         repeat(first|refine JL.q (by first|exact Y361|exact Y362) rfl ?_|refine JL.bG rfl rfl ?_|refine JL.aM rfl rfl rfl rfl ?_|refine Y55 ?_)
         refine Y246 ?_
         refine Y3 ?_
         refine Y247 ?_
         refine Y250 ?_
         exact Y259
       · cases d2:gM whe
         · rw[d1] at c1
           rw[d2] at c2
           rw[hS,if_neg (fun k=>by rw[d2] at k;cases k.2)]
           repeat(first|refine JL.q Y659 rfl ?_|refine JL.bG rfl rfl ?_|refine Y56 ?_)
           refine Y246 ?_
           refine Y3 ?_
           refine Y247 ?_
           refine Y250 ?_
           exact Y259
         · rw[hS,if_pos ⟨d1,d2⟩]
           rw[d1] at c1
           rw[d2] at c2
           have cL:=fun w'=>n6 whe w' Y609 (hlow d2)
           repeat(first|refine JL.q Y659 rfl ?_|refine JL.bG rfl rfl ?_|refine Y56 ?_)
           refine Y245 ?_
           repeat(first|refine JL.q Y660 rfl ?_|refine Y57 ?_)
           refine Y247 ?_
           exact Y259
     · rw[if_neg hf] at cC
       rw[hS,if_neg (fun k=>hf k.1)]
       repeat(first|refine JL.q (by exact Y361) rfl ?_|refine JL.aM rfl rfl rfl rfl ?_|refine Y58 ?_)
       refine Y246 ?_
       refine Y3 ?_
       refine Y247 ?_
       refine Y250 ?_
       exact Y259
end
section
open Sl aq gZ
theorem xX:aJ Tryz.prog 189:=⟨_,Tryz.func189,rfl,by kernel_rfl⟩
theorem iy:aJ Tryz.prog 134:=⟨_,Tryz.func134,rfl,by kernel_rfl⟩
theorem vj:aJ Tryz.prog 135:=⟨_,Tryz.func135,rfl,by kernel_rfl⟩
theorem sJ:aJ Tryz.prog 136:=⟨_,Tryz.func136,rfl,by kernel_rfl⟩
def PE(c:aq.By):Bool:=((decide ((97:Int)<=(c.toNat:Int))&&decide ((c.toNat:Int)<=122))||(decide ((65:Int)<=(c.toNat:Int))&&decide ((c.toNat:Int)<=90)))||(decide ((48:Int)<=(c.toNat:Int))&&decide ((c.toNat:Int)<=57))
theorem Ng(c:aq.By):mP c=(PE c||decide ((0:Int)<=kO c AE)):=by
 have h:∀ c:Fin 256,mP (BitVec.ofNat 8 c.val)=(PE (BitVec.ofNat 8 c.val)||decide ((0:Int)<=kO (BitVec.ofNat 8 c.val) AE)):=by decide +kernel
 simpa using h ⟨c.toNat,c.isLt⟩
theorem Ke(c:Bt)(w:World):Calls Tryz.prog 189 [U8 c].toArray w fun e w'=>e=.returned (.bool (mP c))/\Ext w w':=by
 refine enter (n:=30) Tryz.func189 rfl rfl rfl (aa.start w []) ?_
 rw[Ng c]
 have ci:=fun w'=>qa AE c w'
 unfold PE
 cases h1:decide ((97:Int)<=(c.toNat:Int)) <;> cases h2:decide ((c.toNat:Int)<=122) <;> cases h3:decide ((65:Int)<=(c.toNat:Int)) <;> cases h4:decide ((c.toNat:Int)<=90) <;> cases h5:decide ((48:Int)<=(c.toNat:Int)) <;> cases h6:decide ((c.toNat:Int)<=57)
 all_goals first
  | (exfalso
     have k1:=h1;have k2:=h2;have k3:=h3;have k4:=h4;have k5:=h5;have k6:=h6
     simp only[decide_eq_true_eq,decide_eq_false_iff_not] at k1 k2 k3 k4 k5 k6
     omega)
  | skip
 all_goals cases h7:decide ((0:Int)<=kO c AE)
 all_goals (repeat(first|refine JL.q (by first|(apply OQ.dn (b:=97);rfl;rfl;exact h1)|(apply OQ.fA (b:=122);rfl;rfl;exact h2)|(apply OQ.dn (b:=65);rfl;rfl;exact h3)|(apply OQ.fA (b:=90);rfl;rfl;exact h4)|(apply OQ.dn (b:=48);rfl;rfl;exact h5)|(apply OQ.fA (b:=57);rfl;rfl;exact h6)|(apply OQ.ai (vs:=[Z AE,U8 c]);exact nW;rfl;exact(fun w' _=>ci w'))|(apply OQ.dn (b:=0);rfl;rfl;exact h7)) rfl ?_|refine JL.bG rfl rfl ?_|refine JL.aM rfl rfl rfl rfl ?_|refine JL.ic rfl rfl rfl rfl ?_|refine Y12 ?_))
 all_goals exact JC.ret (JE.aK rfl (RV.tmp rfl) fun w' hw=>⟨rfl,hw.aH⟩)
theorem vk(s:List Bt)(w:World)(hl:s.length<9223372036854775808):Calls Tryz.prog 134 [Z s].toArray w fun e w'=>e=.returned (.bool (cG s))/\Ext w w':=by
 refine enter (n:=22) Tryz.func134 rfl rfl rfl (aa.start w []) ?_
 refine Y21 ?_
 refine JC.loop (fun i:Nat=>[(0,Z s),(5,N s.length),(6,N i)]) (fun _=>[]) (fun i=>s.length-i) (fun i=>i<=s.length/\(s.take i).all mP=true) 0 ⟨Nat.zero_le _,rfl⟩ Y640 (aj.refl _) ?_
 rintro i ⟨hi,ha⟩
 refine Y22 ?_
 refine JC.cond rfl (fun h=>?_) (fun h=>?_)
 · have hi':i<s.length:=of_decide_eq_true h
   clear h hi
   have hall:=eK mP s 0 hi'
   have hbad:=gY mP s 0 hi'
   rw[ha,Bool.true_and] at hall
   have i0:=fun {n:Nat} {E:Env} {C:World->Prop} {dst:Option Tmp} {ty:TypeId} {pos:String} {aft:Array Edge} {g:Option (Nat × Bool)} {x y:Operand}=>OQ.ru (P:=Tryz.prog) (n:=n) (E:=E) (C:=C) (dst:=dst) (t:=9) (ty:=ty) (pos:=pos) (aft:=aft) (g:=g) (x:=x) (y:=y) (l:=s) (k:=.i64) (i:=i) Tryz.underlying9 (hi:=hi')
   generalize s.getD i 0=c at hall hbad i0
   have cc:=fun w'=>Ke c w'
   cases hb:mP c
   · rw[hb] at cc
     have hF:cG s=false:=by
      unfold cG
      rw[hbad hb]
      rfl
     rw[hF]
     repeat(first|refine JL.q (by first|(apply i0;rfl;rfl)|exact Y367) rfl ?_|refine Y52 ?_)
     refine Y246 ?_
     refine Y3 ?_
     refine Y247 ?_
     refine Y2 ?_
     exact Y248
   · rw[hb] at cc hall
     repeat(first|refine JL.q (by first|(apply i0;rfl;rfl)|exact Y367) rfl ?_|refine Y52 ?_)
     refine Y245 ?_
     refine Y25 ?_
     exact Y264
 · have hi':¬ i<s.length:=of_decide_eq_false h
   obtain rfl:i=s.length:=by omega
   clear h hi hi'
   rw[List.take_length] at ha
   refine Y59 ?_
   have hB:cG s=(!decide (s=[])&&decide ((s.length:Int)<=70)):=by
    unfold cG
    rw[ha,Bool.true_and]
    cases s with
    | nil=>rfl
    | cons c r=>
      have e1:decide ((1:Nat)<=(c::r).length)=true:=decide_eq_true Y614
      have e2:decide (c::r=[])=false:=decide_eq_false Y614
      have e3:decide ((c::r).length<=70)=decide (((c::r).length:Int)<=70):=decide_eq_decide.2 Y609
      rw[e1,e2,e3]
      rfl
   rw[hB]
   cases e0:decide (s=[]) <;> cases h70:decide ((s.length:Int)<=70)
   all_goals (repeat(first|refine JL.q (by first|exact Y322|(apply OQ.lD (r:=[]);rfl;rfl;exact e0)|(apply OQ.fA (b:=70);rfl;rfl;exact h70)|exact Y330|exact Y331|exact Y323|exact Y324) rfl ?_|refine JL.nil ?_|refine JE.next ?_|refine JL.bG rfl rfl ?_|refine JL.aM rfl rfl rfl rfl ?_))
   all_goals exact JC.ret (JE.aK rfl (RV.tmp rfl) fun w' hw=>⟨rfl,hw.aH⟩)
theorem xY(s:List Bt)(w:World)(hl:s.length<=1000000):Calls Tryz.prog 135 [Z s].toArray w fun e w'=>e=.returned (Z (45::45::s))/\Ext w w':=by
 refine enter (n:=5) Tryz.func135 rfl rfl rfl (aa.start w []) ?_
 have e2:([45,45]:List Bt).length=2:=rfl
 repeat(first|refine JL.q (by exact Y368) rfl ?_|refine Y0 ?_)
 exact Y244
theorem vl(s:List Bt)(w:World)(hl:s.length<=1000000):Calls Tryz.prog 136 [Z s].toArray w fun e w'=>e=.returned (Z (45::45::(s++[45,45])))/\Ext w w':=by
 refine enter (n:=6) Tryz.func136 rfl rfl rfl (aa.start w []) ?_
 have e2:([45,45]:List Bt).length=2:=rfl
 have e3:([45,45]++s:List Bt).length=s.length+2:=by simp
 repeat(first|refine JL.q (by first|exact Y368|(apply OQ.fH (l:=[45,45]++s) (r:=[45,45]);rfl;rfl;exact(by rw[e2,e3];omega))) rfl ?_|refine Y0 ?_)
 exact Y244
theorem G5:aJ Tryz.prog 133:=⟨_,Tryz.func133,rfl,by kernel_rfl⟩
theorem G6:aJ Tryz.prog 188:=⟨_,Tryz.func188,rfl,by kernel_rfl⟩
theorem Kf(s d:List Bt)(w:World):Calls Tryz.prog 188 [Z s,Z d].toArray w fun e w'=>e=.returned (.bool (decide (s.take d.length=d)))/\Ext w w':=by
 refine enter (n:=18) Tryz.func188 rfl rfl rfl (aa.start w []) ?_
 cases h1:decide ((d.length:Int)<=(s.length:Int))
 · have hF:decide (s.take d.length=d)=false:=decide_eq_false fun e=>by
    have:=congrArg List.length e
    rw[List.length_take] at this
    have:=of_decide_eq_false h1
    omega
   rw[hF]
   repeat(first|refine JL.q (by(apply OQ.dn (b:=(d.length:Int));rfl;rfl;exact h1)) rfl ?_|refine JL.aM rfl rfl rfl rfl ?_|refine Y40 ?_)
   exact Y244
 · have hle:d.length<=s.length:=by have:=of_decide_eq_true h1;omega
   cases h2:decide (s.take d.length=d)
   all_goals (repeat(first|refine JL.q (by first|(apply OQ.dn (b:=(d.length:Int));rfl;rfl;exact h1)|(apply OQ.gu (j:=d.length);exact Tryz.underlying9;rfl;rfl;exact hle)|exact Y345) rfl ?_|refine JL.bG rfl rfl ?_|refine Y41 ?_))
   all_goals exact JC.ret (JE.aK rfl (RV.tmp rfl) fun w' hw=>⟨rfl,hw.aH⟩)
theorem Kg(s d:List Bt)(w:World):Calls Tryz.prog 133 [Z s,Z d].toArray w fun e w'=>e=.returned (.bool (decide (s.take d.length=d)))/\Ext w w':=by
 refine enter (n:=8) Tryz.func133 rfl rfl rfl (aa.start w []) ?_
 have hq:=fun w'=>Kf s d w'
 repeat(first|refine JL.q (by(apply OQ.ai (vs:=[Z s,Z d]);exact G6;rfl;exact(fun w' _=>hq w'))) rfl ?_|refine Y0 ?_)
 exact Y244
end
section
open Sl aq Tok
theorem vm:aJ Tryz.prog 62:=⟨_,Tryz.func62,rfl,by kernel_rfl⟩
structure BS where
 i:Nat
 d:Nat
 q:Bool
 o:List aq.By
 n:Nat
 b:Nat
 cap:Nat
theorem sK{c:aq.By}(k:aq.By)(h:decide ((c.toNat:Int)=(k.toNat:Int))=true):c=k:=by rw[rE] at h;exact beq_iff_eq.1 h
theorem kR{c:aq.By}(k:aq.By)(h:decide ((c.toNat:Int)=(k.toNat:Int))=false):¬ c=k:=by rw[rE] at h;exact beq_eq_false_iff_ne.1 h
theorem G7(s:List aq.By)(w:World)(hl:s.length<1000000):Calls Tryz.prog 62 [Z s].toArray w fun e w'=>e=.returned (.tuple #[Z (dW s).1,N (dW s).2])/\Ext w w':=by
 refine enter (n:=86) Tryz.func62 rfl rfl rfl (aa.start w []) ?_
 refine Y3 ?_
 refine JL.lB Tryz.underlying22 dV rfl fun b0 _=>?_
 refine Y7 ?_
 refine JC.loop (fun z:BS=>[(0,Z s),(4,.slice (some ⟨z.b,0,none⟩) z.n z.cap),(5,N z.d),(6,.bool z.q),(7,N z.i)]) (fun z=>[⟨z.b,Sl.Own 5 1 z.n z.cap (z.o.map U8),true⟩]) (fun z=>s.length+1-z.i) (fun z=>z.i<=s.length+1/\z.d<=9/\z.o.length=z.n/\z.n<=z.i/\dW s=aU (s.drop z.i) z.d z.q z.o) ⟨0,0,false,[],0,b0,0⟩ ⟨by simp,by simp,rfl,by simp,rfl⟩ Y640 (aj.refl _) ?_
 rintro⟨i,d,q,o,n,b,cap⟩ ⟨hi,hd,hon,hn,ha⟩
 simp only at hi hd hon hn ha
 dsimp only
 refine Y8 ?_
 refine JC.cond rfl (fun h=>?_) (fun h=>?_)
 · have hi':i<s.length:=of_decide_eq_true h
   clear h hi
   rw[lG hi'] at ha
   have hidx:=fun {n:Nat} {E:Env} {C:World->Prop} {dst:Option Tmp} {ty:TypeId} {pos:String} {aft:Array Edge} {g:Option (Nat × Bool)} {x y:Operand}=>dI hi' (n:=n) (E:=E) (C:=C) (dst:=dst) (ty:=ty) (pos:=pos) (aft:=aft) (g:=g) (x:=x) (y:=y)
   generalize s.getD i 0=c at hidx ha
   cases h92:decide ((c.toNat:Int)=92) <;> cases hq:q <;> cases h0:decide ((0:Int)<(d:Int))
   all_goals subst hq
   all_goals (repeat(first|refine JL.q (by first|(apply hidx;rfl;rfl)|(apply OQ.ep (b:=92);rfl;rfl;exact h92)|exact Y351) rfl ?_|refine JL.bG rfl rfl ?_|refine JL.aM rfl rfl rfl rfl ?_|refine JL.ic rfl rfl rfl rfl ?_|refine Y16 ?_))
   all_goals refine JC.cond rfl (fun h=>?_) (fun h=>?_)
   all_goals first|(exfalso;revert h;decide)|skip
   all_goals clear h
   case refine_1.true.true.false.refine_1|refine_1.true.true.true.refine_1=>
    obtain rfl:c=92:=sK 92 h92
    (refine Y60 ?_)
    refine Y246 ?_
    (refine Y61 ?_)
    refine JL.gi (xs:=o.map U8) (fun b' cap'=>[⟨b',Sl.Own 5 1 (n+1) cap' (o.map U8++[U8 92]),true⟩]) Tryz.underlying22 dV rfl rfl rfl rfl (fun _=>rfl) Y642 Y609 Y609 rfl rfl fun bl b1 cap1=>?_
    cases h4:decide (((i+1:Nat):Int)<(s.length:Int))
    · (repeat(first|refine JL.q (by(apply OQ.fV;rfl;rfl;exact h4)) rfl ?_|refine Y62 ?_))
      refine Y245 ?_
      (refine Y63 ?_)
      have he:s.length<=i+1:=by have:=of_decide_eq_false h4;omega
      rw[List.drop_of_length_le he,qV] at ha
      refine JE.again (i:=BS.mk i d true o n b cap) (BS.mk (i+2) d true (o++[92]) (n+1) b1 cap1) ⟨by dsimp only;omega,hd,by simp[hon],by dsimp only;omega,by dsimp only;rw[List.drop_of_length_le Y609,ha,gW];simp⟩ Y661 Y640 (.keep _ _ _ _ _ _ (fun o h=>by dsimp only;simp only[List.map_append];exact h) (.nil _))
    · have hi2:i+1<s.length:=by have:=of_decide_eq_true h4;omega
      rw[lG hi2] at ha
      have hidx2:=fun {n:Nat} {E:Env} {C:World->Prop} {dst:Option Tmp} {ty:TypeId} {pos:String} {aft:Array Edge} {g:Option (Nat × Bool)} {x y:Operand}=>dI hi2 (n:=n) (E:=E) (C:=C) (dst:=dst) (ty:=ty) (pos:=pos) (aft:=aft) (g:=g) (x:=x) (y:=y)
      generalize s.getD (i+1) 0=c2 at hidx2 ha
      rw[pO] at ha
      (repeat(first|refine JL.q (by(apply OQ.fV;rfl;rfl;exact h4)) rfl ?_|refine Y62 ?_))
      refine Y246 ?_
      (repeat(first|refine JL.q (by first|(apply hidx2;rfl;rfl)|exact Y323|exact Y337) rfl ?_|refine JC.region ?_))
      refine JL.gi (xs:=o.map U8++[U8 92]) (fun b' cap'=>[⟨b',Sl.Own 5 1 (n+1+1) cap' (o.map U8++[U8 92]++[U8 c2]),true⟩]) Tryz.underlying22 dV rfl rfl rfl rfl (fun _=>rfl) Y642 Y609 Y609 rfl rfl fun bl b2 cap2=>?_
      (repeat refine Y64 ?_)
      refine JE.again (i:=BS.mk i d true o n b cap) (BS.mk (i+2) d true (o++[92]++[c2]) (n+1+1) b2 cap2) ⟨by dsimp only;omega,hd,by simp[hon],by dsimp only;omega,ha⟩ Y661 Y640 (.keep _ _ _ _ _ _ (fun o h=>by dsimp only;simp only[List.map_append];exact h) (.nil _))
   case refine_1.true.false.true.refine_1=>
    obtain rfl:c=92:=sK 92 h92
    have hd0:0<d:=by have:=of_decide_eq_true h0;omega
    (refine Y60 ?_)
    refine Y245 ?_
    (refine Y63 ?_)
    refine JE.again (i:=BS.mk i d false o n b cap) (BS.mk (i+2) d false o n b cap) ⟨by dsimp only;omega,hd,hon,by dsimp only;omega,?_⟩ Y661 Y640 (aj.refl _)
    dsimp only
    by_cases h4:i+1<s.length
    · rw[lG h4,um hd0] at ha
      exact ha
    · rw[List.drop_of_length_le Y609,qX hd0] at ha
      rw[List.drop_of_length_le Y609,ha,gW,h0];rfl
   case refine_1.false.true.false.refine_2|refine_1.false.true.true.refine_2=>
    rw[qW (kR 92 h92),eqc] at ha
    (refine Y65 ?_)
    refine Y246 ?_
    (refine Y61 ?_)
    refine JL.gi (xs:=o.map U8) (fun b' cap'=>[⟨b',Sl.Own 5 1 (n+1) cap' (o.map U8++[U8 c]),true⟩]) Tryz.underlying22 dV rfl rfl rfl rfl (fun _=>rfl) Y642 Y609 Y609 rfl rfl fun bl b1 cap1=>?_
    cases h34:decide ((c.toNat:Int)=34)
    all_goals (
     (repeat(first|refine JL.q (by(apply OQ.fh (b:=34);rfl;rfl;exact h34)) rfl ?_|refine Y64 ?_))
     rw[show decide ((c.toNat:Int)=((34:aq.By).toNat:Int))=_ from h34] at ha
     refine JE.again (i:=BS.mk i d true o n b cap) (BS.mk (i+1) d _ (o++[c]) (n+1) b1 cap1) ⟨by dsimp only;omega,hd,by simp[hon],by dsimp only;omega,ha⟩ Y661 Y640 (.keep _ _ _ _ _ _ (fun o h=>by dsimp only;simp only[List.map_append];exact h) (.nil _)))
   all_goals (
    have hns:d=0\/¬ c=92:=by
     first
      | exact Or.inr (kR 92 h92)
      | exact Or.inl (by have:=of_decide_eq_false h0;omega)
    (refine Y65 ?_)
    refine Y245 ?_
    cases h40:decide ((c.toNat:Int)=40)
    case true=>
     obtain rfl:c=40:=sK 40 h40
     rw[ko] at ha
     (refine Y66 ?_)
     refine Y246 ?_
     cases h9:decide ((9:Int)<((d+1:Nat):Int))
     · rw[if_neg (by have:=of_decide_eq_false h9;omega)] at ha
       (repeat(first|refine JL.q (by(apply OQ.cZ (b:=9);rfl;rfl;exact h9)) rfl ?_|refine Y34 ?_))
       refine Y245 ?_
       (refine Y67 ?_)
       exact JE.again (i:=BS.mk i d false o n b cap) (BS.mk (i+1) (d+1) false o n b cap) ⟨by dsimp only;omega,by have:=of_decide_eq_false h9;dsimp only;omega,hon,by dsimp only;omega,ha⟩ Y661 Y640 (aj.refl _)
     · rw[if_pos (by have:=of_decide_eq_true h9;omega)] at ha
       rw[ha]
       (repeat(first|refine JL.q (by(apply OQ.cZ (b:=9);rfl;rfl;exact h9)) rfl ?_|refine Y34 ?_))
       refine Y246 ?_
       (refine Y3 ?_)
       refine Y247 ?_
       (refine Y2 ?_)
       refine Y265 ?_
       exact Y266
    case false=>
     cases h41:decide ((c.toNat:Int)=41)
     case true=>
      obtain rfl:c=41:=sK 41 h41
      rw[lQ] at ha
      (refine Y66 ?_)
      refine Y245 ?_
      (repeat(first|refine JL.q Y662 rfl ?_|refine Y68 ?_))
      refine Y246 ?_
      by_cases hd0:d=0
      · rw[if_pos hd0] at ha
        rw[ha]
        subst hd0
        (repeat(first|refine JL.q (by first|exact Y369|(apply OQ.fV (b:=0) (c:=true);rfl;rfl;rfl)) rfl ?_|refine Y0 ?_))
        refine Y246 ?_
        (refine Y3 ?_)
        refine Y247 ?_
        (refine Y2 ?_)
        refine Y265 ?_
        exact Y266
      · rw[if_neg hd0] at ha
        have hneg:decide (((d-1:Nat):Int)<0)=false:=decide_eq_false Y609
        cases h1:decide (((d-1:Nat):Int)=0)
        · rw[if_neg (by have:=of_decide_eq_false h1;omega)] at ha
          (repeat(first|refine JL.q (by exact Y370) rfl ?_|refine Y69 ?_))
          refine Y245 ?_
          (repeat(first|refine JL.q (by(apply OQ.ep (b:=0);rfl;rfl;exact h1)) rfl ?_|refine Y68 ?_))
          refine Y245 ?_
          (refine Y67 ?_)
          exact JE.again (i:=BS.mk i d false o n b cap) (BS.mk (i+1) (d-1) false o n b cap) ⟨by dsimp only;omega,by dsimp only;omega,hon,by dsimp only;omega,ha⟩ Y661 Y640 (aj.refl _)
        · rw[if_pos Y663] at ha
          (repeat(first|refine JL.q (by exact Y370) rfl ?_|refine Y69 ?_))
          refine Y245 ?_
          (repeat(first|refine JL.q (by(apply OQ.ep (b:=0);rfl;rfl;exact h1)) rfl ?_|refine Y68 ?_))
          refine Y246 ?_
          (refine Y17 ?_)
          refine JL.gi (xs:=o.map U8) (fun b' cap'=>[⟨b',Sl.Own 5 1 (n+1) cap' (o.map U8++[U8 32]),true⟩]) Tryz.underlying22 dV rfl rfl rfl rfl (fun _=>rfl) Y642 Y609 Y609 rfl rfl fun bl b1 cap1=>?_
          (refine Y70 ?_)
          exact JE.again (i:=BS.mk i d false o n b cap) (BS.mk (i+1) (d-1) false (o++[32]) (n+1) b1 cap1) ⟨by dsimp only;omega,by dsimp only;omega,by simp[hon],by dsimp only;omega,ha⟩ Y661 Y640 (.keep _ _ _ _ _ _ (fun o h=>by dsimp only;simp only[List.map_append];exact h) (.nil _))
     case false=>
      (refine Y66 ?_)
      refine Y245 ?_
      (repeat(first|refine JL.q Y662 rfl ?_|refine Y68 ?_))
      refine Y245 ?_
      cases hd0:decide ((d:Int)=0)
      · have hd1:¬ d=0:=by have:=of_decide_eq_false hd0;omega
        rw[mR (by rcases hns with h|h;exact absurd h hd1;exact h) (kR 40 h40) (kR 41 h41) hd1] at ha
        (repeat(first|refine JL.q Y664 rfl ?_|refine Y68 ?_))
        refine Y245 ?_
        (refine Y10 ?_)
        exact JE.again (i:=BS.mk i d false o n b cap) (BS.mk (i+1) d false o n b cap) ⟨by dsimp only;omega,hd,hon,by dsimp only;omega,ha⟩ Y661 Y640 (aj.refl _)
      · obtain rfl:d=0:=by have:=of_decide_eq_true hd0;omega
        rw[lR (kR 40 h40) (kR 41 h41),eqc] at ha
        (repeat(first|refine JL.q Y664 rfl ?_|refine Y68 ?_))
        refine Y246 ?_
        (refine Y61 ?_)
        refine JL.gi (xs:=o.map U8) (fun b' cap'=>[⟨b',Sl.Own 5 1 (n+1) cap' (o.map U8++[U8 c]),true⟩]) Tryz.underlying22 dV rfl rfl rfl rfl (fun _=>rfl) Y642 Y609 Y609 rfl rfl fun bl b1 cap1=>?_
        cases h34:decide ((c.toNat:Int)=34)
        all_goals (
         (repeat(first|refine JL.q (by first|(apply OQ.ep (b:=34);rfl;rfl;exact h34)|exact Y323|exact Y324|exact Y337) rfl ?_|refine JC.region ?_|refine JL.nil ?_|refine JE.next ?_|refine JE.ah ?_))
         rw[show decide ((c.toNat:Int)=((34:aq.By).toNat:Int))=_ from h34] at ha
         refine JE.again (i:=BS.mk i 0 false o n b cap) (BS.mk (i+1) 0 _ (o++[c]) (n+1) b1 cap1) ⟨by dsimp only;omega,hd,by simp[hon],by dsimp only;omega,ha⟩ Y661 Y640 (.keep _ _ _ _ _ _ (fun o h=>by dsimp only;simp only[List.map_append];exact h) (.nil _))))
 · have hi':¬ i<s.length:=of_decide_eq_false h
   clear h hi
   rw[List.drop_of_length_le Y609,gW] at ha
   cases h0:decide ((0:Int)<(d:Int)) <;> cases hq:q
   all_goals subst hq
   all_goals (rw[h0] at ha)
   all_goals (repeat(first|refine JL.q (by first|exact Y351|exact Y330|exact Y331|exact Y323) rfl ?_|refine JC.seq ?_|refine JC.region ?_|refine JC.exit ?_|refine JL.nil ?_|refine JE.next ?_|refine JE.ak ?_|refine JE.aC ?_|refine JL.bG rfl rfl ?_|refine JL.aM rfl rfl rfl rfl ?_))
   all_goals refine JC.cond rfl (fun h=>?_) (fun h=>?_)
   all_goals first|(exfalso;revert h;decide)|skip
   all_goals clear h
   all_goals first
    | (have e:dW s=([],3):=ha
       rw[e]
       (refine Y3 ?_)
       refine Y247 ?_
       (repeat(refine JE.ag ?_))
       refine Y265 ?_
       exact fun w' hw=>⟨rfl,hw.aH⟩)
    | (have e:dW s=(o,0):=ha
       rw[e]
       subst hon
       (repeat(first|refine JL.q (by exact Y343) rfl ?_|refine Y57 ?_))
       refine Y247 ?_
       (skip)
       refine Y265 ?_
       exact fun w' hw=>⟨rfl,hw.aH⟩)
theorem Kh{p:aq.By->Bool}:∀ {a b:List aq.By},a.all p=true->(∀ c∈b.head?,p c=false)->(a++b).takeWhile p=a
 | [],[],_,_=>rfl
 | [],c::b,_,h=>by
   rw[List.nil_append,List.takeWhile_cons,if_neg (by rw[h c rfl];decide)]
 | c::a,b,h,k=>by
   rw[List.all_cons,Bool.and_eq_true] at h
   rw[List.cons_append,List.takeWhile_cons,if_pos h.1,Kh h.2 k]
theorem PF{t:List aq.By}{n:Nat}(hn:n+1<t.length)(h:t.getD n 0=60)(hj:∀ j:Nat,n<j->j<t.length->¬ t.getD j 0=60):Q1 t.dropLast=(t.take (t.length-1)).drop (n+1):=by
 rw[List.dropLast_eq_take]
 have hv:(t.take (t.length-1))=(t.take n)++60::(t.take (t.length-1)).drop (n+1):=by
  conv=>lhs;rw[<- List.take_append_drop n (t.take (t.length-1))]
  rw[List.take_take,Nat.min_eq_left Y609]
  congr 1
  rw[List.drop_eq_getElem_cons Y625,List.getElem_take]
  congr 1
  rw[<- h,List.getD_eq_getElem?_getD,List.getElem?_eq_getElem Y609];rfl
 unfold Q1
 conv=>lhs;rw[hv]
 rw[List.reverse_append,List.reverse_cons,List.append_assoc,Kh (b:=[60]++_),List.reverse_reverse]
 · rw[List.all_reverse,List.all_eq_true]
   intro x hx
   obtain⟨k,hk,rfl⟩:=List.mem_iff_getElem.1 hx
   rw[List.length_drop,List.length_take] at hk
   have:=hj (n+1+k) Y609 Y609
   rw[List.getD_eq_getElem?_getD,List.getElem?_eq_getElem Y609] at this
   rw[List.getElem_drop,List.getElem_take]
   simpa using this
 · intro c hc
   simp at hc
   subst hc
   rfl
theorem G8(s:List aq.By)(w:World)(hl:s.length<1000000):Calls Tryz.prog 34 [Z s].toArray w fun e w'=>e=.returned (.tuple #[Z (cH s).1,N (cH s).2])/\Ext w w':=by
 refine enter (n:=92) Tryz.func34 rfl rfl rfl (aa.start w []) ?_
 have cB:=fun w'=>G7 s w' hl
 have hbl:=kV s
 unfold cH
 generalize (dW s).1=x at cB hbl⊢
 generalize (dW s).2=k at cB⊢
 cases hk:decide ((k:Int)=0)
 · rw[if_neg Y656]
   repeat(first|refine JL.q Y665 rfl ?_|refine Y6 ?_)
   refine Y246 ?_
   refine Y24 ?_
   refine Y247 ?_
   refine Y250 ?_
   refine Y265 ?_
   exact Y266
 rw[if_pos Y657]
 have cT:=fun w'=>xV x w' Y609
 have htl:=me x
 generalize trim x=t at cT htl⊢
 have hidx:0<t.length->∀ {n:Nat} {E:Env} {C:World->Prop} {dst:Option Tmp} {ty:TypeId} {pos:String} {aft:Array Edge} {g:Option (Nat × Bool)} {x y:Operand},ev E x=some (Z t)->ev E y=some (N (t.length-1))->OQ Tryz.prog n E C ⟨dst,.index 9 x y,ty,pos,aft,g⟩ (U8 (t.getD (t.length-1) 0)):=fun hp=>dI (s:=t) (i:=t.length-1) Y609
 have hT:oy t=if 0<t.length/\t.getD (t.length-1) 0=62 then(if 60∈t then iF (trim (Q1 t.dropLast)) else([],3)) else iF t:=rfl
 generalize hc:t.getD (t.length-1) 0=c at hidx hT
 cases h0:decide ((0:Int)<(t.length:Int)) <;> cases h62:decide ((c.toNat:Int)=62)
 all_goals (try have hp:0<t.length:=by(have:=of_decide_eq_true h0;omega))
 all_goals (try have hidx:=fun {n:Nat} {E:Env} {C:World->Prop} {dst:Option Tmp} {ty:TypeId} {pos:String} {aft:Array Edge} {g:Option (Nat × Bool)} {x y:Operand}=>hidx hp (n:=n) (E:=E) (C:=C) (dst:=dst) (ty:=ty) (pos:=pos) (aft:=aft) (g:=g) (x:=x) (y:=y))
 all_goals (repeat(first|refine JL.q Y665 rfl ?_|refine Y6 ?_))
 all_goals refine JC.cond rfl (fun h=>by cases h) (fun _=>?_)
 all_goals (repeat(first|refine JL.q (by first|(apply OQ.ai (vs:=[Z x]);exact ve;rfl;exact(fun w' _=>cT w'))|exact Y322|exact Y351|(apply hidx;rfl;rfl)|(apply OQ.ep (b:=62);rfl;rfl;exact h62)|exact Y330|exact Y331|exact Y323|exact Y324|exact Y338) rfl ?_|refine JC.seq ?_|refine JC.region ?_|refine JC.skip ?_|refine JL.nil ?_|refine JE.next ?_|refine JL.bG rfl rfl ?_|refine JL.aM rfl rfl rfl rfl ?_))
 all_goals (
  refine JC.join (ι:={u:List aq.By // oy t=iF u/\u.length<=t.length}) (fun u=>[(0,Z u.1)]) (fun _=>[]) (fun _=>True) ?_ ?_
  · refine JC.cond rfl (fun h=>?_) (fun h=>?_)
    all_goals first|(exfalso;revert h;decide)|skip
    all_goals clear h
    all_goals first
     | (have hno:¬ (0<t.length/\c=62):=by
         first
          | exact fun k=>(by have:=of_decide_eq_false h0;omega)
          | exact fun k=>kR 62 h62 k.2
        rw[if_neg hno] at hT
        (repeat(refine JC.skip ?_))
        exact JE.mid ⟨t,hT,Nat.le_refl _⟩ trivial Y640 (aj.refl _))
     | (rw[if_pos ⟨hp,sK 62 h62⟩] at hT
        (repeat(first|refine JL.q (by first|exact Y322|exact Y323|exact Y324|exact Y338) rfl ?_|refine JC.seq ?_|refine JC.region ?_|refine JC.block ?_|refine JL.nil ?_|refine JE.next ?_))
        refine JC.loop (fun a:Int=>[(0,Z t),(5,I a)]) (fun _=>[]) (fun a=>(a+1).toNat) (fun a=>-1<=a/\a<(t.length:Int)/\∀ j:Nat,a<(j:Int)->j<t.length->¬ t.getD j 0=60) ((t.length-1:Nat):Int) ⟨by omega,by omega,fun j h1 h2=>by omega⟩ Y640 (aj.refl _) ?_
        rintro a ⟨ha1,ha2,hj⟩
        cases g0:decide ((0:Int)<=a)
        · obtain rfl:a=-1:=by have:=of_decide_eq_false g0;omega
          have hm:¬ 60∈t:=fun hm=>by
           obtain⟨j,h1,h2⟩:=List.mem_iff_getElem.1 hm
           refine hj j Y609 h1 ?_
           rw[List.getD_eq_getElem?_getD,List.getElem?_eq_getElem h1,h2];rfl
          rw[if_neg hm] at hT
          rw[hT]
          (repeat(first|refine JL.q (by exact Y372) rfl ?_|refine JL.aM rfl rfl rfl rfl ?_|refine Y71 ?_))
          refine Y245 ?_
          (repeat(first|refine JL.q (by(apply OQ.fV (b:=0) (c:=true);rfl;rfl;rfl)) rfl ?_|refine Y72 ?_))
          refine Y246 ?_
          (refine Y3 ?_)
          refine Y247 ?_
          (repeat(refine JE.ag ?_))
          refine Y265 ?_
          exact Y266
        · obtain⟨n,rfl⟩:=Int.eq_ofNat_of_zero_le (of_decide_eq_true g0)
          have hn:n<t.length:=by omega
          have hidxn:=fun {n:Nat} {E:Env} {C:World->Prop} {dst:Option Tmp} {ty:TypeId} {pos:String} {aft:Array Edge} {g:Option (Nat × Bool)} {x y:Operand}=>dI hn (n:=n) (E:=E) (C:=C) (dst:=dst) (ty:=ty) (pos:=pos) (aft:=aft) (g:=g) (x:=x) (y:=y)
          generalize hcn:t.getD n 0=e at hidxn
          cases g60:decide ((e.toNat:Int)=60)
          · (repeat(first|refine JL.q Y666 rfl ?_|refine JL.bG rfl rfl ?_|refine Y73 ?_))
            refine Y246 ?_
            (repeat(first|refine JL.q (by exact Y369) rfl ?_|refine Y47 ?_))
            refine JE.again (i:=(n:Int)) ((n:Int)-1) ⟨by omega,by omega,fun j h1 h2=>?_⟩ Y609 Y640 (aj.refl _)
            by_cases hjn:j=n
            · subst hjn
              rw[hcn]
              exact kR 60 g60
            · exact hj j Y609 h2
          · have he:e=60:=sK 60 g60
            have hn1:n+1<t.length:=by
             by_cases hh:n=t.length-1
             · subst hh
               rw[hcn,he] at hc
               rw[<- hc] at h62
               exact absurd h62 Y610
             · omega
            have hm:60∈t:=by
             rw[List.getD_eq_getElem?_getD,List.getElem?_eq_getElem hn] at hcn
             exact List.mem_iff_getElem.2 ⟨n,hn,by rw[<- he,<- hcn];rfl⟩
            rw[if_pos hm,PF hn1 (hcn.trans he) (fun j h1 h2=>hj j Y609 h2)] at hT
            have cT2:=fun w'=>xV ((t.take (t.length-1)).drop (n+1)) w' (by rw[List.length_drop,List.length_take];omega)
            have hul:=me ((t.take (t.length-1)).drop (n+1))
            rw[List.length_drop,List.length_take] at hul
            have hneg:decide ((n:Int)<0)=false:=decide_eq_false Y609
            (repeat(first|refine JL.q Y666 rfl ?_|refine JL.bG rfl rfl ?_|refine Y73 ?_))
            refine Y245 ?_
            (repeat(first|refine JL.q (by exact Y370) rfl ?_|refine Y72 ?_))
            refine Y245 ?_
            (repeat(first|refine JL.q (by first|exact Y322|(apply OQ.RM (i:=n+1) (j:=t.length-1);exact Tryz.underlying9;rfl;rfl;rfl;exact Y609;exact Y609)|(apply OQ.ai (vs:=[Z ((t.take (t.length-1)).drop (n+1))]);exact ve;rfl;exact(fun w' _=>cT2 w'))|exact Y323|exact Y324|exact Y337|exact Y338) rfl ?_|refine JC.region ?_|refine JC.skip ?_|refine JL.nil ?_|refine JE.next ?_))
            exact JE.mid ⟨_,hT,by omega⟩ trivial Y640 (aj.refl _))
  · rintro⟨u,hu,hul⟩ _
    dsimp only
    rw[hu]
    have hul2:u.length<1000000:=by omega
    clear hT hu hul
    (refine Y7 ?_)
    refine JC.p9 (ι:=Unit) (fun _=>[(0,Z u),(6,N (fst 64 u))]) (fun _=>[]) (fun _=>True) ?_ ?_
    · refine JC.loop (fun i:Nat=>[(0,Z u),(6,N i)]) (fun _=>[]) (fun i=>u.length-i) (fun i=>i<=u.length/\(u.take i).all (fun d=>!(d==64))=true) 0 ⟨Nat.zero_le _,rfl⟩ Y640 (aj.refl _) ?_
      rintro i ⟨hi,ha⟩
      cases g0:decide ((i:Int)<(u.length:Int))
      · obtain rfl:i=u.length:=by have:=of_decide_eq_false g0;omega
        rw[List.take_length] at ha
        rw[zS 64 u ha]
        (repeat(first|refine JL.q (by(apply OQ.fV;rfl;rfl;exact g0)) rfl ?_|refine JL.aM rfl rfl rfl rfl ?_|refine Y48 ?_))
        refine JC.cond rfl (fun h=>by cases h) (fun h=>?_)
        (refine Y46 ?_)
        exact Y262
      · have hi':i<u.length:=by have:=of_decide_eq_true g0;omega
        have hf:=Dz 64 u hi' ha
        have hx:=eK (fun d=>!(d==(64:aq.By))) u 0 hi'
        rw[ha,Bool.true_and] at hx
        have hidx:=fun {n:Nat} {E:Env} {C:World->Prop} {dst:Option Tmp} {ty:TypeId} {pos:String} {aft:Array Edge} {g:Option (Nat × Bool)} {x y:Operand}=>dI hi' (n:=n) (E:=E) (C:=C) (dst:=dst) (ty:=ty) (pos:=pos) (aft:=aft) (g:=g) (x:=x) (y:=y)
        generalize u.getD i 0=c at hidx hf hx
        rw[eqc] at hf
        rw[eqc] at hx
        cases h1:decide ((c.toNat:Int)=64)
        · (repeat(first|refine JL.q Y667 rfl ?_|refine JL.bG rfl rfl ?_|refine Y50 ?_))
          refine JC.cond rfl (fun h=>?_) (fun h=>by cases h)
          (refine Y51 ?_)
          exact Y263
        · rw[hf h1]
          (repeat(first|refine JL.q Y667 rfl ?_|refine JL.bG rfl rfl ?_|refine Y50 ?_))
          refine JC.cond rfl (fun h=>by cases h) (fun h=>?_)
          (refine Y46 ?_)
          exact Y262
    rintro⟨⟩ _
    have hle:=Kb 64 u
    have hS:iF u=if fst 64 u=u.length\/gM (u.take (fst 64 u))=false\/gM (u.drop (fst 64 u+1))=false then([],3) else(u.take (fst 64 u+1)++(u.drop (fst 64 u+1)).map small,0):=rfl
    generalize fst 64 u=j at hle hS⊢
    have c1:=fun w'=>sI (u.take j) w' Y625
    have c2:=fun w'=>sI (u.drop (j+1)) w' Y632
    have c3:=fun w'=>oQ (u.drop (j+1)) w' Y632
    have l3:(u.take (j+1)).length+((u.drop (j+1)).map small).length<9223372036854775808:=by rw[List.length_take,List.length_map,List.length_drop];omega
    cases g0:decide ((j:Int)=(u.length:Int))
    · have hk:j<u.length:=by have:=of_decide_eq_false g0;omega
      cases g1:gM (u.take j) <;> cases g2:gM (u.drop (j+1))
      all_goals (
       (repeat(first|refine JL.q (by first|exact Y322|(apply OQ.ep;rfl;rfl;exact g0)|exact Y321|exact Y373|(apply OQ.dB (vs:=[Z (u.take j)]);exact ql;rfl;exact c1;exact g1)|(apply OQ.dB (vs:=[Z (u.drop (j+1))]);exact ql;rfl;exact c2;exact g2)|exact Y329|exact Y330|exact Y331|exact Y323|exact Y337) rfl ?_|refine JC.seq ?_|refine JC.region ?_|refine JL.nil ?_|refine JE.next ?_|refine JL.bG rfl rfl ?_|refine JL.aM rfl rfl rfl rfl ?_))
       refine JC.cond rfl (fun h=>?_) (fun h=>?_)
       all_goals first|(exfalso;revert h;decide)|skip
       all_goals clear h
       all_goals first
        | (have e:iF u=([],3):=by
            rw[hS,if_pos]
            first
             | exact Or.inr (Or.inl g1)
             | exact Or.inr (Or.inr g2)
           rw[e]
           (refine Y3 ?_)
           refine Y247 ?_
           (repeat(refine JE.ag ?_))
           refine Y265 ?_
           exact fun w' hw=>⟨rfl,hw.aH⟩)
        | (have e:iF u=(u.take (j+1)++(u.drop (j+1)).map small,0):=by
            rw[hS,if_neg]
            rintro(h|h|h)
            · omega
            · rw[g1] at h;cases h
            · rw[g2] at h;cases h
           rw[e]
           (refine Y38 ?_)
           refine Y267 ?_
           (repeat(first|refine JQ.q (by first|(apply OQ.gu (j:=j+1);exact Tryz.underlying9;rfl;rfl;exact hk)|exact Y373|(apply OQ.ai (vs:=[Z (u.drop (j+1))]);exact nh;rfl;exact(fun w' _=>c3 w'))|(apply OQ.fH;rfl;rfl;exact l3)|exact Y323|exact Y324|exact Y337) rfl ?_|refine JQ.nil ?_|refine JE.next ?_))
           refine Y247 ?_
           (skip)
           refine Y265 ?_
           exact fun w' hw=>⟨rfl,hw.aH⟩))
    · rw[if_pos (Or.inl (by have:=of_decide_eq_true g0;omega))] at hS
      rw[hS]
      (repeat(first|refine JL.q (by(apply OQ.ep;rfl;rfl;exact g0)) rfl ?_|refine JL.aM rfl rfl rfl rfl ?_|refine Y50 ?_))
      refine Y246 ?_
      (refine Y3 ?_)
      refine Y247 ?_
      (repeat(refine JE.ag ?_))
      refine Y265 ?_
      exact fun w' hw=>⟨rfl,hw.aH⟩)
structure IS where
 i:Nat
 q:Bool
 o:List (List aq.By)
 m:Nat
 b5:Nat
 c5:Nat
 x:List aq.By
 n:Nat
 b6:Nat
 c6:Nat
theorem BF:kM Tryz.prog 63=true:=by kernel_rfl
theorem lH:gX Tryz.prog 63=some 2:=by kernel_rfl
theorem Nh:zc Tryz.prog 63=some [Z [],Z []]:=by kernel_rfl
section
variable {n:Nat} {E:Env} {C:World->Prop} {dst:Option Tmp} {ty:TypeId} {pos:String} {aft:Array Edge} {g:Option (Nat × Bool)} {x y:Operand}
theorem OQ.vn:OQ Tryz.prog n E C ⟨dst,.build 63 #[],ty,pos,aft,g⟩ (.agg (pc ([],[])).toArray):=OQ.pure rfl rfl Y636
theorem OQ.PG{a b:List Bt}(hx:ev E x=some (Z a))(hy:ev E y=some (Z b)):OQ Tryz.prog n E C ⟨dst,.build 63 #[(0,x),(1,y)],ty,pos,aft,g⟩ (.agg (pc (a,b)).toArray):=
 OQ.run fun k hk w _=>by
  have h1:=hk.eval hx
  have h2:=hk.eval hy
  have h3:=run_build (P:=Tryz.prog) w 63 #[(0,Z a),(1,Z b)] #[Z a,Z b] Y636
  simp[execOp,h1,h2,Sem.run_bind,h3,pc]
end
structure US where
 i:Nat
 o:List aq.By
 n:Nat
 b:Nat
 cap:Nat
end
section
open Sl aq Tok
def OM(p:Pr):Bool:=dh p.1&&decide (p.1.map small=p.1)&&p.2.all fB
theorem sL(k:List aq.By)(a:gm)(w:World)(ha:a.ok w)(hz:∀ p∈a.l,p.1.length<140737488351233/\p.2.length<140737488351233)(hl:a.l.length<9223372036854775808)(hk:k.length<140737488351233):Calls Tryz.prog 49 [Z k,a.v].toArray w fun e w'=>e=.returned (.bool (dQ k a.l))/\Ext w w':=by
 refine enter (n:=50) Tryz.func49 rfl rfl rfl (aa.start w []) ?_
 refine Y7 ?_
 refine JC.loop (fun i:Nat=>[(0,Z k),(1,a.v),(5,N i)]) (fun _=>[]) (fun i=>a.l.length-i) (fun i=>i<=a.l.length/\(a.l.take i).all OM=true) 0 ⟨Nat.zero_le _,rfl⟩ Y640 (aj.refl _) ?_
 rintro i ⟨hi,ht⟩
 refine Y74 ?_
 refine JC.cond rfl (fun h=>?_) (fun h=>?_)
 · have hi':i<a.l.length:=of_decide_eq_true h
   clear h hi
   have hx:=eK OM a.l ([],[]) hi'
   have hbad:=gY OM a.l ([],[]) hi'
   rw[ht,Bool.true_and] at hx
   obtain⟨z1,z2⟩:=hz _ (lF hi')
   obtain⟨ba,ja,eA,la,ca1,ca2⟩:=ha.at hi'
   have vA:a.v=.slice (some ⟨ba,ja,none⟩) a.l.length a.cap:=by rw[<- eA];rfl
   generalize a.l.getD i ([],[])=p at hx hbad z1 z2 ca1 ca2
   obtain⟨n,v⟩:=p
   dsimp only at hx hbad z1 z2 ca1 ca2
   have c1:=fun w'=>rF n w' Y609
   have c2:=fun w'=>oQ n w' z1
   have c3:=fun w'=>zN v w' Y609
   rw[vA]
   cases h1:dh n <;> cases h2:decide (n.map small=n) <;> cases h3:v.all fB
   all_goals (refine Y75 ?_)
   all_goals refine JC.quiet oL Y636 ?_
   all_goals (repeat(first|refine JQ.q (by first|exact Y374|exact Y375|exact Y376|(apply OQ.dB (vs:=[Z n]);exact oO;rfl;exact c1;exact h1)|(apply OQ.ai (vs:=[Z n]);exact nh;rfl;exact(fun w' _=>c2 w'))|(apply OQ.dB (vs:=[Z v]);exact w6;rfl;exact c3;exact h3)|(apply OQ.lD;rfl;rfl;exact h2)|exact Y329|exact Y330|exact Y331|exact Y323|exact Y377) rfl ?_|refine JQ.nil ?_|refine JE.next ?_|refine JQ.bG rfl rfl ?_|refine JQ.aM rfl rfl rfl rfl ?_))
   all_goals refine JC.cond rfl (fun h=>?_) (fun h=>?_)
   all_goals first|(exfalso;revert h;decide)|skip
   all_goals clear h
   all_goals first
    | (have e:dQ k a.l=false:=by
        have:a.l.all OM=false:=hbad (by unfold OM;rw[h1,h2,h3];rfl)
        show(a.l.all OM&&gy k&&decide (k.map small=k))=false
        rw[this];rfl
       rw[e]
       (refine Y3 ?_)
       refine Y247 ?_
       (refine Y2 ?_)
       exact JE.aK rfl (RV.tmp rfl) fun w' hw=>⟨rfl,hw.aH⟩)
    | (rw[<- vA]
       (refine Y10 ?_)
       exact JE.again (i:=i) (i+1) ⟨hi',by rw[hx];unfold OM;rw[h1,h2,h3];rfl⟩ Y609 Y640 (aj.refl _))
 · have hi':¬ i<a.l.length:=of_decide_eq_false h
   obtain rfl:i=a.l.length:=by omega
   clear h hi hi'
   rw[List.take_length] at ht
   have c1:=fun w'=>G4 k w' Y609
   have c2:=fun w'=>oQ k w' hk
   have e:dQ k a.l=(gy k&&decide (k.map small=k)):=by
    show(a.l.all OM&&gy k&&decide (k.map small=k))=_
    rw[ht,Bool.true_and]
   rw[e]
   cases h1:gy k <;> cases h2:decide (k.map small=k)
   all_goals (repeat(first|refine JL.q (by first|(apply OQ.dB (vs:=[Z k]);exact Dy;rfl;exact c1;exact h1)|(apply OQ.ai (vs:=[Z k]);exact nh;rfl;exact(fun w' _=>c2 w'))|exact Y345|exact Y330|exact Y331|exact Y323|exact Y324) rfl ?_|refine JC.seq ?_|refine JC.region ?_|refine JC.exit ?_|refine JL.nil ?_|refine JE.next ?_|refine JE.ak ?_|refine JE.aC ?_|refine JL.bG rfl rfl ?_|refine JL.aM rfl rfl rfl rfl ?_))
   all_goals refine JC.ret ?_
   all_goals exact JE.aK rfl (RV.tmp rfl) fun w' hw=>⟨rfl,hw.aH⟩
end
section
open Sl
section
variable {P:Program} {n:Nat} {E:Env} {C:World->Prop} {dst:Option Tmp} {t t' ty:TypeId} {pos:String} {aft:Array Edge} {g:Option (Nat × Bool)} {x y:Operand}
end
theorem nk(a b:ay)(w:World)(ha:a.ok w)(hb:b.ok w)(hal:a.l.length<4611686018427387904):Calls Tryz.prog 11 [a.v,b.v].toArray w fun e w'=>e=.returned (.bool (decide (a.l=b.l)))/\Ext w w':=by
 refine enter (n:=26) Tryz.func11 rfl rfl rfl (aa.start w []) ?_
 repeat(first|refine JL.q (by first|exact Y323|exact Y324|exact Y378|(apply OQ.S6;rfl;rfl)) rfl ?_|refine JC.seq ?_|refine JC.region ?_|refine JL.nil ?_|refine JE.next ?_)
 refine JC.cond rfl (fun h=>?_) (fun h=>?_)
 · have h:¬ a.l.length=b.l.length:=by simpa using h
   refine Y3 ?_
   refine Y247 ?_
   refine Y250 ?_
   refine JE.aK rfl (RV.tmp rfl) fun w' hw=>⟨?_,hw.aH⟩
   rw[decide_eq_false (fun e=>h (by rw[e]))]
 · have h:a.l.length=b.l.length:=by simpa using h
   refine Y76 ?_
   refine JC.loop (fun i:Nat=>[(0,a.v),(1,b.v),(5,N i)]) (fun _=>[]) (fun i=>a.l.length-i) (fun i=>i<=a.l.length/\a.l.take i=b.l.take i) 0 ⟨by omega,by simp⟩ Y640 (aj.refl _) ?_
   rintro i ⟨hi,hI⟩
   refine Y77 ?_
   refine JC.cond rfl (fun h2=>?_) (fun h2=>?_)
   · have hi':i<a.l.length:=of_decide_eq_true h2
     clear h2
     obtain⟨ba,ja,hae,hca⟩:=ha.reads.at Y624
     obtain⟨bb,jb,hbe,hcb⟩:=hb.reads.at Y624
     have hca:=hca i _ (dF U8 0 hi')
     have hcb:=hcb i _ (dF U8 0 (show i<b.l.length by omega))
     have hav:a.v=.slice (some ⟨ba,ja,none⟩) a.l.length a.cap:=by rw[<- hae];rfl
     have hbv:b.v=.slice (some ⟨bb,jb,none⟩) b.l.length b.cap:=by rw[<- hbe];rfl
     rw[hav,hbv]
     refine Y75 ?_
     refine Y267 ?_
     repeat(first|refine JQ.q (by first|exact Y379|(apply OQ.dz;exact Tryz.underlying22;exact dD;rfl;rfl;exact(show i<b.l.length by omega))|(apply OQ.aI;exact mM;rfl;exact(block_lt_of_cell hca);exact Y614;exact hca)|(apply OQ.aI;exact mM;rfl;exact(block_lt_of_cell hcb);exact Y614;exact hcb)|(apply OQ.TR;rfl;rfl)|exact Y323) rfl ?_|refine JQ.nil ?_|refine JE.next ?_)
     refine JC.cond rfl (fun h3=>?_) (fun h3=>?_)
     · have h3:¬ a.l.getD i 0=b.l.getD i 0:=by simpa using h3
       refine Y3 ?_
       refine Y247 ?_
       refine Y2 ?_
       refine JE.aK rfl (RV.tmp rfl) fun w' hw=>⟨?_,hw.aH⟩
       rw[decide_eq_false (fun e=>h3 (by rw[e]))]
     · have h3:a.l.getD i 0=b.l.getD i 0:=by simpa using h3
       rw[<- hav,<- hbv]
       refine Y10 ?_
       refine JE.again (i:=i) (i+1) ⟨by omega,?_⟩ Y609 Y640 (aj.refl _)
       have e1:a.l[i]'hi'=b.l[i]'(by omega):=by
        simpa [List.getD,hi',show i<b.l.length by omega] using h3
       rw[List.take_succ_eq_append_getElem hi',List.take_succ_eq_append_getElem (show i<b.l.length by omega),hI,e1]
   · have hi':¬ i<a.l.length:=of_decide_eq_false h2
     obtain rfl:i=a.l.length:=by omega
     rw[List.take_length,h,List.take_length] at hI
     refine Y11 ?_
     refine Y247 ?_
     skip
     refine JE.aK rfl (RV.tmp rfl) fun w' hw=>⟨?_,hw.aH⟩
     rw[decide_eq_true hI]
end
section
open Sl aq gZ
theorem IV:gD Tryz.prog 56=true:=by kernel_rfl
theorem TW:kM Tryz.prog 59=true:=by kernel_rfl
theorem iE:gX Tryz.prog 59=some 5:=by kernel_rfl
def dJ:Nat->World->Part->List Value->Prop
 | 0,_,_,_=>False
 | d+1,w,p,cs=>∃ (ps:gm) (body:ay) (ad:Option Addr) (cap:Nat) (bK:List (List Value)),
    cs=[Z p.kind,ps.v,.int .i64 p.code,body.v,.slice ad p.parts.length cap]/\(ps.ok w/\ps.l=p.ps)/\(body.ok w/\body.l=p.body)/\
    p.parts.length<=cap/\Reads w ad bK.flatten/\bK.length=p.parts.length/\∀ i,i<bK.length->dJ d w (p.parts.getD i default) (bK.getD i [])
theorem dJ.len:∀ {d:Nat} {w:World} {p:Part} {cs:List Value},dJ d w p cs->cs.length=5
 | _+1,_,_,_,⟨_,_,_,_,_,h,_⟩=>by rw[h];rfl
theorem dJ.ext:∀ {d:Nat} {w w':World} {p:Part} {cs:List Value},dJ d w p cs->Ext w w'->dJ d w' p cs
 | d+1,w,w',p,cs,⟨ps,body,ad,cap,bK,h1,h2,h3,h4,h5,h6,h7⟩,hx=>
   ⟨ps,body,ad,cap,bK,h1,⟨h2.1.ext hx,h2.2⟩,⟨h3.1.holds (⟨hx,by simp,by simp⟩:aa w [] [] w') rfl,h3.2⟩,h4,(⟨hx,by simp,by simp⟩:aa w [] [] w').reads h5 (fun _ a _=>by simp),h6,fun i hi=>(h7 i hi).ext hx⟩
theorem dJ.up:∀ {d:Nat} {w:World} {p:Part} {cs:List Value},dJ d w p cs->dJ (d+1) w p cs
 | d+1,w,p,cs,⟨ps,body,ad,cap,bK,h1,h2,h3,h4,h5,h6,h7⟩=>⟨ps,body,ad,cap,bK,h1,h2,h3,h4,h5,h6,fun i hi=>(h7 i hi).up⟩
theorem dJ.mono{d k:Nat}(hk:d<=k){w:World}{p:Part}{cs:List Value}(h:dJ d w p cs):dJ k w p cs:=by
 induction k with
 | zero=>
   obtain rfl:d=0:=by omega
   exact h
 | succ k ih=>
   by_cases e:d=k+1
   · subst e;exact h
   · exact(ih Y609).up
theorem Ki:∀ (bK:List (List Value)) {i k:Nat},(∀ x∈bK,x.length=5)->i<bK.length->k<5->bK.flatten[i*5+k]?=(bK.getD i [])[k]?
 | [],i,k,_,h,_=>by simp at h
 | x::bK,0,k,hl,_,hk=>by
   rw[List.flatten_cons,Nat.zero_mul,Nat.zero_add,List.getElem?_append_left (by rw[hl x Y614];exact hk)]
   rfl
 | x::bK,i+1,k,hl,h,hk=>by
   have hx:=hl x Y614
   rw[List.flatten_cons,List.getElem?_append_right (by rw[hx];omega),hx,show(i+1)*5+k-5=i*5+k by omega,Ki bK (fun y hy=>hl y (by simp[hy])) Y616 hk]
   rfl
theorem zT{d:Nat}{w:World}{bK:List (List Value)}{parts:List Part}{ad:Option Addr}(hr:Reads w ad bK.flatten)(h:∀ i,i<bK.length->dJ d w (parts.getD i default) (bK.getD i [])){i:Nat}(hi:i<bK.length) :
  ∃ b j,ad=some ⟨b,j,none⟩/\b<w.heap.size/\(∀ k u,(bK.getD i [])[k]?=some u->w.cell? ⟨b,j+i*5+k,none⟩=some u):=by
 have hl:∀ x∈bK,x.length=5:=fun x hx=>by
  obtain⟨k,hk,rfl⟩:=List.getElem_of_mem hx
  have:=(h k hk).len
  rwa [List.getD_eq_getElem?_getD,List.getElem?_eq_getElem hk] at this
 have h5:=(h i hi).len
 obtain⟨b,j,e,c⟩:=hr (i*5+0) _ (by rw[Ki bK hl hi Y610];exact List.getElem?_eq_getElem (show 0<(bK.getD i []).length by omega))
 refine⟨b,j,e,block_lt_of_cell c,fun k u hu=>?_⟩
 have hk:k<5:=by have:=(List.getElem?_eq_some_iff.1 hu).1;omega
 obtain⟨b',j',e',c'⟩:=hr (i*5+k) u (by rw[Ki bK hl hi hk];exact hu)
 rw[e] at e'
 cases e'
 rw[Nat.add_assoc]
 exact c'
theorem Kj{α:Type}[Inhabited α]{l:List α}{i:Nat}(h:i<l.length):l.getD i default∈l:=by
 rw[List.getD_eq_getElem?_getD,List.getElem?_eq_getElem h];exact List.getElem_mem h
end
section
open Sl aq
theorem oT:aJ Tryz.prog 35:=⟨_,Tryz.func35,rfl,by kernel_rfl⟩
theorem sM:aJ Tryz.prog 66:=⟨_,Tryz.func66,rfl,by kernel_rfl⟩
theorem sN:aJ Tryz.prog 36:=⟨_,Tryz.func36,rfl,by kernel_rfl⟩
theorem gO:aJ Tryz.prog 67:=⟨_,Tryz.func67,rfl,by kernel_rfl⟩
theorem PI:∀ c:aq.By,wS c=!(decide ((c.toNat:Int)<33)||decide (126<(c.toNat:Int))||decide ((c.toNat:Int)=58)):=by
 have h:∀ c:Fin 256,wS (BitVec.ofNat 8 c.val)=!(decide (((BitVec.ofNat 8 c.val).toNat:Int)<33)||decide (126<((BitVec.ofNat 8 c.val).toNat:Int))||decide (((BitVec.ofNat 8 c.val).toNat:Int)=58)):=by decide +kernel
 intro c
 simpa using h ⟨c.toNat,c.isLt⟩
theorem PJ:∀ c:aq.By,fB c=!(!decide ((c.toNat:Int)=9)&&(decide ((c.toNat:Int)<32)||decide (126<(c.toNat:Int)))):=by
 have h:∀ c:Fin 256,fB (BitVec.ofNat 8 c.val)=!(!decide (((BitVec.ofNat 8 c.val).toNat:Int)=9)&&(decide (((BitVec.ofNat 8 c.val).toNat:Int)<32)||decide (126<((BitVec.ofNat 8 c.val).toNat:Int)))):=by decide +kernel
 intro c
 simpa using h ⟨c.toNat,c.isLt⟩
theorem RU:∀ c:aq.By,bl c=(decide ((c.toNat:Int)=32)||decide ((c.toNat:Int)=9)):=by
 have h:∀ c:Fin 256,bl (BitVec.ofNat 8 c.val)=(decide (((BitVec.ofNat 8 c.val).toNat:Int)=32)||decide (((BitVec.ofNat 8 c.val).toNat:Int)=9)):=by decide +kernel
 intro c
 simpa using h ⟨c.toNat,c.isLt⟩
theorem G9(s:List aq.By)(w:World)(hl:s.length<9223372036854775808):Calls Tryz.prog 35 [Z s].toArray w fun e w'=>e=.returned (.bool (c8 s))/\Ext w w':=by
 refine enter (n:=34) Tryz.func35 rfl rfl rfl (aa.start w []) ?_
 refine Y7 ?_
 refine JC.loop (fun i:Nat=>[(0,Z s),(3,N i)]) (fun _=>[]) (fun i=>s.length-i) (fun i=>i<=s.length/\(s.take i).all wS=true) 0 ⟨Nat.zero_le _,rfl⟩ Y640 (aj.refl _) ?_
 rintro i ⟨hi,ha⟩
 refine Y8 ?_
 refine JC.cond rfl (fun h=>?_) (fun h=>?_)
 · have hi':i<s.length:=of_decide_eq_true h
   clear h hi
   have hx:=eK wS s 0 hi'
   have hbad:=gY wS s 0 hi'
   have hix:=PI (s.getD i 0)
   rw[ha,Bool.true_and] at hx
   have hidx:∀ {n:Nat} {E:Env} {C:World->Prop} {dst:Option Tmp} {ty:TypeId} {pos:String} {aft:Array Edge} {g:Option (Nat × Bool)} {x y:Operand},ev E x=some (Z s)->ev E y=some (N i)->OQ Tryz.prog n E C ⟨dst,.index 9 x y,ty,pos,aft,g⟩ (U8 (s.getD i 0)):=fun hx hy=>OQ.ru Tryz.underlying9 hx hy hi'
   generalize s.getD i 0=c at hx hbad hix hidx
   cases h1:decide ((c.toNat:Int)<33) <;> cases h2:decide (126<(c.toNat:Int)) <;> cases h3:decide ((c.toNat:Int)=58)
   all_goals (repeat(first|refine JL.q (by first|(apply hidx;rfl;rfl)|(apply OQ.fV;rfl;rfl;exact h1)|(apply OQ.cZ;rfl;rfl;exact h2)|(apply OQ.ep;rfl;rfl;exact h3)) rfl ?_|refine JL.bG rfl rfl ?_|refine JL.aM rfl rfl rfl rfl ?_|refine Y15 ?_))
   all_goals refine JC.cond rfl (fun h=>?_) (fun h=>?_)
   all_goals first|(exfalso;revert h;decide)|skip
   all_goals (clear h)
   all_goals first
    | (have hnb:wS c=false:=by rw[hix,h1,h2,h3];rfl
       have e:c8 s=false:=by rw[c8,hbad hnb];rfl
       rw[e]
       (refine Y3 ?_)
       refine Y247 ?_
       (refine Y2 ?_)
       exact JE.aK rfl (RV.tmp rfl) fun w' hw=>⟨rfl,hw.aH⟩)
    | (have hnb:wS c=true:=by rw[hix,h1,h2,h3];rfl
       (refine Y10 ?_)
       exact JE.again (i:=i) (i+1) ⟨hi',by rw[hx,hnb]⟩ Y609 Y640 (aj.refl _))
 · have hi':¬ i<s.length:=of_decide_eq_false h
   obtain rfl:i=s.length:=by omega
   clear h hi hi'
   rw[List.take_length] at ha
   cases h1:decide ((1:Int)<=(s.length:Int)) <;> cases h2:decide ((s.length:Int)<=64)
   all_goals (repeat(first|refine JL.q (by first|exact Y344|(apply OQ.fA (b:=64);rfl;rfl;exact h2)) rfl ?_|refine JL.bG rfl rfl ?_|refine JL.aM rfl rfl rfl rfl ?_|refine Y78 ?_))
   all_goals refine JC.ret ?_
   all_goals refine JE.aK rfl (RV.tmp rfl) fun w' hw=>⟨?_,hw.aH⟩
   all_goals (congr 2;rw[c8,ha];simp only[decide_eq_true_eq,decide_eq_false_iff_not] at h1 h2;simp;omega)
theorem nq{s:List aq.By}{i:Nat}(h:i<s.length){n:Nat}{E:Env}{C:World->Prop}{dst:Option Tmp}{ty:TypeId}{pos:String}{aft:Array Edge}{g:Option (Nat × Bool)}{x y:Operand}(hx:ev E x=some (Z s))(hy:ev E y=some (N i)):OQ Tryz.prog n E C ⟨dst,.index 9 x y,ty,pos,aft,g⟩ (U8 (s.getD i 0)):=OQ.ru Tryz.underlying9 hx hy h
theorem DA(s:List aq.By)(w:World)(hl:s.length<9223372036854775808):Calls Tryz.prog 66 [Z s].toArray w fun e w'=>e=.returned (.bool (s.all fB))/\Ext w w':=by
 refine enter (n:=26) Tryz.func66 rfl rfl rfl (aa.start w []) ?_
 refine Y7 ?_
 refine JC.loop (fun i:Nat=>[(0,Z s),(3,N i)]) (fun _=>[]) (fun i=>s.length-i) (fun i=>i<=s.length/\(s.take i).all fB=true) 0 ⟨Nat.zero_le _,rfl⟩ Y640 (aj.refl _) ?_
 rintro i ⟨hi,ha⟩
 refine Y8 ?_
 refine JC.cond rfl (fun h=>?_) (fun h=>?_)
 · have hi':i<s.length:=of_decide_eq_true h
   clear h hi
   have hx:=eK fB s 0 hi'
   have hbad:=gY fB s 0 hi'
   have hix:=PJ (s.getD i 0)
   rw[ha,Bool.true_and] at hx
   have hidx:=fun {n:Nat} {E:Env} {C:World->Prop} {dst:Option Tmp} {ty:TypeId} {pos:String} {aft:Array Edge} {g:Option (Nat × Bool)} {x y:Operand}=>nq hi' (n:=n) (E:=E) (C:=C) (dst:=dst) (ty:=ty) (pos:=pos) (aft:=aft) (g:=g) (x:=x) (y:=y)
   generalize s.getD i 0=c at hx hbad hix hidx
   cases h1:decide ((c.toNat:Int)=9) <;> cases h2:decide ((c.toNat:Int)<32) <;> cases h3:decide (126<(c.toNat:Int))
   all_goals (repeat(first|refine JL.q Y641 rfl ?_|refine JL.bG rfl rfl ?_|refine JL.aM rfl rfl rfl rfl ?_|refine JL.ic rfl rfl rfl rfl ?_|refine Y15 ?_))
   all_goals refine JC.cond rfl (fun h=>?_) (fun h=>?_)
   all_goals first|(exfalso;revert h;decide)|skip
   all_goals (clear h)
   all_goals first
    | (have hnb:fB c=false:=by rw[hix,h1,h2,h3];rfl
       rw[hbad hnb]
       (refine Y3 ?_)
       refine Y247 ?_
       (refine Y2 ?_)
       exact JE.aK rfl (RV.tmp rfl) fun w' hw=>⟨rfl,hw.aH⟩)
    | (have hnb:fB c=true:=by rw[hix,h1,h2,h3];rfl
       (refine Y10 ?_)
       exact JE.again (i:=i) (i+1) ⟨hi',by rw[hx,hnb]⟩ Y609 Y640 (aj.refl _))
 · have hi':¬ i<s.length:=of_decide_eq_false h
   obtain rfl:i=s.length:=by omega
   clear h hi hi'
   rw[List.take_length] at ha
   rw[ha]
   refine Y11 ?_
   refine Y247 ?_
   exact Y248
theorem iz(c:aq.By)(w:World):Calls Tryz.prog 67 [U8 c].toArray w fun e w'=>e=.returned (.bool (bl c))/\Ext w w':=by
 refine enter (n:=9) Tryz.func67 rfl rfl rfl (aa.start w []) ?_
 rw[RU c]
 cases h1:decide ((c.toNat:Int)=32) <;> cases h2:decide ((c.toNat:Int)=9)
 all_goals (repeat(first|refine JL.q (by first|exact Y352|exact Y353) rfl ?_|refine JL.bG rfl rfl ?_|refine JL.aM rfl rfl rfl rfl ?_|refine Y12 ?_))
 all_goals exact JC.ret (JE.aK rfl (RV.tmp rfl) fun w' hw=>⟨rfl,hw.aH⟩)
theorem DB(s:List aq.By)(w:World)(hl:s.length<9223372036854775808):Calls Tryz.prog 36 [Z s].toArray w fun e w'=>e=.returned (.bool (fC s))/\Ext w w':=by
 refine enter (n:=30) Tryz.func36 rfl rfl rfl (aa.start w []) ?_
 have cS:=fun w'=>DA s w' hl
 have hv:fC s=(s.all fB&&(decide ((s.length:Int)<=8192)&&(decide ((s.length:Int)=0)||(!bl (s.getD 0 0)&&!bl (s.getD (s.length-1) 0))))):=by
  unfold fC
  rw[Bool.and_assoc]
  congr 2
  · exact Y255
  · congr 1
    exact Y255
 rw[hv]
 cases h3:decide ((s.length:Int)=0)
 · have hp:0<s.length:=by have:=of_decide_eq_false h3;omega
   have i0:=fun {n:Nat} {E:Env} {C:World->Prop} {dst:Option Tmp} {ty:TypeId} {pos:String} {aft:Array Edge} {g:Option (Nat × Bool)} {x y:Operand}=>nq hp (n:=n) (E:=E) (C:=C) (dst:=dst) (ty:=ty) (pos:=pos) (aft:=aft) (g:=g) (x:=x) (y:=y)
   have i1:=fun {n:Nat} {E:Env} {C:World->Prop} {dst:Option Tmp} {ty:TypeId} {pos:String} {aft:Array Edge} {g:Option (Nat × Bool)} {x y:Operand}=>nq (s:=s) (i:=s.length-1) Y609 (n:=n) (E:=E) (C:=C) (dst:=dst) (ty:=ty) (pos:=pos) (aft:=aft) (g:=g) (x:=x) (y:=y)
   have b0:=fun w'=>iz (s.getD 0 0) w'
   have b1:=fun w'=>iz (s.getD (s.length-1) 0) w'
   generalize s.getD 0 0=c0 at i0 b0⊢
   generalize s.getD (s.length-1) 0=c1 at i1 b1⊢
   cases h1:s.all fB <;> cases h2:decide ((s.length:Int)<=8192) <;> cases h4:bl c0 <;> cases h5:bl c1
   all_goals (repeat(first|refine JL.q (by first|exact Y380|(apply OQ.dB (vs:=[U8 c0]);exact gO;rfl;exact b0;exact h4)|(apply OQ.dB (vs:=[U8 c1]);exact gO;rfl;exact b1;exact h5)|exact Y322|(apply OQ.fA (b:=8192);rfl;rfl;exact h2)|(apply OQ.ep (b:=0);rfl;rfl;exact h3)|(apply i0;rfl;rfl)|(apply i1;rfl;rfl)|exact Y329|exact Y330|exact Y331|exact Y323|exact Y324|exact Y338) rfl ?_|refine JC.seq ?_|refine JC.region ?_|refine JL.nil ?_|refine JE.next ?_|refine JL.bG rfl rfl ?_|refine JL.aM rfl rfl rfl rfl ?_|refine JL.ic rfl rfl rfl rfl ?_))
   all_goals exact JC.ret (JE.aK rfl (RV.tmp rfl) fun w' hw=>⟨rfl,hw.aH⟩)
 · cases h1:s.all fB <;> cases h2:decide ((s.length:Int)<=8192)
   all_goals (repeat(first|refine JL.q (by first|exact Y380|(apply OQ.fA (b:=8192);rfl;rfl;exact h2)|(apply OQ.ep (b:=0);rfl;rfl;exact h3)) rfl ?_|refine JL.bG rfl rfl ?_|refine JL.aM rfl rfl rfl rfl ?_|refine JL.ic rfl rfl rfl rfl ?_|refine Y26 ?_))
   all_goals exact JC.ret (JE.aK rfl (RV.tmp rfl) fun w' hw=>⟨rfl,hw.aH⟩)
theorem BG(a b:List aq.By){i:Nat}(ha:i<a.length)(hb:i<b.length)(h:(a.take i).map small=(b.take i).map small)(k:small (a.getD i 0)=small (b.getD i 0)):(a.take (i+1)).map small=(b.take (i+1)).map small:=by
 rw[eD a ha,eD b hb,List.map_append,List.map_append,h,List.map_singleton,List.map_singleton,k]
theorem He(a b:List aq.By){i:Nat}(ha:i<a.length)(hb:i<b.length)(k:¬ small (a.getD i 0)=small (b.getD i 0)):bY a b=false:=by
 refine decide_eq_false fun h=>k ?_
 have:=congrArg (fun l=>l[i]?) h
 simp only[List.getElem?_map,List.getElem?_eq_getElem ha,List.getElem?_eq_getElem hb,Option.map_some,Option.some.injEq] at this
 rw[List.getD_eq_getElem?_getD,List.getD_eq_getElem?_getD,List.getElem?_eq_getElem ha,List.getElem?_eq_getElem hb]
 exact this
end
end Go.Proofs.YtdabhneehconeaaGreatDoor
