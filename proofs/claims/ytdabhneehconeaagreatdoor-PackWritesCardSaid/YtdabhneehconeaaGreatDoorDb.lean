/-
  Of no statement by itself: the texts Slu, Slg, Slh, Slk, Slj, Slm, Slt, Slo, Sli, Slv, Slq, Slna, FieA, LsP, Slr, Sls, Slp, Slsu, Slfv, Typ, LsA, Slac, TokC, TokW, TkA, Prs in one.
  Conditions: each theorem's own.
-/
import Derived.Test.YtdabhneehconeaaGreatDoorDa
import Derived.Stop.BytesEq
import Derived.Laws.StructEq
import Derived.Laws.MakeOwn
import Derived.Lib.ConvBytes
import Derived.Great.FillDense
import Derived.Laws.Externs
import Derived.Laws.BytesString
import Derived.DeepKeys
import Derived.Lib.SlTrimSet
import Derived.Lib.IndexAny
import Derived.Deep.AppendSrc
import Derived.Laws.Slices
import Derived.Laws.Strings2
import Derived.ScopeJumps
import Derived.Test.YtdabhneehconeaaGreatDoorProg
import Derived.Shelf.Strings.SlTrimAscii
set_option linter.unusedSimpArgs false
set_option linter.unusedVariables false
set_option maxRecDepth 10000
set_option maxHeartbeats 8000000
open Go.Proofs.YtdabhneehconeaaGreatDoor.YY
namespace Go.Proofs.YtdabhneehconeaaGreatDoor
section
namespace Sl
open Extern.Stop (cell)
section
variable {P:Program} {n:Nat} {w0:World} {S:List Nat} {ops:Array Oper} {Q:Exit->Act->World->Prop} {l:List Oper} {E:Env} {M M':List aL} {C:World->Prop}
variable {dst:Option Tmp} {d b j:Nat} {op:Op} {t t' ty e:TypeId} {pos:String} {aft:Array Edge} {g:Option (Nat × Bool)} {v u:Value} {x y z:Operand} {want:Bool}
theorem uJ{o:Oper}{j:Nat}{want b:Bool}(ho:o.guard=some (j,want))(h:kr ops E j=some b)(hf:iu ops n j=true){a:Act}(ha:bF n E a):Region.wanted o (yielded ops a.tmps)=(b==want):=by
 simp only[Region.wanted,ho,uD h ha (m6 hf)]
 cases b <;> cases want <;> rfl
theorem JL.bG{dst:Option Nat}(hg:kr ops E j=some want)(hf:iu ops n j=true)(h:JL P n w0 S ops Q (⟨dst,op,ty,pos,aft,none⟩::l) E M):JL P n w0 S ops Q (⟨dst,op,ty,pos,aft,some (j,want)⟩::l) E M:=
 ⟨fun a w ha hw=>by
  have h1:=h.go a w ha hw
  unfold wpList at h1⊢
  rw[uJ rfl hg hf ha]
  simp only[beq_self_eq_true,if_true]
  rw[show Region.wanted ⟨dst,op,ty,pos,aft,none⟩ (yielded ops a.tmps)=true from rfl,if_pos rfl] at h1
  exact h1⟩
theorem JQ.bG{Φ:Act->Prop}{dst:Option Nat}(hg:kr ops E j=some want)(hf:iu ops n j=true)(h:JQ P n w0 S ops M Φ (⟨dst,op,ty,pos,aft,none⟩::l) E):JQ P n w0 S ops M Φ (⟨dst,op,ty,pos,aft,some (j,want)⟩::l) E:=
 ⟨fun a ha=>by
  have h1:=h.go a ha
  unfold wpQuiet at h1⊢
  rw[uJ rfl hg hf ha]
  simp only[beq_self_eq_true,if_true]
  rw[show Region.wanted ⟨dst,op,ty,pos,aft,none⟩ (yielded ops a.tmps)=true from rfl,if_pos rfl] at h1
  exact h1⟩
theorem OQ.az(hc:ev E z=some (.bool true))(hx:ev E x=some v):OQ P n E C ⟨dst,.pick z x y,ty,pos,aft,g⟩ v:=
 OQ.run fun a ha w _=>by
  have h1:=ha.eval hc
  have h2:=ha.eval hx
  simp[execOp,h1,h2,asBool]
theorem OQ.av(hc:ev E z=some (.bool false))(hy:ev E y=some v):OQ P n E C ⟨dst,.pick z x y,ty,pos,aft,g⟩ v:=
 OQ.run fun a ha w _=>by
  have h1:=ha.eval hc
  have h2:=ha.eval hy
  simp[execOp,h1,h2,asBool]
theorem OQ.not{c:Bool}(hx:ev E x=some (.bool c)):OQ P n E C ⟨dst,.unOp .not t x,ty,pos,aft,g⟩ (.bool (!c)):=
 OQ.run fun a ha w _=>by
  have h1:=ha.eval hx
  simp[execOp,h1,Op.unary]
theorem OQ.xL{k:IntKind}{a b:Int}(hx:ev E x=some (.int k a))(hy:ev E y=some (.int k b))(h:a=b):OQ P n E C ⟨dst,.binOp .eql t x y t',ty,pos,aft,g⟩ (.bool true):=
 (decide_eq_true h:decide (a=b)=true)▸OQ.SK hx hy
theorem OQ.oB{k:IntKind}{a b:Int}(hx:ev E x=some (.int k a))(hy:ev E y=some (.int k b))(h:¬ a=b):OQ P n E C ⟨dst,.binOp .eql t x y t',ty,pos,aft,g⟩ (.bool false):=
 (decide_eq_false h:decide (a=b)=false)▸OQ.SK hx hy
theorem OQ.oJ{a b:Nat}(hx:ev E x=some (N a))(hy:ev E y=some (N b))(h:b<a):OQ P n E C ⟨dst,.binOp .gtr t x y t',ty,pos,aft,g⟩ (.bool true):=
 (decide_eq_true h:decide (b<a)=true)▸OQ.uH hx hy
theorem OQ.zx{a b:Nat}(hx:ev E x=some (N a))(hy:ev E y=some (N b))(h:¬ b<a):OQ P n E C ⟨dst,.binOp .gtr t x y t',ty,pos,aft,g⟩ (.bool false):=
 (decide_eq_false h:decide (b<a)=false)▸OQ.uH hx hy
theorem OQ.ri{a b:Nat}(hx:ev E x=some (N a))(hy:ev E y=some (N b))(h:a<b):OQ P n E C ⟨dst,.binOp .lss t x y t',ty,pos,aft,g⟩ (.bool true):=
 (decide_eq_true h:decide (a<b)=true)▸OQ.dR hx hy
theorem OQ.Dj{a b:Nat}(hx:ev E x=some (N a))(hy:ev E y=some (N b))(h:¬ a<b):OQ P n E C ⟨dst,.binOp .lss t x y t',ty,pos,aft,g⟩ (.bool false):=
 (decide_eq_false h:decide (a<b)=false)▸OQ.dR hx hy
theorem OQ.Ug{a c:Bool}(hu:P.underlying t=some .bool)(hx:ev E x=some (.bool a))(hy:ev E y=some (.bool c)):OQ P n E C ⟨dst,.binOp .eql t x y t',ty,pos,aft,g⟩ (.bool (a==c)):=
 OQ.run fun ac ha w _=>by
  have h1:=ha.eval hx
  have h2:=ha.eval hy
  have h3:=run_equalIn_bool (P:=P) w 9999 t a c hu
  simp[execOp,h1,h2,eqGuard,binOp,Op.equal,Op.maxDepth,h3]
theorem MP(r q:List (BitVec 8)):(r.map UInt8.ofBitVec==q.map UInt8.ofBitVec)=decide (r=q):=by
 rw[Bool.eq_iff_iff]
 simp only[beq_iff_eq,decide_eq_true_eq]
 constructor
 · intro h
   have:=congrArg (List.map UInt8.toBitVec) h
   rw[List.map_map,List.map_map] at this
   have hid:(UInt8.toBitVec ∘ UInt8.ofBitVec)=(id:BitVec 8->BitVec 8):=rfl
   rwa [hid,List.map_id,List.map_id] at this
 · rintro rfl;rfl
def Mn(e:TypeId)(r:List Value):Obj->Prop:=fun o=>∃ fr,o=.cells r.toArray e fr
theorem Mn.all{r:List Value}:∀ o,Mn e r o->dy o 0 r:=by
 rintro o ⟨fr,rfl⟩
 exact⟨_,_,_,rfl,fun i _=>by simp⟩
theorem JL.mark{r:List Value}{te:TypeId}{len cap:Nat}(hu:P.underlying t=some (.slice e))(he:P.underlying e=some (.int .u8))(hx:ev E x=some (.slice (some ⟨b,0,none⟩) len cap))(hup:ki M b (Row te r) (Mn te r) M')(hd:Nat.blt d n=true)
  (k:JL P n w0 S ops Q l ((d,.slice (some ⟨b,0,none⟩) len cap)::E) M'):JL P n w0 S ops Q (⟨some d,.convert t t x,ty,pos,aft,none⟩::l) E M:=
 ⟨fun a w ha hw=>wpList_plain rfl fun K hK=>by
  obtain⟨o,ho,hA⟩:=hw.get hup.has
  subst hA
  have h1:=ha.eval hx
  have h3:∀ w,(underlying t).run P w=.ok (.slice e) w:=run_underlying hu
  have h4:∀ w,(underlying e).run P w=.ok (.int .u8) w:=run_underlying he
  have hsh:w.shape? b=some (te,r.length):=by simp[World.shape?,ho]
  have hrun:(convert t t (.slice (some ⟨b,0,none⟩) len cap)).run P w=.ok (.slice (some ⟨b,0,none⟩) len cap) (w.freeze { block:=b,off:=r.length } 1):=by
   simp[convert,Sem.run_bind,h3,h4,markStringish,shape,freeze,Sem.run,hsh]
  unfold Oper.wp
  simp only[execOp,h1,Sem.run_bind,hrun,Result.andThen_ok]
  refine hK _ _ (k.go _ _ (ha.put d _ hd) (hw.write hup (o':=.cells r.toArray te (r.length,r.length+1)) ⟨_,rfl⟩ ?_ (by simp[World.freeze]) (fun q hq=>?_) rfl rfl rfl))
  · simp[World.freeze,Array.getElem?_modify,ho]
  · simp[World.freeze,Array.getElem?_modify,Ne.symm hq]⟩
end
end Sl
end
section
namespace Sl
abbrev X:=Nat × Nat
theorem JI{f:Nat->Value}{E:Env}(h:∀ p∈E,f p.1=p.2){p:Nat × Value}(hp:p∈E):lk E p.1=some p.2:=by
 induction E with
 | nil=>cases hp
 | cons q E ih=>
   simp only[lk]
   by_cases e:q.1=p.1
   · have h1:=h q Y614
     have h2:=h p hp
     rw[e] at h1
     simp[e,<- h1,<- h2]
   · have:Nat.beq q.1 p.1=false:=Bool.eq_false_iff.2 fun h=>e (Nat.eq_of_beq_eq_true h)
     rw[this]
     refine ih (fun q hq=>h q Y618) ?_
     simp only[List.mem_cons] at hp
     rcases hp with rfl|hp
     · exact absurd rfl e
     · exact hp
theorem Po{E:Env}{t:Nat}{v:Value}(h:lk E t=some v):(t,v)∈E:=by
 induction E with
 | nil=>simp[lk] at h
 | cons q E ih=>
   simp only[lk] at h
   by_cases e:q.1=t
   · subst e
     simp at h
     subst h
     simp
   · have:Nat.beq q.1 t=false:=Bool.eq_false_iff.2 fun h=>e (Nat.eq_of_beq_eq_true h)
     rw[this] at h
     simp[ih h]
theorem bF.of{n:Nat}{E:Env}{a:Act}(h1:a.tmps.size=n)(h2:a.defers=[])(h:∀ p∈E,a.tmps.getD p.1 undef=p.2):bF n E a:=⟨h1,h2,fun _ _ hl=>h _ (Po hl)⟩
theorem bF.mem{n:Nat}{E:Env}{a:Act}{f:Nat->Value}(h:bF n E a)(hf:∀ p∈E,f p.1=p.2){p:Nat × Value}(hp:p∈E):a.tmps.getD p.1 undef=p.2:=h.all _ _ (JI hf hp)
structure kN (w0:World) (S:List Nat) (L:Nat->Prop) (f:Nat->List aL) (w:World):Prop where
 aH:pV S w0 w
 all:∀ j,L j->∀ e∈f j,(∃ o,w.heap[e.b]?=some o/\e.A o)/\(e.wr=true->e.b∈S\/w0.heap.size<=e.b)
 nodup:∀ j,L j->((f j).map aL.b).Nodup
 apart:∀ j k,j≠k->L j->L k->∀ e∈f j,∀ e'∈f k,e.b≠e'.b
section
variable {w0 w:World} {S:List Nat} {L:Nat->Prop} {f:Nat->List aL}
theorem kN.to(h:kN w0 S L f w)(Js:List Nat)(hn:Js.Nodup)(hL:∀ j∈Js,L j):aa w0 S (Js.flatMap f) w:=by
 refine⟨h.aH,?_,fun e he=>?_⟩
 · induction Js with
   | nil=>simp
   | cons j Js ih=>
     rw[List.flatMap_cons,List.map_append,List.nodup_append]
     refine⟨h.nodup j (hL j Y614),ih (List.nodup_cons.1 hn).2 (fun k hk=>hL k (by simp[hk])),fun b hb b' hb'=>?_⟩
     simp only[List.mem_map,List.mem_flatMap] at hb hb'
     obtain⟨e,he,rfl⟩:=hb
     obtain⟨e',⟨k,hk,he'⟩,rfl⟩:=hb'
     have hjk:j≠k:=fun e=>(List.nodup_cons.1 hn).1 (e▸hk)
     exact h.apart j k hjk (hL j Y614) (hL k (by simp[hk])) e he e' he'
 · obtain⟨j,hj,he⟩:=List.mem_flatMap.1 he
   exact h.all j (hL j hj) e he
theorem Dk{Js:List Nat}(h:((Js.flatMap f).map aL.b).Nodup):(∀ j∈Js,((f j).map aL.b).Nodup)/\∀ j k,j≠k->j∈Js->k∈Js->∀ e∈f j,∀ e'∈f k,e.b≠e'.b:=by
 induction Js with
 | nil=>simp
 | cons i Js ih=>
   rw[List.flatMap_cons,List.map_append,List.nodup_append] at h
   obtain⟨h1,h2,h3⟩:=h
   obtain⟨i1,i2⟩:=ih h2
   have h4:∀ k∈Js,∀ e∈f i,∀ e'∈f k,e.b≠e'.b:=fun k hk e he e' he'=>
    h3 e.b (List.mem_map.2 ⟨e,he,rfl⟩) e'.b (List.mem_map.2 ⟨e',List.mem_flatMap.2 ⟨k,hk,he'⟩,rfl⟩)
   refine⟨fun j hj=>?_,fun j k hjk hj hk e he e' he'=>?_⟩
   · simp only[List.mem_cons] at hj
     rcases hj with rfl|hj
     · exact h1
     · exact i1 j hj
   · simp only[List.mem_cons] at hj hk
     rcases hj with rfl|hj
     · rcases hk with rfl|hk
       · exact absurd rfl hjk
       · exact h4 k hk e he e' he'
     · rcases hk with rfl|hk
       · exact(h4 j hj e' he' e he).symm
       · exact i2 j k hjk hj hk e he e' he'
theorem kN.of{Js:List Nat}(h:aa w0 S (Js.flatMap f) w)(hL:∀ j,L j->j∈Js):kN w0 S L f w:=by
 obtain⟨h1,h2⟩:=Dk h.nodup
 exact⟨h.aH,fun j hj e he=>h.all e (List.mem_flatMap.2 ⟨j,hL j hj,he⟩),fun j hj=>h1 j (hL j hj),fun j k hjk hj hk=>h2 j k hjk (hL j hj) (hL k hk)⟩
end
theorem A7{l:List Nat}{p q:Nat->Bool}(h:∀ j∈l,q j=p j):l.countP q=l.countP p:=by
 induction l with
 | nil=>rfl
 | cons a l ih=>simp only[List.countP_cons,h a Y614,ih fun j hj=>h j (by simp[hj])]
theorem uK{l:List Nat}{p q:Nat->Bool}{i:Nat}(hn:l.Nodup)(hi:i∈l)(h1:p i=true)(h2:q i=false)(h3:∀ j,j≠i->q j=p j):l.countP q+1=l.countP p:=by
 induction l with
 | nil=>cases hi
 | cons a l ih=>
   simp only[List.countP_cons]
   by_cases e:a=i
   · subst e
     have:=A7 (l:=l) (p:=p) (q:=q) fun j hj=>h3 j fun e=>(List.nodup_cons.1 hn).1 (e▸hj)
     simp[h1,h2,this]
   · have hi':i∈l:=by
      simp only[List.mem_cons] at hi
      rcases hi with rfl|hi
      · exact absurd rfl e
      · exact hi
     have:=ih (List.nodup_cons.1 hn).2 hi'
     rw[h3 a e]
     omega
variable {Y:Type}
structure dX (Y:Type) where
 E0:Env
 N:Nat
 v:Nat->Y->Value
 M:Nat->Y->List aL
 need:Nat->List (Nat × Nat)
 pY:Nat->List Nat
 zy:Nat->List Nat
 src:Nat->Option Nat
 E1:Nat->Env
def behind(o:Oper)(j:Nat):Bool:=o.after.toList.any fun e=>e.on==j&&Region.binds .any e
def gE(l:List Oper)(j:Nat):Option Nat:=match l[j]? with|some q=>q.dst|none=>none
def ff(l:List Oper)(j i:Nat):Bool:=match l[j]? with|some q=>behind q i|none=>false
def pZ:List Nat->Bool
 | []=>true
 | a::l=>!l.contains a&&pZ l
theorem lZ{l:List Nat}(h:pZ l=true):l.Nodup:=by
 induction l with
 | nil=>simp
 | cons a l ih=>
   simp only[pZ,Bool.and_eq_true,Bool.not_eq_true',List.contains_eq_mem,decide_eq_false_iff_not] at h
   exact List.nodup_cons.2 ⟨h.1,ih h.2⟩
def rj(l:List Oper)(E0:Env)(i:Nat):Option Nat->Bool
 | some d=>(List.range l.length).all (fun k=>k==i||gE l k != some d)&&E0.all fun p=>p.1 != d
 | none=>true
def Fk(o:Oper):Option Nat->Bool
 | some k=>behind o k
 | none=>true
def dX.Pp(g:dX Y)(l:List Oper)(i:Nat):Bool:=
 (g.E1 i).all fun p=>(List.range l.length).all fun k=>gE l k != some p.1||(k != i&&ff l k i)
def dX.rm(g:dX Y)(l:List Oper)(i:Nat)(o:Oper):Bool:=
 (((g.need i).all (fun p=>behind o p.1&&gE l p.1==some p.2)&&Fk o (g.src i))&&g.Pp l i) &&
 ((g.pY i).all (fun j=>decide (j<g.N)&&(decide (l.length<=j)||behind o j)) &&
 ((g.zy i).all (fun j=>(g.pY i).contains j) &&
 ((List.range l.length).all (fun k=>k==i||(g.zy k).all fun j=>!(g.pY i).contains j||ff l k i) &&
 (pZ (g.pY i)&&(o.after.toList.all (fun e=>!Region.binds .any e||decide (e.on<i))&&rj l g.E0 i o.dst)))))
def dX.iU(g:dX Y)(l:List Oper):Nat->List Oper->Bool
 | _,[]=>true
 | i,o::r=>g.rm l i o&&g.iU l (i+1) r
theorem dX.fG{g:dX Y}{l:List Oper}:∀ {r:List Oper} {i:Nat},g.iU l i r=true->∀ {j o},r[j]?=some o->g.rm l (i+j) o=true
 | [],_,_,j,o,h=>by simp at h
 | q::r,i,hk,j,o,h=>by
   simp only[dX.iU,Bool.and_eq_true] at hk
   cases j with
   | zero=>
     simp only[List.getElem?_cons_zero,Option.some.injEq] at h
     subst h
     exact hk.1
   | succ j=>
     have:=dX.fG hk.2 (j:=j) (o:=o) Y616
     rwa [show i+1+j=i+(j+1) by omega] at this
def slot(d:Option Nat)(v:Value):Env:=match d with|some d=>[(d,v)]|none=>[]
def dX.RA(g:dX Y)(P:Program)(n:Nat)(w0:World)(S:List Nat)(l:List Oper)(i:Nat)(o:Oper):Prop:=
 ∀ (x:Nat->Y) (EF:Env) (MF:List aL) (Q:Exit->Act->World->Prop),
   (∀ xi:Y,(∀ k,g.src i=some k->xi=x k)->JE n w0 S Q .normal (slot o.dst (g.v i xi)++((g.need i).map (fun p=>(p.2,g.v p.1 (x p.1)))++(g.E0++(g.E1 i++EF)))) (g.M i xi++(((g.pY i).filter fun j=>!(g.zy i).contains j).flatMap (fun j=>g.M j (x j))++MF)))->
   JL P n w0 S l.toArray Q [o] ((g.need i).map (fun p=>(p.2,g.v p.1 (x p.1)))++(g.E0++(g.E1 i++EF))) ((g.pY i).flatMap (fun j=>g.M j (x j))++MF)
def dX.uL(g:dX Y)(P:Program)(n:Nat)(w0:World)(S:List Nat)(l:List Oper):Nat->List Oper->Prop
 | _,[]=>True
 | i,o::r=>g.RA P n w0 S l i o/\g.uL P n w0 S l (i+1) r
theorem dX.p5{g:dX Y}{P:Program}{n:Nat}{w0:World}{S:List Nat}{l:List Oper}:∀ {r:List Oper} {i:Nat},g.uL P n w0 S l i r->∀ {j o},r[j]?=some o->g.RA P n w0 S l (i+j) o
 | [],_,_,j,o,h=>by simp at h
 | q::r,i,hk,j,o,h=>by
   cases j with
   | zero=>
     simp only[List.getElem?_cons_zero,Option.some.injEq] at h
     subst h
     exact hk.1
   | succ j=>
     have:=dX.p5 hk.2 (j:=j) (o:=o) Y616
     rwa [show i+1+j=i+(j+1) by omega] at this
def dX.live(g:dX Y)(m:Nat)(done:Array Bool)(j:Nat):Prop:=j<g.N/\(m<=j\/done.getD j false=true)/\∀ k,done.getD k false=true->j ∉ g.zy k
structure dX.Inv (g:dX Y) (n:Nat) (w0:World) (S:List Nat) (l:List Oper) (done:Array Bool) (x:Nat->Y) (a:Act) (w:World):Prop where
 size:a.tmps.size=n
 defers:a.defers=[]
 uM:done.size=l.length
 base:∀ p∈g.E0,a.tmps.getD p.1 undef=p.2
 first:∀ j,j<l.length->done.getD j false=false->∀ p∈g.E1 j,a.tmps.getD p.1 undef=p.2
 vals:∀ j d,done.getD j false=true->gE l j=some d->a.tmps.getD d undef=g.v j (x j)
 rel:∀ j k,done.getD j false=true->g.src j=some k->x j=x k
 down:∀ j i,done.getD j false=true->ff l j i=true->done.getD i false=true
 mem:kN w0 S (g.live l.length done) (fun j=>g.M j (x j)) w
section
variable {P:Program} {n:Nat} {w0:World} {S:List Nat} {Q:Exit->Act->World->Prop} {E:Env} {M:List aL} {g:dX Y} {l:List Oper}
theorem A8{done:Array Bool}{i j:Nat}(hi:i<done.size):(done.setIfInBounds i true).getD j false=(decide (j=i)||done.getD j false):=by
 by_cases e:j=i
 · subst e
   simp[hi]
 · simp[e,Ne.symm e]
theorem dX.run(hok:g.iU l 0 l=true)(hj:g.uL P n w0 S l 0 l)
  (hend:∀ done x a w,g.Inv n w0 S l done x a w->(∀ j,j<l.length->done.getD j false=true)->Q .normal a w) :
  ∀ (f:Nat) (done:Array Bool) (x:Nat->Y) (a:Act) (w:World),f=(List.range l.length).countP (fun j=>!done.getD j false)->g.Inv n w0 S l done x a w->wpAny P .any l.toArray Q f done a w:=by
 have hrdy:∀ done:Array Bool,done.size=l.length->Region.ready .any l.toArray done=[]->∀ j,j<l.length->done.getD j false=true:=by
  intro done hds hr j
  induction j using Nat.strongRecOn with
  | _ j ih=>
    intro hjl
    cases hd:done.getD j false with
    | true=>rfl
    | false=>
      obtain⟨o,ho⟩:∃ o,l[j]?=some o:=⟨_,List.getElem?_eq_getElem hjl⟩
      have hk:=dX.fG hok ho
      simp only[dX.rm,Bool.and_eq_true,Nat.zero_add] at hk
      have hkk:=hk.2.2.2.2.2.1
      have:j∈Region.ready .any l.toArray done:=by
       rw[mem_ready]
       refine⟨?_,o,by simpa using ho,fun e he hb=>?_⟩
       · rw[Array.getD_eq_getD_getElem?,Array.getElem?_eq_getElem Y609] at hd⊢
         simpa using hd
       · have:=List.all_eq_true.1 hkk e Y629
         simp only[hb,Bool.not_true,Bool.false_or,decide_eq_true_eq] at this
         exact ih e.on this Y609
      rw[hr] at this
      cases this
 intro f
 induction f with
 | zero=>
   intro done x a w hf hI
   have hall:∀ j,j<l.length->done.getD j false=true:=fun j hjl=>by
    have:=List.countP_eq_zero.1 hf.symm j (List.mem_range.2 hjl)
    simpa using this
   refine⟨?_,hend done x a w hI hall⟩
   refine List.eq_nil_iff_forall_not_mem.2 fun i hi=>?_
   obtain⟨hu,o,ho,_⟩:=mem_ready.1 hi
   have hil:i<l.length:=by
    have:=(Array.getElem?_eq_some_iff.1 ho).1
    simpa using this
   have:=hall i hil
   rw[Array.getD_eq_getD_getElem?,Array.getElem?_eq_getElem (by have:=hI.uM;omega)] at hu this
   simp only[Option.getD_some] at hu this
   rw[hu] at this
   cases this
 | succ f ih=>
   intro done x a w hf hI
   have hds:=hI.uM
   refine⟨fun h0=>hend done x a w hI (hrdy done hds h0),fun i hi=>?_⟩
   obtain⟨hu,o,ho,hbe⟩:=mem_ready.1 hi
   have hil:i<l.length:=by
    have:=(Array.getElem?_eq_some_iff.1 ho).1
    simpa using this
   have ho':l[i]?=some o:=by simpa using ho
   have hu':done.getD i false=false:=by
    rw[Array.getD_eq_getD_getElem?,Array.getElem?_eq_getElem Y609] at hu⊢
    simpa using hu
   have hk:=dX.fG hok ho'
   simp only[dX.rm,Bool.and_eq_true,Nat.zero_add] at hk
   obtain⟨⟨⟨k1,k8⟩,k9⟩,k2,k3,k4,k5,_,k7⟩:=hk
   have hbeh:∀ j,behind o j=true->done.getD j false=true:=fun j hj=>by
    simp only[behind,List.any_eq_true,Bool.and_eq_true,beq_iff_eq] at hj
    obtain⟨e,he,rfl,hb⟩:=hj
    exact hbe e Y629 hb
   have hbi:∀ k,ff l k i=true->done.getD k false=false:=fun k hk=>by
    cases h:done.getD k false with
    | false=>rfl
    | true=>have:=hI.down k i h hk;rw[hu'] at this;cases this
   have hinp:∀ j∈g.pY i,g.live l.length done j:=by
    intro j hj
    have h2:=List.all_eq_true.1 k2 j hj
    simp only[Bool.and_eq_true,Bool.or_eq_true,decide_eq_true_eq] at h2
    refine⟨h2.1,h2.2.imp id (hbeh j),fun k hkd hjk=>?_⟩
    have hkl:k<l.length:=by
     by_cases h:k<l.length
     · exact h
     · rw[Array.getD_eq_getD_getElem?,Array.getElem?_eq_none Y609] at hkd
       cases hkd
    have h4:=List.all_eq_true.1 k4 k (List.mem_range.2 hkl)
    have hki:k≠i:=fun e=>by rw[e,hu'] at hkd;cases hkd
    simp only[Bool.or_eq_true,beq_iff_eq,hki,false_or] at h4
    have h5:=List.all_eq_true.1 h4 j hjk
    simp only[Bool.or_eq_true,Bool.not_eq_true',List.contains_eq_mem,decide_eq_false_iff_not,hj,not_true,false_or] at h5
    rw[hbi k h5] at hkd
    cases hkd
   have hdone_ne:∀ j,done.getD j false=true->j≠i:=fun j hj e=>by rw[e,hu'] at hj;cases hj
   have hlen:∀ k,done.getD k false=true->k<l.length:=fun k hkd=>by
    by_cases h:k<l.length
    · exact h
    · rw[Array.getD_eq_getD_getElem?,Array.getElem?_eq_none Y609] at hkd
      cases hkd
   have hdi:gE l i=o.dst:=by simp[gE,ho']
   have hne:∀ j d,done.getD j false=true->gE l j=some d->o.dst≠some d:=by
    intro j d hjd hd he
    rw[he] at k7
    simp only[rj,Bool.and_eq_true] at k7
    have:=List.all_eq_true.1 k7.1 j (List.mem_range.2 (hlen j hjd))
    simp[hdone_ne j hjd,hd] at this
   have hne0:∀ p∈g.E0,o.dst≠some p.1:=by
    intro p hp he
    rw[he] at k7
    simp only[rj,Bool.and_eq_true] at k7
    have:=List.all_eq_true.1 k7.2 p hp
    simp at this
   let rest:List Nat:=(List.range g.N).filter fun j=>@decide (g.live l.length done j) (Classical.propDecidable _)&&!(g.pY i).contains j
   have hrest:∀ j,j∈rest↔g.live l.length done j/\j ∉ g.pY i:=by
    intro j
    simp only[rest,List.mem_filter,List.mem_range,Bool.and_eq_true,Bool.not_eq_true',List.contains_eq_mem,decide_eq_false_iff_not]
    refine⟨fun ⟨_,h2,h3⟩=>⟨@of_decide_eq_true _ (Classical.propDecidable _) h2,h3⟩,fun ⟨h2,h3⟩=>⟨h2.1,@decide_eq_true _ (Classical.propDecidable _) h2,h3⟩⟩
   have hnd:(g.pY i++rest).Nodup:=by
    rw[List.nodup_append]
    refine⟨lZ k5,List.nodup_range.filter _,fun a ha b hb e=>?_⟩
    exact((hrest b).1 hb).2 (e▸ha)
   have H1:=hI.mem.to (g.pY i++rest) hnd (fun j hj=>by
    rcases List.mem_append.1 hj with h|h
    · exact hinp j h
    · exact((hrest j).1 h).1)
   rw[List.flatMap_append] at H1
   let EF0:Env:=(List.range l.length).filterMap fun j=>if done.getD j false=true then(gE l j).map (fun d=>(d,g.v j (x j))) else none
   let EF1:Env:=(List.range l.length).flatMap fun j=>if done.getD j false=true then [] else g.E1 j
   let EF:Env:=EF0++EF1
   have hEF:∀ p,p∈EF0↔∃ j d,done.getD j false=true/\gE l j=some d/\p=(d,g.v j (x j)):=by
    intro p
    simp only[EF0,List.mem_filterMap,List.mem_range]
    constructor
    · rintro⟨j,_,hp⟩
      split at hp
      · rename_i hjd
        obtain⟨d,hd,rfl⟩:=Option.map_eq_some_iff.1 hp
        exact⟨j,d,hjd,hd,rfl⟩
      · cases hp
    · rintro⟨j,d,hjd,hd,rfl⟩
      exact⟨j,hlen j hjd,by rw[if_pos hjd,hd];rfl⟩
   have hEF1:∀ j,j<l.length->done.getD j false=false->∀ p∈g.E1 j,p∈EF1:=by
    intro j hjl hjd p hp
    simp only[EF1,List.mem_flatMap,List.mem_range]
    exact⟨j,hjl,by rw[if_neg (by rw[hjd];decide)];exact hp⟩
   have hne1:∀ j,j<l.length->done.getD j false=false->∀ p∈g.E1 j,o.dst≠some p.1:=by
    intro j hjl hjd p hp he
    have hjo:l[j]?=some (l[j]'hjl):=List.getElem?_eq_getElem hjl
    have hkj:=dX.fG hok hjo
    simp only[dX.rm,Bool.and_eq_true,Nat.zero_add] at hkj
    have h9:=List.all_eq_true.1 hkj.1.2 p hp
    have h10:=List.all_eq_true.1 h9 i (List.mem_range.2 hil)
    simp only[hdi,he,bne_self_eq_false,Bool.false_or,Bool.and_eq_true] at h10
    have h11:behind o j=true:=by simpa [ff,ho'] using h10.2
    rw[hbeh j h11] at hjd
    cases hjd
   have hneed:∀ p∈g.need i,done.getD p.1 false=true/\gE l p.1=some p.2:=by
    intro p hp
    have h1:=List.all_eq_true.1 k1 p hp
    simp only[Bool.and_eq_true,beq_iff_eq] at h1
    exact⟨hbeh _ h1.1,h1.2⟩
   have hK:∀ p∈((g.need i).map (fun p=>(p.2,g.v p.1 (x p.1)))++(g.E0++(g.E1 i++EF))),a.tmps.getD p.1 undef=p.2/\o.dst≠some p.1:=by
    intro p hp
    rcases List.mem_append.1 hp with h|h
    · obtain⟨q,hq,rfl⟩:=List.mem_map.1 h
      obtain⟨h1,h2⟩:=hneed q hq
      exact Y239
    · rcases List.mem_append.1 h with h|h
      · exact⟨hI.base p h,hne0 p h⟩
      · rcases List.mem_append.1 h with h|h
        · exact⟨hI.first i hil hu' p h,hne1 i hil hu' p h⟩
        · rcases List.mem_append.1 h with h|h
          · obtain⟨j,d,h1,h2,rfl⟩:=(hEF p).1 h
            exact Y239
          · simp only[EF1,List.mem_flatMap,List.mem_range] at h
            obtain⟨j,hjl,h⟩:=h
            cases hjd:done.getD j false with
            | true=>rw[hjd] at h;simp at h
            | false=>
              rw[hjd] at h
              simp only[Bool.false_eq_true,if_false] at h
              exact⟨hI.first j hjl hjd p h,hne1 j hjl hjd p h⟩
   have job:=dX.p5 hj ho'
   rw[Nat.zero_add] at job
   refine lY ho ((job x EF (rest.flatMap fun j=>g.M j (x j)) _ fun xi hxi=>⟨fun a' w' hK' hH'=>?_⟩).go a w (bF.of hI.size hI.defers fun p hp=>(hK p hp).1) H1)
   have hd':∀ j,(done.setIfInBounds i true).getD j false=(decide (j=i)||done.getD j false):=fun j=>A8 Y609
   refine ih _ (fun j=>if j=i then xi else x j) a' w' ?_ ?_
   · have:=uK (l:=List.range l.length) (p:=fun j=>!done.getD j false) (q:=fun j=>!(done.setIfInBounds i true).getD j false) (i:=i) List.nodup_range (List.mem_range.2 hil) (by simp only[hu'];rfl) (by simp only[hd'];simp) (fun j hj=>by simp only[hd'];simp[hj])
     omega
   · have hmem:∀ p∈(slot o.dst (g.v i xi)++((g.need i).map (fun p=>(p.2,g.v p.1 (x p.1)))++(g.E0++(g.E1 i++EF)))),a'.tmps.getD p.1 undef=p.2:=by
      intro p hp
      refine hK'.mem (f:=fun t=>if o.dst=some t then g.v i xi else a.tmps.getD t undef) (fun q hq=>?_) hp
      rcases List.mem_append.1 hq with h|h
      · cases hod:o.dst with
        | none=>rw[hod] at h;cases h
        | some d=>
          rw[hod] at h
          simp only[slot,List.mem_singleton] at h
          subst h
          simp
      · have:=hK q h
        simp only[this.2,if_false]
        exact this.1
     refine⟨hK'.size,hK'.defers,by simp[hds],fun p hp=>hmem p (by simp[hp]),fun j hjl hjd p hp=>?_,?_,?_,?_,?_⟩
     · rw[hd'] at hjd
       simp only[Bool.or_eq_false_iff] at hjd
       exact Y240
     · intro j d hjd hd
       by_cases e:j=i
       · subst e
         rw[hdi] at hd
         have:=hmem (d,g.v j xi) (by simp[hd,slot])
         simpa using this
       · rw[hd'] at hjd
         simp only[e,decide_false,Bool.false_or] at hjd
         have:=hmem (d,g.v j (x j)) (List.mem_append_right _ (List.mem_append_right _ (List.mem_append_right _ (List.mem_append_right _ (List.mem_append_left _ ((hEF _).2 ⟨j,d,hjd,hd,rfl⟩))))))
         simpa [e] using this
     · intro j k hjd hs
       rw[hd'] at hjd
       by_cases e:j=i
       · subst e
         rw[hs] at k8
         simp only[if_true,hdone_ne k (hbeh k k8),if_false]
         exact hxi k hs
       · simp only[e,decide_false,Bool.false_or] at hjd
         have hjo:l[j]?=some (l[j]'(hlen j hjd)):=List.getElem?_eq_getElem (hlen j hjd)
         have hkj:=dX.fG hok hjo
         simp only[dX.rm,Bool.and_eq_true,Nat.zero_add] at hkj
         have h8:=hkj.1.1.2
         rw[hs] at h8
         have hkd:=hI.down j k hjd (by simpa [ff,hjo,Fk] using h8)
         simp only[e,hdone_ne k hkd,if_false]
         exact hI.rel j k hjd hs
     · intro j i' hjd hb
       rw[hd'] at hjd⊢
       by_cases e:j=i
       · subst e
         have:behind o i'=true:=by simpa [ff,ho'] using hb
         simp[hbeh i' this]
       · simp only[e,decide_false,Bool.false_or] at hjd
         simp[hI.down j i' hjd hb]
     · have hnl:¬ g.live l.length done i:=fun h=>by
        rcases h.2.1 with h|h
        · omega
        · rw[hu'] at h;cases h
       have hcg:∀ L:List Nat,(∀ j∈L,g.live l.length done j)->L.flatMap (fun j=>g.M j (if j=i then xi else x j))=L.flatMap fun j=>g.M j (x j):=by
        intro L
        induction L with
        | nil=>simp
        | cons j L ih=>
          intro h
          have hji:j≠i:=fun e=>hnl (e▸h j Y614)
          simp only[List.flatMap_cons,hji,if_false,ih fun k hk=>h k (by simp[hk])]
       refine kN.of (Js:=i::(((g.pY i).filter fun j=>!(g.zy i).contains j)++rest)) ?_ ?_
       · rw[List.flatMap_cons,List.flatMap_append,hcg _ (fun j hj=>hinp j (List.mem_filter.1 hj).1),hcg rest (fun j hj=>((hrest j).1 hj).1)]
         simpa using hH'
       · intro j hj
         by_cases e:j=i
         · simp[e]
         · have hl:g.live l.length done j:=by
            refine⟨hj.1,hj.2.1.imp id (fun h=>?_),fun k hk=>hj.2.2 k (by rw[hd'];simp[hk])⟩
            rw[hd'] at h
            simpa [e] using h
           have hne:j ∉ g.zy i:=hj.2.2 i (by rw[hd'];simp)
           by_cases hji:j∈g.pY i
           · simp[e,hji,hne]
           · have:=(hrest j).2 ⟨hl,hji⟩
             simp[e,this]
theorem JC.JJ[Inhabited Y](g:dX Y)(outs:List (Nat × Nat))(ends:List Nat){id:Nat}(hm:P.follows .mixedOrders=true)(hE:af E g.E0)(hE1:∀ i,i<l.length->af E (g.E1 i))(hM:aj (((List.range g.N).filter fun j=>decide (l.length<=j)).flatMap fun j=>g.M j default) M)
  (hok:g.iU l 0 l=true) (ho:(outs.all fun p=>decide (p.1<l.length)&&gE l p.1==some p.2)=true)
  (he:(pZ ends&&ends.all fun j=>decide (j<g.N)&&(List.range l.length).all fun k=>!(g.zy k).contains j)=true)
  (hj:g.uL P n w0 S l 0 l)
  (k:∀ x:Nat->Y,(∀ j k,j<l.length->g.src j=some k->x j=x k)->JE n w0 S Q .normal (outs.map (fun p=>(p.2,g.v p.1 (x p.1)))++g.E0) (ends.flatMap fun j=>g.M j (x j))):JC P n w0 S Q (.region id l.toArray true) E M:=
 ⟨fun a w ha hw=>by
  refine wp_region_any hm ?_
  have hw':=(hw.drawn (w.drawn+1)).weak hM
  simp only[Bool.and_eq_true] at he
  refine dX.run hok hj (fun done x a w hI hall=>?_) _ _ (fun _=>default) a _ ?_ ?_
  · refine(k x fun j k hj hs=>hI.rel j k (hall j hj) hs).go a w (bF.of hI.size hI.defers fun p hp=>?_) (hI.mem.to ends (lZ he.1) fun j hj=>?_)
    · rcases List.mem_append.1 hp with h|h
      · obtain⟨q,hq,rfl⟩:=List.mem_map.1 h
        have:=List.all_eq_true.1 ho q hq
        simp only[Bool.and_eq_true,decide_eq_true_eq,beq_iff_eq] at this
        exact hI.vals _ _ (hall _ this.1) this.2
      · exact hI.base p h
    · have:=List.all_eq_true.1 he.2 j hj
      simp only[Bool.and_eq_true,decide_eq_true_eq] at this
      refine⟨this.1,?_,fun k hk hjk=>?_⟩
      · by_cases h:l.length<=j
        · exact .inl h
        · exact .inr (hall j Y609)
      · have hkl:k<l.length:=by
         by_cases h:k<l.length
         · exact h
         · have:=hI.uM
           rw[Array.getD_eq_getD_getElem?,Array.getElem?_eq_none Y609] at hk
           cases hk
        have:=List.all_eq_true.1 this.2 k (List.mem_range.2 hkl)
        simp[hjk] at this
  · have:∀ j,(Array.replicate l.toArray.size false).getD j false=false:=fun j=>by
     simp only[Array.getD_eq_getD_getElem?,Array.getElem?_replicate]
     split <;> rfl
    rw[List.countP_eq_length.2 (fun j _=>by simp only[this];rfl)]
    simp
  · have hf:∀ j,(Array.replicate l.toArray.size false).getD j false=false:=fun j=>by
     simp only[Array.getD_eq_getD_getElem?,Array.getElem?_replicate]
     split <;> rfl
    refine⟨ha.size,ha.defers,by simp,fun p hp=>ha.all _ _ (hE.all p hp),fun j hj _ p hp=>ha.all _ _ ((hE1 j hj).all p hp),fun j d h=>?_,fun j k h=>?_,fun j i h=>?_,?_⟩
    · rw[hf] at h;cases h
    · rw[hf] at h;cases h
    · rw[hf] at h;cases h
    · refine kN.of hw' fun j hj=>?_
      rw[List.mem_filter]
      refine⟨List.mem_range.2 hj.1,?_⟩
      rcases hj.2.1 with h|h
      · simpa using h
      · rw[hf] at h;cases h⟩
structure RC (Y:Type) where
 E0:Env
 N:Nat
 v:Nat->Y->Value
 M:Nat->Y->List aL
 need:Nat->List (Nat × Nat)
 pY:Nat->List Nat
 zy:Nat->List Nat
 src:Nat->Option Nat
def RC.o(g:RC Y):dX Y:=⟨g.E0,g.N,g.v,g.M,g.need,g.pY,g.zy,g.src,fun _=>[]⟩
end
end Sl
end
section
namespace Sl
section
variable {P:Program} {t tx e:TypeId}
variable {n:Nat} {w0:World} {S:List Nat} {ops:Array Oper} {Q:Exit->Act->World->Prop} {l:List Oper} {E:Env} {M:List aL} {d b:Nat} {ty:TypeId} {pos:String} {aft:Array Edge} {x y:Operand}
end
end Sl
end
section
namespace Sl
section
variable {P:Program} {n:Nat} {w0:World} {S:List Nat} {ops:Array Oper} {Q:Exit->Act->World->Prop} {l:List Oper} {E:Env} {M:List aL} {C:World->Prop}
variable {dst:Option Tmp} {d b:Nat} {t e ty:TypeId} {pos:String} {aft:Array Edge} {g:Option (Nat × Bool)} {v:Value} {x y z:Operand}
theorem OQ.extract{vs:Array Value}{i:Nat}(hx:ev E x=some (.tuple vs))(hi:vs[i]?=some v):OQ P n E C ⟨dst,.extract x i,ty,pos,aft,g⟩ v:=
 OQ.run fun a ha w _=>by
  have h1:=ha.eval hx
  simp[execOp,h1,Instr.extract,hi]
theorem Fl{k:Nat}(zc:Array Value)(h:zc=(List.replicate k (Value.int .u8 0)).toArray)(h0:0<k)(m:Nat):madeCells zc m=(List.replicate m (Value.int .u8 0)).toArray:=by
 subst h
 apply Array.ext'
 simp only[madeCells,List.size_toArray,List.length_replicate,Array.toList_map,Array.toList_range]
 apply List.ext_getElem?
 intro i
 by_cases h:i<m
 · simp[h,Nat.mod_lt _ h0]
 · simp[h]
theorem JL.make{zv:Value}{sz by' c:Nat}(hu:P.underlying t=some (.slice e))(hi:EI P e zv sz by')(hz:zv.cells=(List.replicate sz (Value.int .u8 0)).toArray)(h0:0<sz)(hx:ev E x=some (N c))(hy:ev E y=some (N c))(hb:by'*c<=281474976710656)(hc:c<9223372036854775808)(hd:Nat.blt d n=true)
  (k:∀ b,w0.heap.size<=b->JL P n w0 S ops Q l ((d,.slice (some ⟨b,0,none⟩) c c)::E) (⟨b,Row e (List.replicate (c*sz) (.int .u8 0)),true⟩::M)):JL P n w0 S ops Q (⟨some d,.makeSlice t x y,ty,pos,aft,none⟩::l) E M:=
 ⟨fun a w ha hw=>wpList_plain rfl fun K hK=>by
  obtain⟨i,hi1,hi2,hi3,hi4⟩:=hi.get
  have hbb:(i.bytes:Int)*(c:Int)<=281474976710656:=by
   rw[hi4,<- Int.natCast_mul]
   exact Int.ofNat_le.2 hb
  have hrun:=run_make (P:=P) w t e i zv hu hi1 hi2 .i64 .i64 c c Y609 (Int.le_refl _) hbb Y609
  simp only[Int.toNat_natCast,hi3] at hrun
  rw[Fl _ hz h0] at hrun
  unfold Oper.wp
  simp only[execOp,ha.eval hx,ha.eval hy,Sem.run_bind,hrun,Result.andThen_ok]
  exact hK _ _ ((k w.heap.size hw.aH.size).go _ _ (ha.put d _ hd) (hw.push (.cells (List.replicate (c*sz) (Value.int .u8 0)).toArray e (0,0)) rfl rfl rfl rfl rfl))⟩
end
end Sl
end
section
namespace Sl
section
variable {P:Program} {n:Nat} {w0:World} {S:List Nat} {ops:Array Oper} {Q:Exit->Act->World->Prop} {l:List Oper} {E:Env} {M:List aL}
variable {d:Nat} {t e ty:TypeId} {pos:String} {aft:Array Edge} {v z:Value} {x:Operand} {sz by':Nat} {cs:List Value}
theorem Dl{w:World}(hu:P.underlying t=some (.slice e))(hi:EI P e z sz by')(_hz:z.cells.size=sz)(h0:0<sz)(hsm:sz<=16777216)(hl:cs.length=sz) :
  (Instr.buildSlice t 1 #[(0,.agg cs.toArray)]).run P w=.ok (.slice (some ⟨w.heap.size,0,none⟩) 1 1) { w with heap:=w.heap.push (.cells cs.toArray e (0,0)) }:=by
 have h3:(underlying t).run P w=.ok (.slice e) w:=run_underlying hu w
 obtain⟨i,h4,h5,_⟩:=hi.get
 obtain⟨r,h6,h7,h8⟩:=Great.fill_dense h0 [.agg cs.toArray] 0 ((Array.range (1*sz)).map (z.cells[·%z.cells.size]!)) (by simp[Value.cells,hl]) Y614
 have hr:r=cs.toArray:=by
  apply Array.ext_getElem?
  intro k
  rw[h8 k]
  by_cases hk:k<sz
  · rw[if_pos Y624]
    simp[Nat.div_eq_of_lt hk,Nat.mod_eq_of_lt hk,Value.cells]
  · rw[if_neg Y624,Array.getElem?_eq_none Y624,Array.getElem?_eq_none Y624]
 subst hr
 have h9:¬ (16777216<1*sz):=by omega
 have h10:¬ (1*sz=0):=by omega
 simp only[List.zipIdx_cons,List.zipIdx_nil,List.map_cons,List.map_nil] at h6
 have h11:(zeroValue e).run P w=.ok z w:=by simp[zeroValue,typeInfo,h4,h5]
 have h12:¬ (16777216<sz):=by omega
 have h13:¬ (sz=0):=by omega
 rw[Nat.one_mul] at h6
 simp[Instr.buildSlice,Sem.run_bind,h3,bR hi.sz,h11,h12,h13,h6,newRow,newObj,Sem.run]
theorem JL.w4(hu:P.underlying t=some (.slice e))(hi:EI P e z sz by')(hz:z.cells.size=sz)(h0:0<sz)(hsm:sz<=16777216)(hx:ev E x=some (.agg cs.toArray))(hl:cs.length=sz)(hd:Nat.blt d n=true)
  (k:∀ b,w0.heap.size<=b->JL P n w0 S ops Q l ((d,.slice (some ⟨b,0,none⟩) 1 1)::E) (⟨b,Row e cs,true⟩::M)):JL P n w0 S ops Q (⟨some d,.buildSlice t 1 #[(0,x)],ty,pos,aft,none⟩::l) E M:=
 ⟨fun a w ha hw=>wpList_plain rfl fun K hK=>by
  unfold Oper.wp
  have hm:(#[(0,x)]:Array (Nat × Operand)).map (fun (i,x)=>(i,a.eval x))=#[(0,.agg cs.toArray)]:=by simp[ha.eval hx]
  simp only[execOp,hm,Sem.run_bind,Dl hu hi hz h0 hsm hl,Result.andThen_ok]
  exact hK _ _ ((k w.heap.size hw.aH.size).go _ _ (ha.put d _ hd) (hw.push _ rfl rfl rfl rfl rfl))⟩
end
end Sl
end
section
namespace Sl
section
variable {P:Program} {n:Nat} {w0:World} {S:List Nat} {ops:Array Oper} {Q:Exit->Act->World->Prop} {l:List Oper} {E:Env} {M:List aL} {C:World->Prop}
variable {dst:Option Tmp} {d b:Nat} {t t' e ty:TypeId} {pos:String} {aft:Array Edge} {g:Option (Nat × Bool)} {v zv:Value} {x y z:Operand} {by':Nat}
theorem OQ.A9{len cap lo hi sz:Nat}{ad:Option Addr}(hu:P.underlying t=some (.slice e))(hz:gX P e=some sz)(hx:ev E x=some (.slice ad len cap))(hl:ev E y=some (N lo))(hh:ev E z=some (N hi))(h:lo<=hi)(h':hi<=cap) :
  OQ P n E C ⟨dst,.slice t x (some y) (some z) none,ty,pos,aft,g⟩ (.slice (if cap=lo then ad else ad.map (·.add (lo*sz))) (hi-lo) (cap-lo)):=
 OQ.run fun a ha w _=>by
  have h1:=ha.eval hx
  have h2:=ha.eval hl
  have h4:=ha.eval hh
  have h3:(underlying t).run P w=.ok (.slice e) w:=run_underlying hu w
  simp[execOp,h1,h2,h4,Instr.sliceAt,Sem.run_bind,h3,Instr.slice,Instr.sliceBounds,Instr.sliceBound,asIntOf,h,h',bR hz]
theorem OQ.Tb{a c:Nat}(hx:ev E x=some (N a))(hy:ev E y=some (N c)):OQ P n E C ⟨dst,.call ⟨.builtin .min,#[x,y],#[t,t']⟩,ty,pos,aft,g⟩ (N (min a c)):=
 OQ.run fun ac ha w _=>by
  have h1:=ha.eval hx
  have h2:=ha.eval hy
  have h3:(if c<a then(c:Int) else(a:Int))=((min a c:Nat):Int):=by split <;> omega
  simp[execOp,h1,h2,resolve,invoke,builtin,Builtin.min_,Builtin.min2,Sem.run_bind,N,h3]
theorem OQ.JK{td:TypeDesc}{a:Nat}(hs:P.underlying t=some td)(hd:P.underlying t'=some (.int .u32))(hx:ev E x=some (N a)):OQ P n E C ⟨dst,.convert t t' x,ty,pos,aft,g⟩ (zw (BitVec.ofNat 32 a)):=
 OQ.conv hs hd hx (by rw[wrap32];simp[zw])
theorem w5{j s:Nat}(h:(ops[j]?).bind (·.dst)=some s)(hl:lk E s=some undef)(hs:Nat.blt s n=true){a:Act}(ha:bF n E a):yielded ops a.tmps j=none:=by
 have hlt:s<n:=by simpa using hs
 have h1:=ha.all s undef hl
 have h2:a.tmps[s]?=some undef:=by
  have:s<a.tmps.size:=by rw[ha.size];exact hlt
  rw[Array.getElem?_eq_getElem this]
  simpa [Array.getD,this] using h1
 simp[yielded,h,h2,undef]
theorem JL.ic{j s:Nat}{want:Bool}{op:Op}(h:(ops[j]?).bind (·.dst)=some s)(hl:lk E s=some undef)(hs:Nat.blt s n=true)(hd:Nat.blt d n=true)(k:JL P n w0 S ops Q l ((d,undef)::E) M) :
  JL P n w0 S ops Q (⟨some d,op,ty,pos,aft,some (j,want)⟩::l) E M:=
 ⟨fun a w ha hw=>wpList_skip (by simp[Region.wanted,w5 h hl hs ha]) (k.go _ _ (ha.put d undef hd) hw)⟩
def pairs:Nat->List Operand->List (Nat × Operand)
 | _,[]=>[]
 | i,x::xs=>(i,x)::pairs (i+1) xs
theorem rq{a:Act}(hk:bF n E a):∀ {xs:List Operand} {vs:List Value} (i:Nat),pK E xs=some vs->(pairs i xs).map (fun p=>(p.1,a.eval p.2))=(vs.zipIdx i).map fun x=>(x.2,x.1)
 | [],vs,i,h=>by
   simp only[pK,Option.some.injEq] at h
   subst h
   rfl
 | x::xs,vs,i,h=>by
   simp only[pK] at h
   cases h1:ev E x with
   | none=>simp[h1] at h
   | some v=>
     cases h2:pK E xs with
     | none=>simp[h1,h2] at h
     | some us=>
       simp only[h1,h2,Option.some.injEq] at h
       subst h
       simp[pairs,hk.eval h1,rq hk (i+1) h2]
theorem Dm{w:World}{vs:List Value}{m:Nat}(hu:P.underlying t=some (.slice e))(hi:EI P e zv 1 by')(hz:zv.cells.size=1)(h1:∀ v∈vs,v.cells=#[v])(hm:vs.length=m)(h0:0<m)(hsm:m<=16777216) :
  (Instr.buildSlice t m ((vs.zipIdx 0).map fun x=>(x.2,x.1)).toArray).run P w=.ok (.slice (some ⟨w.heap.size,0,none⟩) m m) { w with heap:=w.heap.push (.cells vs.toArray e (0,0)) }:=by
 have h3:(underlying t).run P w=.ok (.slice e) w:=run_underlying hu w
 obtain⟨i,h4,h5,_⟩:=hi.get
 have h6:=Great.fill_flat vs ((Array.range (m*1)).map (zv.cells[·%zv.cells.size]!)) h1 (by simp[hm])
 have h9:¬ (16777216<m):=by omega
 have h10:¬ (m=0):=by omega
 have h11:(zeroValue e).run P w=.ok zv w:=by simp[zeroValue,typeInfo,h4,h5]
 simp only[Nat.mul_one] at h6
 simp[Instr.buildSlice,Sem.run_bind,h3,bR hi.sz,h9,h10,h11,h6,newRow,newObj,Sem.run]
theorem JL.zz{xs:List Operand}{ps:Array (Nat × Operand)}{vs:List Value}{m:Nat}(hu:P.underlying t=some (.slice e))(hi:EI P e zv 1 by')(hz:zv.cells.size=1)(hps:ps=(pairs 0 xs).toArray)(hx:pK E xs=some vs)(h1:vs.all (fun v=>v.oneCell')=true)(h2:∀ v∈vs,v.cells=#[v])(hm:vs.length=m)(h0:0<m)(hsm:m<=16777216)(hd:Nat.blt d n=true)
  (k:∀ b,w0.heap.size<=b->JL P n w0 S ops Q l ((d,.slice (some ⟨b,0,none⟩) m m)::E) (⟨b,Row e vs,true⟩::M)):JL P n w0 S ops Q (⟨some d,.buildSlice t m ps,ty,pos,aft,none⟩::l) E M:=
 ⟨fun a w ha hw=>wpList_plain rfl fun K hK=>by
  unfold Oper.wp
  have hm':ps.map (fun (i,x)=>(i,a.eval x))=((vs.zipIdx 0).map fun x=>(x.2,x.1)).toArray:=by
   rw[hps,List.map_toArray,<- rq ha 0 hx]
  simp only[execOp,hm',Sem.run_bind,Dm hu hi hz h2 hm h0 hsm,Result.andThen_ok]
  exact hK _ _ ((k w.heap.size hw.aH.size).go _ _ (ha.put d _ hd) (hw.push _ rfl rfl rfl rfl rfl))⟩
end
end Sl
end
section
open Sl
abbrev Bt:=BitVec 8
structure ay where
 ad:Option Addr
 cap:Nat
 l:List Bt
def ay.v(s:ay):Value:=.slice s.ad s.l.length s.cap
structure ay.ok (w:World) (s:ay):Prop where
 len:s.l.length<=s.cap
 reads:Reads w s.ad (s.l.map U8)
theorem ay.ok.lt{w:World}{s:ay}(h:s.ok w)(h0:s.l≠[]):∀ a,s.ad=some a->a.block<w.heap.size:=by
 obtain⟨b,j,h1,h2⟩:=h.reads.at (by simpa using List.length_pos_iff.2 h0)
 intro a ha
 rw[h1] at ha
 cases ha
 exact block_lt_of_cell (h2 0 _ (dF U8 0 (List.length_pos_iff.2 h0)))
theorem ay.ok.holds{w0 w:World}{S:List Nat}{M:List aL}{s:ay}(h:s.ok w0)(hw:aa w0 S M w)(hS:S=[]):s.ok w:=⟨h.len,hw.reads h.reads (fun _ a _=>by rw[hS];simp)⟩
theorem ay.ok.ext{w w':World}{s:ay}(h:s.ok w)(hx:Ext w w'):s.ok w':=h.holds (⟨hx,by simp,by simp⟩:aa w [] [] w') rfl
def aB:ay:=⟨none,0,[]⟩
theorem dN(w:World):aB.ok w:=⟨by simp[aB],Reads.nil _ _⟩
theorem bO(A M:List aL):aj A (A++M):=by
 induction A with
 | nil=>exact .nil _
 | cons e A ih=>exact .keep _ _ _ _ _ _ (fun _ h=>h) ih
theorem uN{o:Obj}{j k:Nat}{cs:List Value}{v:Value}(h:dy o j cs)(hv:cs[k]?=some v):cellAt o (j+k)=some v:=by
 obtain⟨c,e,fr,rfl,h⟩:=h
 have hk:=(List.getElem?_eq_some_iff.1 hv).1
 have:=h k hk
 rw[hv] at this
 simpa [cellAt] using this
theorem OQ.Tc{P:Program}{n:Nat}{E:Env}{C:World->Prop}{dst:Option Tmp}{t ty:TypeId}{pos:String}{aft:Array Edge}{g:Option (Nat × Bool)}{x:Operand}{s:ByteArray}(hu:P.underlying t=some .string)(hx:ev E x=some (.string s)):OQ P n E C ⟨dst,.call ⟨.builtin .len,#[x],#[t]⟩,ty,pos,aft,g⟩ (N s.size):=
 OQ.run fun a ha w _=>by
  have h1:=ha.eval hx
  have h3:(underlying t).run P w=.ok .string w:=run_underlying hu w
  simp[execOp,h1,resolve,invoke,builtin,Builtin.len_,Sem.run_bind,h3,goInt]
theorem Sl.aa.swap{w0 w:World}{S:List Nat}{e1 e2:aL}{M:List aL}(h:aa w0 S (e1::e2::M) w):aa w0 S (e2::e1::M) w:=by
 refine⟨h.aH,?_,fun e he=>h.all e ?_⟩
 · have:=h.nodup
   simp only[List.map_cons,List.nodup_cons,List.mem_cons,not_or] at this⊢
   exact⟨⟨Ne.symm this.1.1,this.2.1⟩,this.1.2,this.2.2⟩
 · simp only[List.mem_cons] at he⊢
   rcases he with h|h|h
   · exact .inr (.inl h)
   · exact .inl h
   · exact .inr (.inr h)
theorem JE.swap{n:Nat}{w0:World}{S:List Nat}{Q:Exit->Act->World->Prop}{e:Exit}{E:Env}{e1 e2:aL}{M:List aL}(h:JE n w0 S Q e E (e2::e1::M)):JE n w0 S Q e E (e1::e2::M):=⟨fun a w ha hw=>h.go a w ha hw.swap⟩
theorem JE.less{n:Nat}{w0:World}{S:List Nat}{Q:Exit->Act->World->Prop}{e:Exit}{E:Env}{M M':List aL}(hM:aj M' M)(h:JE n w0 S Q e E M'):JE n w0 S Q e E M:=⟨fun a w ha hw=>h.go a w ha (hw.weak hM)⟩
theorem Sl.Own.has{e:TypeId}{k cap m:Nat}{r:List Bt}:∀ o,Sl.Own e 1 k cap (r.map U8) o->dy o 0 ((r.take m).map U8)/\k<=cap:=by
 rintro o ⟨sp,rfl,h1,h2,h3⟩
 refine⟨⟨_,_,_,rfl,fun i hi=>?_⟩,h3⟩
 have hi':i<m/\i<r.length:=by simp at hi;omega
 simp[List.getElem?_append_left,hi'.1,hi'.2]
def ay.an(s:ay):List aL:=match s.ad with
 | some a=>[⟨a.block,fun o=>dy o a.off (s.l.map U8)/\s.l.length<=s.cap/\a.spot=none,true⟩]
 | none=>[]
theorem ay.bU{s:ay}{w0 w:World}{S:List Nat}{M:List aL}(h:aa w0 S (s.an++M) w)(h0:s.ad=none->s.l=[]):s.ok w:=by
 obtain⟨ad,cap,l⟩:=s
 cases ad with
 | none=>
   have:l=[]:=h0 rfl
   subst this
   exact⟨by simp,Reads.nil _ _⟩
 | some a=>
   obtain⟨o,ho,h1,h2,h3⟩:=h.get (b:=a.block) (A:=fun o=>dy o a.off (l.map U8)/\l.length<=cap/\a.spot=none) (wr:=true) .here
   obtain⟨b,j,sp⟩:=a
   simp only at h3
   subst h3
   exact⟨h2,Reads.block ho h1⟩
structure Uh (s:ay) (l:List Bt) (cap:Nat):Prop where
 val:s.l=l
 cap:s.cap=cap
 none:s.ad=.none->s.l=[]
section
variable {P:Program} {n:Nat} {w0 w w':World} {S:List Nat} {ops:Array Oper} {Q:Exit->Act->World->Prop} {l:List Oper} {E:Env} {M Ms:List aL} {d:Nat} {t t' e ty:TypeId} {pos:String} {aft:Array Edge} {x:Operand}
theorem Sl.aa.both(h:aa w0 S M w)(h2:aa w [] Ms w')(hw:∀ e∈Ms,e.wr=true):aa w0 S (Ms++M) w':=by
 have hx:Ext w w':=h2.aH
 have h1:=h.ext hx
 have hfr:∀ e∈Ms,w.heap.size<=e.b:=fun e he=>by
  rcases(h2.all e he).2 (hw e he) with h|h
  · cases h
  · exact h
 refine⟨h1.aH,?_,fun e he=>?_⟩
 · rw[List.map_append,List.nodup_append]
   refine⟨h2.nodup,h1.nodup,fun a ha b hb e=>?_⟩
   simp only[List.mem_map] at ha hb
   obtain⟨e1,he1,rfl⟩:=ha
   obtain⟨e2,he2,rfl⟩:=hb
   have:=hfr e1 he1
   obtain⟨⟨o,ho,_⟩,_⟩:=h.all e2 he2
   have:=(Array.getElem?_eq_some_iff.1 ho).1
   omega
 · rcases List.mem_append.1 he with he|he
   · refine⟨(h2.all e he).1,fun _=>.inr (Nat.le_trans h.aH.size (hfr e he))⟩
   · exact h1.all e he
theorem ay.bH(s:ay):∀ e∈s.an,e.wr=true:=by
 intro e he
 unfold ay.an at he
 split at he
 · simp only[List.mem_singleton] at he
   subst he
   rfl
 · cases he
theorem JL.bD{ι:Type}(vf:ι->Value)(Mf:ι->List aL){f:FuncId}{xs:List Operand}{ats:Array TypeId}{vs:List Value}(hg:aJ P f)(hx:pK E xs=some vs)(hd:Nat.blt d n=true)(hwr:∀ i,∀ e∈Mf i,e.wr=true)
  (hc:∀ w,aa w0 S M w->Calls P f vs.toArray w fun e w'=>∃ i,e=.returned (vf i)/\aa w [] (Mf i) w')
  (k:∀ i,JL P n w0 S ops Q l ((d,vf i)::E) (Mf i++M)):JL P n w0 S ops Q (⟨some d,.call ⟨.value (.func f),xs.toArray,ats⟩,ty,pos,aft,none⟩::l) E M:=
 JL.call (ι:=ι) vf (fun i=>Mf i++M) hg hx hd (fun w hw=>(hc w hw).mono fun _ _ ⟨i,h1,h2⟩=>⟨i,h1,hw.both h2 (hwr i)⟩) k
end
section
variable {P:Program} {n:Nat} {w0 w w':World} {S:List Nat} {ops:Array Oper} {Q:Exit->Act->World->Prop} {l:List Oper} {E:Env} {M Ms:List aL} {d:Nat} {t t' e ty:TypeId} {pos:String} {aft:Array Edge} {x:Operand}
def bytesOf(s:ByteArray):List Bt:=s.data.toList.map UInt8.toBitVec
theorem bytesOf_length(s:ByteArray):(bytesOf s).length=s.size:=by simp[bytesOf]
theorem JL.SL{s:ByteArray}{u:TypeDesc}(hs:P.underlying t=some u)(hu:P.underlying t'=some (.slice e))(he:P.underlying e=some (.int .u8))(hx:ev E x=some (.string s))(hd:Nat.blt d n=true)
  (k:∀ b cap,JL P n w0 S ops Q l ((d,ay.v ⟨some ⟨b,0,none⟩,cap,bytesOf s⟩)::E) ((⟨some ⟨b,0,none⟩,cap,bytesOf s⟩:ay).an++M)):JL P n w0 S ops Q (⟨some d,.convert t t' x,ty,pos,aft,none⟩::l) E M:=
 ⟨fun a w ha hw=>wpList_plain rfl fun K hK=>by
  have hrun:=Lib.run_convert_string_bytes (P:=P) w t t' e s hs hu he
  have hheap:(Lib.bytesWorld w e s).heap=w.heap.push (.cells (Lib.bytesCells w e s) e ((Lib.bytesCells w e s).size,(Lib.bytesCells w e s).size+1)):=by
   apply Array.ext_getElem?
   intro i
   rw[Array.getElem?_push]
   by_cases h:i=w.heap.size
   · rw[if_pos h,h,Lib.bytesWorld_at_new]
   · rw[if_neg h]
     by_cases h2:i<w.heap.size
     · rw[Lib.bytesWorld_at_old _ _ _ _ h2]
     · rw[Array.getElem?_eq_none (by rw[Lib.bytesWorld_size];omega),Array.getElem?_eq_none Y609]
  have hge:=grownCap_ge w s.size 0 e
  have hcells:dy (.cells (Lib.bytesCells w e s) e ((Lib.bytesCells w e s).size,(Lib.bytesCells w e s).size+1)) 0 ((bytesOf s).map U8):=by
   refine⟨_,_,_,rfl,fun i hi=>?_⟩
   have hi:i<s.data.size:=by simpa [bytesOf] using hi
   simp only[Lib.bytesCells,bytesOf,Nat.zero_add,Array.getElem?_append,Array.size_map,hi,if_true,Array.getElem?_map,List.getElem?_map,Array.getElem?_toList,Option.map_map]
   rfl
  have h5:ay.v ⟨some ⟨w.heap.size,0,none⟩,grownCap w s.size 0 e,bytesOf s⟩=.slice (some ⟨w.heap.size,0,none⟩) s.size (grownCap w s.size 0 e):=by
   simp[ay.v,bytesOf_length]
  unfold Oper.wp
  simp only[execOp,ha.eval hx,Sem.run_bind,hrun,Result.andThen_ok]
  rw[<- h5]
  exact hK _ _ ((k w.heap.size (grownCap w s.size 0 e)).go _ _ (ha.put d _ hd) (hw.push _ ⟨hcells,by show(bytesOf s).length<=_;rw[bytesOf_length];exact hge,rfl⟩ hheap rfl rfl rfl))⟩
end
section
variable {P:Program} {n:Nat} {E:Env} {C:World->Prop} {dst:Option Tmp} {t t' ty:TypeId} {pos:String} {aft:Array Edge} {g:Option (Nat × Bool)} {x y:Operand}
theorem OQ.TR{a b:Bt}(hx:ev E x=some (U8 a))(hy:ev E y=some (U8 b)):OQ P n E C ⟨dst,.binOp .neq t x y t',ty,pos,aft,g⟩ (.bool (!decide (a=b))):=by
 have:=OQ.S5 (P:=P) (n:=n) (C:=C) (dst:=dst) (ty:=ty) (t:=t) (t':=t') (pos:=pos) (aft:=aft) (g:=g) hx hy
 have h:decide ((a.toNat:Int)=b.toNat)=decide (a=b):=decide_eq_decide.2 ⟨fun h=>BitVec.eq_of_toNat_eq Y609,fun h=>by rw[h]⟩
 rwa [h] at this
end
theorem zA{w0 w:World}{S:List Nat}{M:List aL}{b j cap:Nat}{e:TypeId}{l:List Bt}{wr:Bool}(hw:aa w0 S M w)(hM:Has M b (Row e (l.map U8)) wr)(hj:j=0)(hc:l.length<=cap):ay.ok w ⟨some ⟨b,j,none⟩,cap,l⟩:=by
 subst hj
 obtain⟨o,ho,hA⟩:=hw.get hM
 exact⟨hc,Reads.block ho (Row.all _ hA)⟩
theorem ku{w0 w:World}{S:List Nat}{M:List aL}{b k cap:Nat}{e:TypeId}{l:List Bt}{wr:Bool}(hw:aa w0 S M w)(hM:Has M b (Sl.Own e 1 k cap (l.map U8)) wr):ay.ok w ⟨some ⟨b,0,none⟩,cap,l⟩:=by
 obtain⟨o,ho,hA⟩:=hw.get hM
 have hh:=Sl.Own.cells _ hA
 obtain⟨sp,rfl,h2,h3,h4⟩:=hA
 simp only[List.length_map,Nat.mul_one] at h3
 exact Y241
theorem OQ.to{P:Program}{n:Nat}{E:Env}{C:World->Prop}{o:Oper}{v v':Value}(h:OQ P n E C o v)(e:v=v'):OQ P n E C o v':=e▸h
def ay.fst(s:ay)(m:Nat):ay:=⟨if s.cap=0 then s.ad else s.ad.map (·.add 0),s.cap,s.l.take m⟩
def ay.snd(s:ay)(m:Nat):ay:=⟨if s.cap=m then s.ad else s.ad.map (·.add (m*1)),s.cap-m,s.l.drop m⟩
theorem ay.ok.fst{s:ay}{w:World}(h:s.ok w)(m:Nat):(s.fst m).ok w:=by
 refine⟨by show(s.l.take m).length<=s.cap;have:=h.len;rw[List.length_take];omega,?_⟩
 show Reads w _ ((s.l.take m).map U8)
 by_cases h0:s.l=[]
 · rw[h0];simpa using Reads.nil _ _
 · obtain⟨b,j,hae,_⟩:=h.reads.at (by simpa using List.length_pos_iff.2 h0)
   have h1:=h.reads.take m
   rw[<- List.map_take] at h1
   have h2:(s.fst m).ad=s.ad:=by
    show(if s.cap=0 then s.ad else s.ad.map (·.add 0))=s.ad
    rw[hae]
    split <;> simp[Addr.add]
   rw[h2]
   exact h1
theorem ay.ok.snd{s:ay}{w:World}(h:s.ok w)(m:Nat)(hm:m<=s.l.length):(s.snd m).ok w:=by
 refine⟨by show(s.l.drop m).length<=s.cap-m;have:=h.len;rw[List.length_drop];omega,?_⟩
 have:=h.reads.drop (len:=s.l.length) (cap:=s.cap) (lo:=m) Y614 h.len hm
 rwa [<- List.map_drop] at this
theorem ay.RD(s:ay)(m:Nat)(hm:m<=s.l.length):.slice (if s.cap=0 then s.ad else s.ad.map (·.add 0)) m s.cap=(s.fst m).v:=by simp[ay.v,ay.fst,Nat.min_eq_left hm]
theorem ay.RE(s:ay)(m:Nat):.slice (if s.cap=m then s.ad else s.ad.map (·.add (m*1))) (s.l.length-m) (s.cap-m)=(s.snd m).v:=by simp[ay.v,ay.snd]
theorem p7{e:TypeId}{xs:List Value}{n:Nat}(h:xs.length=n):∀ o,Row e xs o->Sl.Own e 1 n n xs o:=by
 rintro o rfl
 exact⟨[],by simp,by simp[h],by simp[h],Nat.le_refl _⟩
theorem OQ.fst{P:Program}{n:Nat}{E:Env}{C:World->Prop}{dst:Option Tmp}{t ty e:TypeId}{pos:String}{aft:Array Edge}{g:Option (Nat × Bool)}{x y:Operand}{s:ay}{m:Nat}(hu:P.underlying t=some (.slice e))(hz:gX P e=some 1)(hx:ev E x=some s.v)(hh:ev E y=some (N m))(h:m<=s.l.length)(hc:s.l.length<=s.cap) :
  OQ P n E C ⟨dst,.slice t x none (some y) none,ty,pos,aft,g⟩ (s.fst m).v:=
 OQ.to (OQ.JD (ad:=s.ad) (len:=s.l.length) (cap:=s.cap) hu hz hx hh (Nat.le_trans h hc)) (ay.RD s m h)
theorem OQ.snd{P:Program}{n:Nat}{E:Env}{C:World->Prop}{dst:Option Tmp}{t ty e:TypeId}{pos:String}{aft:Array Edge}{g:Option (Nat × Bool)}{x y:Operand}{s:ay}{m:Nat}(hu:P.underlying t=some (.slice e))(hz:gX P e=some 1)(hx:ev E x=some s.v)(hl:ev E y=some (N m))(h:m<=s.l.length) :
  OQ P n E C ⟨dst,.slice t x (some y) none none,ty,pos,aft,g⟩ (s.snd m).v:=
 OQ.to (OQ.Pk (ad:=s.ad) (len:=s.l.length) (cap:=s.cap) hu hz hx hl h) (ay.RE s m)
theorem JL.lB{P:Program}{n:Nat}{w0:World}{S:List Nat}{ops:Array Oper}{Q:Exit->Act->World->Prop}{E:Env}{M:List aL}{l:List Oper}{d:Tmp}{t ty e:TypeId}{pos:String}{aft:Array Edge}{z:Value}{by':Nat}(hu:P.underlying t=some (.slice e))(hi:EI P e z 1 by')(hd:Nat.blt d n=true)
  (k:∀ b,w0.heap.size<=b->JL P n w0 S ops Q l ((d,.slice (some ⟨b,0,none⟩) 0 0)::E) (⟨b,Sl.Own e 1 0 0 [],true⟩::M)):JL P n w0 S ops Q (⟨some d,.buildSlice t 0 #[],ty,pos,aft,none⟩::l) E M:=
 JL.MO hu hi hd fun b hb=>⟨fun a w ha hw=>(k b hb).go a w ha (hw.weak (.keep _ _ _ _ _ _ (p7 rfl) (aj.refl _)))⟩
structure Q4 where
 ad:Option Addr
 cap:Nat
 l:List Int
def Q4.v(s:Q4):Value:=.slice s.ad s.l.length s.cap
structure Q4.ok (w:World) (s:Q4):Prop where
 len:s.l.length<=s.cap
 reads:Reads w s.ad (s.l.map fun i=>.int .i64 i)
theorem Q4.ok.holds{w0 w:World}{S:List Nat}{M:List aL}{s:Q4}(h:s.ok w0)(hw:aa w0 S M w)(hS:S=[]):s.ok w:=⟨h.len,hw.reads h.reads (fun _ a _=>by rw[hS];simp)⟩
theorem JL.gi{P:Program}{n:Nat}{w0:World}{S:List Nat}{ops:Array Oper}{Q:Exit->Act->World->Prop}{l:List Oper}{E:Env}{M:List aL}{t e ty ty':TypeId}{x y:Operand}{z v:Value}{by' k cap b d1 d2:Nat}{pos pos':String}{aft aft':Array Edge}{xs:List Value}
  (M':Nat->Nat->List aL) (hu:P.underlying t=some (.slice e)) (hi:EI P e z 1 by') (hz:z.cells.size=1) (hx:ev E x=some v) (hv:v.cells=#[v]) (h1:v.oneCell'=true)
  (ha:∀ bl,ev ((d1,.slice (some ⟨bl,0,none⟩) 1 1)::E) y=some (.slice (some ⟨b,0,none⟩) k cap)) (hup:∀ b' cap',aR M b (Sl.Own e 1 k cap xs) b' (Sl.Own e 1 (k+1) cap' (xs++[v])) (M' b' cap'))
  (hsm:(k+1)*by'<=140737488355328) (hsm2:k+1<9223372036854775808) (hd1:Nat.blt d1 n=true) (hd2:Nat.blt d2 n=true)
  (kk:∀ bl b' cap',JL P n w0 S ops Q l ((d2,.slice (some ⟨b',0,none⟩) (k+1) cap')::(d1,.slice (some ⟨bl,0,none⟩) 1 1)::E) (M' b' cap')) :
  JL P n w0 S ops Q (⟨some d1,.buildSlice t 1 #[(0,x)],ty,pos,aft,none⟩::⟨some d2,.call ⟨.builtin .append,#[y,.tmp d1],#[t,t]⟩,ty',pos',aft',none⟩::l) E M:=by
 refine JL.q9 hu hi hz hx hv hd1 fun bl _=>?_
 refine JL.append (cs:=[v]) (m:=1) (ad:=some ⟨bl,0,none⟩) (sc:=1) (fun b' cap'=>⟨bl,Row e [v],true⟩::M' b' cap') hu hi (ha bl) Y630 (fun b' cap'=>.there (hup b' cap')) rfl (fun w hw=>?_) (by simpa using h1) hz Y610 hsm hsm2 hd2 fun b' cap'=>?_
 · obtain⟨o,ho,hA⟩:=hw.get (b:=bl) (A:=Row e [v]) (wr:=true) .here
   exact Y242
 · exact Y243
end
section
namespace Sl
section
variable {P:Program} {n:Nat} {w0:World} {S:List Nat} {ops:Array Oper} {Q:Exit->Act->World->Prop} {l:List Oper} {E:Env} {M:List aL} {C:World->Prop}
variable {dst:Option Tmp} {d b:Nat} {t t' e ty:TypeId} {pos:String} {aft:Array Edge} {g:Option (Nat × Bool)} {v zv:Value} {x y z:Operand} {by':Nat}
theorem OQ.Pq{a b:BitVec 8}(hx:ev E x=some (U8 a))(hy:ev E y=some (U8 b)):OQ P n E C ⟨dst,.binOp .eql t x y t',ty,pos,aft,g⟩ (.bool (decide (a=b))):=by
 have:=OQ.SK (P:=P) (n:=n) (C:=C) (dst:=dst) (ty:=ty) (t:=t) (t':=t') (pos:=pos) (aft:=aft) (g:=g) hx hy
 have h:decide ((a.toNat:Int)=b.toNat)=decide (a=b):=decide_eq_decide.2 ⟨fun h=>BitVec.eq_of_toNat_eq Y609,fun h=>by rw[h]⟩
 rwa [h] at this
theorem JL.uO{c:Nat}(hu:P.underlying t=some (.slice e))(hi:EI P e (.int .u8 0) 1 1)(hx:ev E x=some (N 0))(hy:ev E y=some (N c))(hb:c<=281474976710656)(hd:Nat.blt d n=true)
  (k:∀ b,w0.heap.size<=b->JL P n w0 S ops Q l ((d,.slice (some ⟨b,0,none⟩) 0 c)::E) (⟨b,Sl.Own e 1 0 c [],true⟩::M)):JL P n w0 S ops Q (⟨some d,.makeSlice t x y,ty,pos,aft,none⟩::l) E M:=
 ⟨fun a w ha hw=>wpList_plain rfl fun K hK=>by
  obtain⟨i,hi1,hi2,hi3,hi4⟩:=hi.get
  have hbb:(i.bytes:Int)*(c:Int)<=281474976710656:=by
   rw[hi4,<- Int.natCast_mul,Nat.one_mul]
   exact Int.ofNat_le.2 hb
  have hrun:=run_make (P:=P) w t e i _ hu hi1 hi2 .i64 .i64 0 c Y609 Y609 hbb Y609
  have hz:(Value.int .u8 0).cells=(List.replicate 1 (Value.int .u8 0)).toArray:=rfl
  simp only[Int.toNat_natCast,hi3,Int.toNat_zero] at hrun
  rw[Fl _ hz Y610] at hrun
  have h0:(N 0:Value)=.int .i64 0:=rfl
  unfold Oper.wp
  simp only[execOp,ha.eval hx,ha.eval hy,Sem.run_bind,h0,hrun,Result.andThen_ok]
  exact hK _ _ ((k w.heap.size hw.aH.size).go _ _ (ha.put d _ hd) (hw.push (.cells (List.replicate (c*1) (Value.int .u8 0)).toArray e (0,0)) ⟨List.replicate (c*1) (.int .u8 0),rfl,by simp,rfl,Nat.zero_le _⟩ rfl rfl rfl rfl))⟩
end
end Sl
end
section
namespace Sl
@[reducible] def I (a:Int):Value:=.int .i64 a
section
variable {P:Program} {n:Nat} {E:Env} {C:World->Prop} {dst:Option Tmp} {ty t t':TypeId} {pos:String} {aft:Array Edge} {g:Option (Nat × Bool)} {x y:Operand}
theorem OQ.Pu{a b:Int}(hx:ev E x=some (I a))(hy:ev E y=some (I b))(h0:-9223372036854775808<=a+b)(h:a+b<9223372036854775808):OQ P n E C ⟨dst,.binOp .add t x y t',ty,pos,aft,g⟩ (I (a+b)):=
 OQ.bin hx hy rfl fun _=>mE (k:=.i64) (show IntKind.i64.wrap (a+b)=a+b from sA h0 h)
theorem OQ.Ui{a m:Int}{yk:IntKind}{k:Nat}(hm:(2:Int) ^ k=m)(hk:k<=64)(hx:ev E x=some (I a))(hy:ev E y=some (.int yk k)):OQ P n E C ⟨dst,.binOp .shr t x y t',ty,pos,aft,g⟩ (I (a / m)):=
 OQ.bin hx hy rfl fun w=>by
  have h1:a.fdiv (2 ^ (min k 64))=a / m:=by
   rw[Int.fdiv_eq_ediv_of_nonneg _ Y627,Nat.min_eq_left hk,hm]
  have h7:Op.shift .shr .i64 a yk (k:Int)=(Pure.pure (.int .i64 (a.fdiv (2 ^ (min k 64)))):Sem Value):=by
   unfold Op.shift
   rw[if_neg Y609];rfl
  show Sem.run P (Op.shift .shr .i64 a yk (k:Int)) w=_
  rw[h7,h1];rfl
theorem OQ.Td{a m:Int}{yk:IntKind}{k:Nat}(hm:(2:Int) ^ k=m)(hk:k<=64)(hx:ev E x=some (I a))(hy:ev E y=some (.int yk k))(h0:-9223372036854775808<=a*m)(h:a*m<9223372036854775808):OQ P n E C ⟨dst,.binOp .shl t x y t',ty,pos,aft,g⟩ (I (a*m)):=
 OQ.bin hx hy rfl fun w=>by
  have h1:IntKind.i64.wrap (a*2 ^ (min k 64))=a*m:=by
   rw[Nat.min_eq_left hk,hm,sA h0 h]
  have h7:Op.shift .shl .i64 a yk (k:Int)=(Pure.pure (.int .i64 (IntKind.i64.wrap (a*2 ^ (min k 64)))):Sem Value):=by
   unfold Op.shift
   rw[if_neg Y609];rfl
  show Sem.run P (Op.shift .shl .i64 a yk (k:Int)) w=_
  rw[h7,h1];rfl
theorem OQ.MQ{d:TypeDesc}{a:Int}(hs:P.underlying t=some d)(hd:P.underlying t'=some (.int .u8))(hx:ev E x=some (I a)):OQ P n E C ⟨dst,.convert t t' x,ty,pos,aft,g⟩ (U8 (BitVec.ofInt 8 a)):=
 OQ.conv hs hd hx (by
  have e:IntKind.u8.wrap a=((BitVec.ofInt 8 a).toNat:Int):=by
   rw[BitVec.toNat_ofInt,Int.toNat_of_nonneg (Int.emod_nonneg _ Y610)]
   rfl
  rw[e])
theorem OQ.tI{d:TypeDesc}{a:BitVec 8}(hs:P.underlying t=some d)(hd:P.underlying t'=some (.int .i64))(hx:ev E x=some (U8 a)):OQ P n E C ⟨dst,.convert t t' x,ty,pos,aft,g⟩ (N a.toNat):=
 OQ.conv hs hd hx (by rw[sA Y609 (by have:=a.isLt;omega)])
theorem OQ.Te{a b:BitVec 8}(hx:ev E x=some (U8 a))(hy:ev E y=some (U8 b)):OQ P n E C ⟨dst,.binOp .and t x y t',ty,pos,aft,g⟩ (U8 (a &&& b)):=
 OQ.bin hx hy rfl fun _=>mE (k:=.u8) (show IntKind.u8.wrap ((BitVec.ofInt 8 (a.toNat:Int) &&& BitVec.ofInt 8 (b.toNat:Int)).toNat:Int)=_ by rw[lA,lA,Pj])
theorem OQ.RF{a b:BitVec 8}(hx:ev E x=some (U8 a))(hy:ev E y=some (U8 b)):OQ P n E C ⟨dst,.binOp .add t x y t',ty,pos,aft,g⟩ (U8 (a+b)):=
 OQ.bin hx hy rfl fun _=>mE (k:=.u8) (show IntKind.u8.wrap ((a.toNat:Int)+b.toNat)=_ by rw[<- Int.natCast_add,A6,BitVec.toNat_add])
theorem OQ.Tf{a:BitVec 8}{yk:IntKind}{k:Nat}(hx:ev E x=some (U8 a))(hy:ev E y=some (.int yk k)):OQ P n E C ⟨dst,.binOp .shr t x y t',ty,pos,aft,g⟩ (U8 (a >>> k)):=
 OQ.bin hx hy rfl fun w=>by
  have h1:(a.toNat:Int).fdiv (2 ^ (min k 8))=((a >>> k).toNat:Int):=by
   rw[Int.fdiv_eq_ediv_of_nonneg _ Y627,BitVec.toNat_ushiftRight,Nat.shiftRight_eq_div_pow]
   by_cases hk:k<=8
   · rw[Nat.min_eq_left hk];simp
   · rw[Nat.min_eq_right Y609]
     have:=a.isLt
     rw[Nat.div_eq_of_lt (Nat.lt_of_lt_of_le this (Nat.pow_le_pow_right Y609 Y609))]
     exact Int.ediv_eq_zero_of_lt Y609 (by exact_mod_cast this)
  have h7:Op.shift .shr .u8 (a.toNat:Int) yk (k:Int)=(Pure.pure (.int .u8 ((a.toNat:Int).fdiv (2 ^ (min k 8)))):Sem Value):=by
   unfold Op.shift
   rw[if_neg Y609];rfl
  show Sem.run P (Op.shift .shr .u8 (a.toNat:Int) yk (k:Int)) w=_
  rw[h7,h1];rfl
end
end Sl
end
section
namespace Sl
section
variable {P:Program} {n:Nat} {E:Env} {C:World->Prop} {dst:Option Tmp} {ty t t':TypeId} {pos:String} {aft:Array Edge} {g:Option (Nat × Bool)} {x y z:Operand}
theorem OQ.ov{s f o:Nat}{fs:Array Field}{fd:Field}{b j sz:Nat}(hu:P.underlying s=some (.struct fs))(hf:fs[f]?=some fd)(hz:gX P fd.type=some sz)(h0:sz≠0)(hx:ev E x=some (.pointer (some ⟨b,j,none⟩)))(ho:j+fd.offset=o) :
  OQ P n E C ⟨dst,.fieldAddr s x f,ty,pos,aft,g⟩ (.pointer (some ⟨b,o,none⟩)):=ho▸OQ.dm hu hf hz h0 hx
structure TS (P:Program) (f:FuncId):Prop where
 go:∃ fn,P.funcs[f]?=some fn/\(fn.name=="runtime.NumGoroutine")=false/\fn.body.isNone=true/\Extern.findNext fn=none/\Extern.find fn=some add64Entry
end
end Sl
end
section
open Sl
def bP(l:List Bt):ByteArray:=⟨(l.map UInt8.ofBitVec).toArray⟩
@[reducible] def Z (l:List Bt):Value:=.string (bP l)
theorem cj(l:List Bt):(bP l).size=l.length:=by
 show(l.map UInt8.ofBitVec).toArray.size=l.length
 simp
theorem jy(l:List Bt):bytesOf (bP l)=l:=by
 show((l.map UInt8.ofBitVec).toArray.toList).map UInt8.toBitVec=l
 simp[Function.comp_def]
theorem zB(s:ByteArray):bP (bytesOf s)=s:=by
 apply ByteArray.ext
 show((s.data.toList.map UInt8.toBitVec).map UInt8.ofBitVec).toArray=s.data
 simp[Function.comp_def]
theorem Ba(l r:List Bt):bP l++bP r=bP (l++r):=by
 apply ByteArray.ext
 rw[ByteArray.data_append]
 show(l.map UInt8.ofBitVec).toArray++(r.map UInt8.ofBitVec).toArray=((l++r).map UInt8.ofBitVec).toArray
 simp
theorem tJ(l r:List Bt):((bP l).toList==(bP r).toList)=decide (l=r):=by
 rw[ByteArray.toList_eq,ByteArray.toList_eq]
 show((l.map UInt8.ofBitVec).toArray.toList==(r.map UInt8.ofBitVec).toArray.toList)=_
 rw[List.toList_toArray,List.toList_toArray]
 exact MP l r
section
variable {P:Program} {n:Nat} {E:Env} {C:World->Prop} {dst:Option Tmp} {ty t t' e:TypeId} {pos:String} {aft:Array Edge} {g:Option (Nat × Bool)} {x y:Operand} {l r:List Bt}
theorem OQ.bM(hu:P.underlying t=some .string)(hx:ev E x=some (Z l)):OQ P n E C ⟨dst,.call ⟨.builtin .len,#[x],#[t]⟩,ty,pos,aft,g⟩ (N l.length):=
 cj l▸OQ.Tc hu hx
theorem OQ.ru{k:IntKind}{i:Nat}(hu:P.underlying t=some .string)(hx:ev E x=some (Z l))(hy:ev E y=some (.int k i))(hi:i<l.length):OQ P n E C ⟨dst,.index t x y,ty,pos,aft,g⟩ (U8 (l.getD i 0)):=
 OQ.run fun a ha w _=>by
  have h1:=ha.eval hx
  have h2:=ha.eval hy
  have h3:(underlying t).run P w=.ok .string w:=run_underlying hu w
  have h4:(bP l)[i]?=some (UInt8.ofBitVec (l.getD i 0)):=by
   have hs:i<(bP l).size:=by rw[cj];exact hi
   rw[getElem?_pos (bP l) i hs]
   show some (((l.map UInt8.ofBitVec).toArray)[i]'(by simpa using hi))=_
   rw[List.getElem_toArray,List.getElem_map,List.getD_eq_getElem?_getD,List.getElem?_eq_getElem hi];rfl
  simp[execOp,h1,h2,Instr.index,asIntOf,Sem.run_bind,h3,h4]
theorem OQ.TT(hx:ev E x=some (Z l))(hy:ev E y=some (Z r)):OQ P n E C ⟨dst,.binOp .eql t x y t',ty,pos,aft,g⟩ (.bool (decide (l=r))):=
 OQ.run fun a ha w _=>by
  have h1:=ha.eval hx
  have h2:=ha.eval hy
  simp[execOp,h1,h2,eqGuard,binOp,Op.stringOp,tJ]
theorem OQ.TU(hx:ev E x=some (Z l))(hy:ev E y=some (Z r)):OQ P n E C ⟨dst,.binOp .neq t x y t',ty,pos,aft,g⟩ (.bool (!decide (l=r))):=
 OQ.run fun a ha w _=>by
  have h1:=ha.eval hx
  have h2:=ha.eval hy
  simp[execOp,h1,h2,eqGuard,binOp,Op.stringOp,tJ]
theorem OQ.fH(hx:ev E x=some (Z l))(hy:ev E y=some (Z r))(h:l.length+r.length<9223372036854775808):OQ P n E C ⟨dst,.binOp .add t x y t',ty,pos,aft,g⟩ (Z (l++r)):=
 OQ.run fun a ha w _=>by
  have h1:=ha.eval hx
  have h2:=ha.eval hy
  have h3:¬ ((((bP l).size+(bP r).size:Nat):Int)>IntKind.i64.max):=by
   rw[cj,cj,show IntKind.i64.max=9223372036854775807 from rfl]
   omega
  have h4:(Op.stringOp .add (bP l) (bP r)).run P w=.ok (Z (l++r)) w:=by
   unfold Op.stringOp
   simp only
   rw[if_neg h3,Ba];rfl
  simp[execOp,h1,h2,eqGuard,binOp,h4,Sem.run_bind]
end
theorem Bb:∀ (l:List Bt) (s:ByteArray),(l.map fun b=>(b.toNat:Int)).foldl (fun r n=>r.push (UInt8.ofNat n.toNat)) s=s++bP l
 | [],s=>by
   apply ByteArray.ext
   rw[ByteArray.data_append]
   show s.data=s.data++#[]
   simp
 | b::l,s=>by
   rw[List.map_cons,List.foldl_cons,Bb l]
   apply ByteArray.ext
   rw[ByteArray.data_append,ByteArray.data_append,ByteArray.data_push]
   have e:UInt8.ofNat ((b.toNat:Int)).toNat=UInt8.ofBitVec b:=by
    apply UInt8.toNat_inj.1
    simp
   rw[e]
   show s.data.push (UInt8.ofBitVec b)++(l.map UInt8.ofBitVec).toArray=s.data++((b::l).map UInt8.ofBitVec).toArray
   simp
theorem tj{P:Program}{w:World}{ad:Addr}{cs:List Value}(h:Reads w (some ad) cs):(loadCells ad cs.length).run P w=.ok cs.toArray w:=by
 refine run_loadCells_list (P:=P) w ad cs fun i v hv=>?_
 obtain⟨b,j,h1,h2⟩:=h i v hv
 cases h1
 rw[dH];exact h2
section
variable {P:Program} {n:Nat} {E:Env} {w0:World} {S:List Nat} {M:List aL} {dst:Option Tmp} {ty t t' e:TypeId} {pos:String} {aft:Array Edge} {g:Option (Nat × Bool)} {x:Operand}
theorem OQ.wU{s:ay}(hs:P.underlying t=some (.slice e))(he:P.underlying e=some (.int .u8))(hd:P.underlying t'=some .string)(hx:ev E x=some s.v)(hr:∀ w,aa w0 S M w->s.ok w) :
  OQ P n E (aa w0 S M) ⟨dst,.convert t t' x,ty,pos,aft,g⟩ (Z s.l):=
 OQ.run fun a ha w hw=>by
  have h1:=ha.eval hx
  have ok:=(hr w hw).reads
  have h2:(convert t t' s.v).run P w=.ok (Z s.l) w:=by
   obtain⟨ad,cap,l⟩:=s
   show(convert t t' (.slice ad l.length cap)).run P w=_
   rw[run_convert_bytes_string w t t' e ad l.length cap hs he hd]
   cases ad with
   | none=>
     have:l=[]:=by
      cases l with
      | nil=>rfl
      | cons b l=>
        obtain⟨_,_,h,_⟩:=ok 0 (U8 b) rfl
        cases h
     subst this
     rfl
   | some ad=>
     have h3:(loadCells ad l.length).run P w=.ok ((l.map fun b=>(b.toNat:Int)).map (Value.int .u8)).toArray w:=by
      have:=tj (P:=P) ok
      rw[List.length_map] at this
      rw[this,List.map_map];rfl
     rw[run_bytesToString w ad l.length cap _ h3,Bb]
     have:ByteArray.empty++bP l=bP l:=by
      apply ByteArray.ext
      rw[ByteArray.data_append]
      show #[]++(bP l).data=_
      simp
     rw[this]
  simp only[execOp,h1,Sem.run_bind,h2,Result.andThen_ok];rfl
end
theorem JL.JM{P:Program}{n:Nat}{w0:World}{S:List Nat}{ops:Array Oper}{Q:Exit->Act->World->Prop}{l:List Oper}{E:Env}{M:List aL}{t e ty ty':TypeId}{x1 x2 y:Operand}{z v1 v2:Value}{by' k cap b d1 d2:Nat}{pos pos':String}{aft aft':Array Edge}{xs:List Value}
  (M':Nat->Nat->List aL) (hu:P.underlying t=some (.slice e)) (hi:EI P e z 1 by') (hz:z.cells.size=1) (hx1:ev E x1=some v1) (hx2:ev E x2=some v2) (hv1:v1.cells=#[v1]) (hv2:v2.cells=#[v2]) (h1:v1.oneCell'=true) (h2:v2.oneCell'=true)
  (ha:∀ bl,ev ((d1,.slice (some ⟨bl,0,none⟩) 2 2)::E) y=some (.slice (some ⟨b,0,none⟩) k cap)) (hup:∀ b' cap',aR M b (Sl.Own e 1 k cap xs) b' (Sl.Own e 1 (k+2) cap' (xs++[v1,v2])) (M' b' cap'))
  (hsm:(k+2)*by'<=140737488355328) (hsm2:k+2<9223372036854775808) (hd1:Nat.blt d1 n=true) (hd2:Nat.blt d2 n=true)
  (kk:∀ bl b' cap',JL P n w0 S ops Q l ((d2,.slice (some ⟨b',0,none⟩) (k+2) cap')::(d1,.slice (some ⟨bl,0,none⟩) 2 2)::E) (M' b' cap')) :
  JL P n w0 S ops Q (⟨some d1,.buildSlice t 2 #[(0,x1),(1,x2)],ty,pos,aft,none⟩::⟨some d2,.call ⟨.builtin .append,#[y,.tmp d1],#[t,t]⟩,ty',pos',aft',none⟩::l) E M:=by
 refine JL.zz (xs:=[x1,x2]) (vs:=[v1,v2]) hu hi hz rfl (by simp[pK,hx1,hx2]) Y631 (by simp[hv1,hv2]) rfl Y610 Y610 hd1 fun bl _=>?_
 refine JL.append (cs:=[v1,v2]) (m:=2) (ad:=some ⟨bl,0,none⟩) (sc:=2) (fun b' cap'=>⟨bl,Row e [v1,v2],true⟩::M' b' cap') hu hi (ha bl) Y630 (fun b' cap'=>.there (hup b' cap')) rfl (fun w hw=>?_) Y631 hz Y610 hsm hsm2 hd2 fun b' cap'=>?_
 · obtain⟨o,ho,hA⟩:=hw.get (b:=bl) (A:=Row e [v1,v2]) (wr:=true) .here
   exact Y242
 · exact Y243
structure iP (x:ay) (l:List Bt):Prop where
 val:x.l=l
 none:x.ad=.none->x.l=[]
theorem GK(A M:List aL):aj M (A++M):=by
 induction A with
 | nil=>exact aj.refl _
 | cons e A ih=>exact .drop _ _ _ ih
theorem iP.ok{x:ay}{l:List Bt}{w0 w:World}{S:List Nat}{M:List aL}(h:iP x l)(hw:aa w0 S (x.an++M) w):x.ok w:=ay.bU hw h.none
theorem iP.Mo{x:ay}{l:List Bt}{w0 w:World}{S:List Nat}{A M:List aL}(h:iP x l)(hw:aa w0 S (A++(x.an++M)) w):x.ok w:=h.ok (hw.weak (GK _ _))
theorem Bc{c d:Bt}(h:¬ c=d):¬ (c.toNat:Int)=(d.toNat:Int):=fun e=>h (BitVec.eq_of_toNat_eq Y609)
end
section
namespace Sl
section
variable {P:Program} {n:Nat} {w0:World} {S:List Nat} {ops:Array Oper} {Q:Exit->Act->World->Prop} {l:List Oper} {E:Env} {M:List aL}
variable {d:Nat} {t e ty:TypeId} {pos:String} {aft:Array Edge} {v z:Value} {x y:Operand} {sz by':Nat} {cs ds:List Value}
theorem Fm{sz:Nat}(h0:0<sz):∀ {css:List (List Value)} (_:∀ c∈css,c.length=sz) (k:Nat),css.flatten[k]?=(css[k / sz]?).bind fun c=>c[k%sz]?
 | [],_,k=>by simp
 | c::css,h,k=>by
   have hc:=h c Y614
   rw[List.flatten_cons]
   by_cases hk:k<sz
   · rw[List.getElem?_append_left Y609,Nat.div_eq_of_lt hk,Nat.mod_eq_of_lt hk]
     rfl
   · rw[List.getElem?_append_right Y609,hc,Fm h0 (fun d hd=>h d Y617) (k-sz),Nat.mod_eq_sub_mod (a:=k) (b:=sz) Y609]
     have e1:k / sz=(k-sz) / sz+1:=by
      rw[show k=(k-sz)+sz by omega,Nat.add_div_right _ h0,Nat.add_sub_cancel]
     rw[e1,List.getElem?_cons_succ]
theorem lC{sz:Nat}:∀ {css:List (List Value)} (_:∀ c∈css,c.length=sz),css.flatten.length=css.length*sz
 | [],_=>by simp
 | c::css,h=>by
   rw[List.flatten_cons,List.length_append,h c Y614,lC fun d hd=>h d Y617,List.length_cons,Nat.add_mul]
   omega
theorem Dn{w:World}{css:List (List Value)}{m:Nat}(hu:P.underlying t=some (.slice e))(hi:EI P e z sz by')(h0:0<sz)(hm:css.length=m)(hm0:0<m)(hsm:m*sz<=16777216)(hl:∀ c∈css,c.length=sz) :
  (Instr.buildSlice t m (((css.map fun c=>Value.agg c.toArray).zipIdx 0).map fun x=>(x.2,x.1)).toArray).run P w=.ok (.slice (some ⟨w.heap.size,0,none⟩) m m) { w with heap:=w.heap.push (.cells css.flatten.toArray e (0,0)) }:=by
 have h3:(underlying t).run P w=.ok (.slice e) w:=run_underlying hu w
 obtain⟨i,h4,h5,_⟩:=hi.get
 obtain⟨r,h6,h7,h8⟩:=Great.fill_dense h0 (css.map fun c=>Value.agg c.toArray) 0 ((Array.range (m*sz)).map (z.cells[·%z.cells.size]!)) (by intro v hv;obtain⟨c,hc,rfl⟩:=List.mem_map.1 hv;simp[Value.cells,hl c hc]) (by simp[hm])
 have hf:=lC hl
 have hr:r=css.flatten.toArray:=by
  apply Array.ext_getElem?
  intro k
  have e:css.flatten.toArray[k]?=(css[k / sz]?).bind fun c=>c[k%sz]?:=by rw[List.getElem?_toArray,Fm h0 hl]
  rw[h8 k,e]
  by_cases hk:k<m*sz
  · rw[if_pos (by simp[hm];omega),Nat.sub_zero,List.getElem?_map]
    cases css[k / sz]? with
    | none=>rfl
    | some c=>simp[Value.cells]
  · have hd:m<=k / sz:=(Nat.le_div_iff_mul_le h0).2 Y609
    rw[if_neg (by simp[hm];omega),Array.getElem?_eq_none Y624,List.getElem?_eq_none Y609]
    rfl
 subst hr
 have h11:(zeroValue e).run P w=.ok z w:=by simp[zeroValue,typeInfo,h4,h5]
 have h12:¬ (16777216<m*sz):=by omega
 have h13:¬ (m=0):=by omega
 have h14:¬ (sz=0):=by omega
 have h15:¬ (m*sz=0):=by have:=Nat.mul_pos hm0 h0;omega
 simp[Instr.buildSlice,Sem.run_bind,h3,bR hi.sz,h11,h12,h13,h14,h15,h6,newRow,newObj,Sem.run]
theorem JL.Tg{xs:List Operand}{ps:Array (Nat × Operand)}{css:List (List Value)}{m:Nat}(hu:P.underlying t=some (.slice e))(hi:EI P e z sz by')(h0:0<sz)(hps:ps=(pairs 0 xs).toArray)(hx:pK E xs=some (css.map fun c=>Value.agg c.toArray))(hm:css.length=m)(hm0:0<m)(hsm:m*sz<=16777216)(hl:∀ c∈css,c.length=sz)(hd:Nat.blt d n=true)
  (k:∀ b,w0.heap.size<=b->JL P n w0 S ops Q l ((d,.slice (some ⟨b,0,none⟩) m m)::E) (⟨b,Row e css.flatten,true⟩::M)):JL P n w0 S ops Q (⟨some d,.buildSlice t m ps,ty,pos,aft,none⟩::l) E M:=
 ⟨fun a w ha hw=>wpList_plain rfl fun K hK=>by
  unfold Oper.wp
  have hm':ps.map (fun (i,x)=>(i,a.eval x))=(((css.map fun c=>Value.agg c.toArray).zipIdx 0).map fun x=>(x.2,x.1)).toArray:=by
   rw[hps,List.map_toArray,<- rq ha 0 hx]
  simp only[execOp,hm',Sem.run_bind,Dn hu hi h0 hm hm0 hsm hl,Result.andThen_ok]
  exact hK _ _ ((k w.heap.size hw.aH.size).go _ _ (ha.put d _ hd) (hw.push _ rfl rfl rfl rfl rfl))⟩
end
section
variable {P:Program} {n:Nat} {E:Env} {C:World->Prop} {dst:Option Tmp} {t t' ty:TypeId} {pos:String} {aft:Array Edge} {g:Option (Nat × Bool)} {x y:Operand}
theorem OQ.Uj{xs ys:List Value}{la lb:List Lit}{c:Bool}(hk:P.keyTypeAt 2 t=true)(hgd:P.eqGuardType P.depth t=false)(hx:ev E x=some (.agg xs.toArray))(hy:ev E y=some (.agg ys.toArray))(fx:(Value.agg xs.toArray).formed P t=true)(fy:(Value.agg ys.toArray).formed P t=true)(kx:P.keyLits 3 t xs=some la)(ky:P.keyLits 3 t ys=some lb)(hc:c=true↔la=lb) :
  OQ P n E C ⟨dst,.binOp .neq t x y t',ty,pos,aft,g⟩ (.bool (!c)):=
 OQ.run fun a ha w _=>by
  have h1:=ha.eval hx
  have h2:=ha.eval hy
  obtain⟨r,h3,h6⟩:=run_equalIn_deep (P:=P) 9998 2 t hk w 3 3 _ _ la lb fx fy kx ky
  have h4:=fun w=>run_eqGuard_agg (P:=P) (w:=w) .neq t x y xs.toArray ys.toArray hgd
  have h5:=fun w=>run_neq_struct (P:=P) (w:=w) t xs.toArray ys.toArray
  have hr:r=c:=by
   cases r <;> cases c <;> simp_all
  subst hr
  have h3':(Op.equalIn 10000 t (.agg xs.toArray) (.agg ys.toArray)).run P w=.ok r w:=h3
  simp only[execOp,h1,h2,Sem.run_bind,h4,Result.andThen_ok,h5,h3']
  rfl
end
end Sl
end
section
namespace aq
theorem ie{v:List By}:aO v=v↔(v=[]\/bl (v.getD 0 0)=false):=by
 constructor
 · intro h
   cases v with
   | nil=>exact .inl rfl
   | cons c r=>
     refine .inr ?_
     cases hc:bl c with
     | false=>exact hc
     | true=>
       exfalso
       have h1:aO (c::r)=aO r:=by simp[aO,hc]
       rw[h1] at h
       have h2:=congrArg List.length h
       have h3:(aO r).length<=r.length:=(List.dropWhile_sublist _).length_le
       rw[List.length_cons] at h2
       omega
 · exact gB
theorem xM{v:List By}:trim v=v↔(v=[]\/(bl (v.getD 0 0)=false/\bl (v.getD (v.length-1) 0)=false)):=by
 have e0:∀ u:List By,u≠[]->u.reverse.getD 0 0=u.getD (u.length-1) 0:=by
  intro u hu
  have hl:0<u.length:=List.length_pos_iff.2 hu
  rw[List.getD_eq_getElem?_getD,List.getD_eq_getElem?_getD,List.getElem?_reverse Y609]
  simp
 constructor
 · intro h
   have h1:(trim v).length=v.length:=congrArg List.length h
   have h2:(aO (aO v).reverse).length<=(aO v).reverse.length:=(List.dropWhile_sublist _).length_le
   have h3:(aO v).length<=v.length:=(List.dropWhile_sublist _).length_le
   unfold trim at h1
   rw[List.length_reverse] at h1 h2
   have h4:aO v=v:=List.IsSuffix.eq_of_length (l₁:=aO v) (List.dropWhile_suffix bl) Y609
   unfold trim at h
   rw[h4] at h
   have h5:aO v.reverse=v.reverse:=by
    have:=congrArg List.reverse h
    rwa [List.reverse_reverse] at this
   cases v with
   | nil=>exact .inl rfl
   | cons c r=>
     refine .inr ⟨(ie.1 h4).resolve_left Y614,?_⟩
     have:=(ie.1 h5).resolve_left Y614
     rwa [e0 _ Y614] at this
 · rintro(rfl|⟨h1,h2⟩)
   · rfl
   · unfold trim
     by_cases hv:v=[]
     · subst hv;rfl
     · rw[gB (.inr h1),gB (v:=v.reverse) (.inr (by rw[e0 _ hv];exact h2)),List.reverse_reverse]
theorem GL(v:List By):trim (trim v)=trim v:=by
 have key:∀ u:List By,aO (aO u)=aO u:=fun u=>by
  rw[ie]
  unfold aO
  induction u with
  | nil=>exact .inl rfl
  | cons c r ih=>
    cases hc:bl c with
    | true=>simpa [List.dropWhile_cons,hc] using ih
    | false=>exact .inr (by simp[List.dropWhile_cons,hc])
 rw[xM]
 by_cases he:trim v=[]
 · exact .inl he
 refine .inr ?_
 have e0:∀ u:List By,u≠[]->u.reverse.getD 0 0=u.getD (u.length-1) 0:=by
  intro u hu
  have hl:0<u.length:=List.length_pos_iff.2 hu
  rw[List.getD_eq_getElem?_getD,List.getD_eq_getElem?_getD,List.getElem?_reverse Y609]
  simp
 have hx:aO (aO v).reverse≠[]:=fun h=>he (by unfold trim;rw[h];rfl)
 have hb:bl ((aO (aO v).reverse).getD 0 0)=false:=(ie.1 (key _)).resolve_left hx
 have hv:aO v≠[]:=fun h=>hx (by rw[h];rfl)
 have ha:bl ((aO v).getD 0 0)=false:=(ie.1 (key _)).resolve_left hv
 obtain⟨p,hp⟩:=List.dropWhile_suffix bl (l:=(aO v).reverse)
 have hp:p++aO (aO v).reverse=(aO v).reverse:=hp
 constructor
 · have h1:aO v=trim v++p.reverse:=by
    have:=congrArg List.reverse hp
    rw[List.reverse_append,List.reverse_reverse] at this
    exact this.symm
   rw[h1] at ha
   have:0<(trim v).length:=List.length_pos_iff.2 he
   rwa [List.getD_eq_getElem?_getD,List.getElem?_append_left this,<- List.getD_eq_getElem?_getD] at ha
 · rw[<- e0 _ he]
   have:(trim v).reverse=aO (aO v).reverse:=by unfold trim;rw[List.reverse_reverse]
   rw[this]
   exact hb
theorem Fp(v:List By):fC v=(decide (v.length<=8192)&&(decide (v=trim v)&&v.all fB)):=by
 unfold fC
 have h:(decide (v.length=0)||(!bl (v.getD 0 0)&&!bl (v.getD (v.length-1) 0)))=decide (v=trim v):=by
  rw[Bool.eq_iff_iff,Bool.or_eq_true,Bool.and_eq_true,decide_eq_true_eq,decide_eq_true_eq,eq_comm (a:=v),xM,List.length_eq_zero_iff,Bool.not_eq_true',Bool.not_eq_true']
 rw[h]
 cases v.all fB <;> cases decide (v.length<=8192) <;> cases decide (v=trim v) <;> rfl
theorem GM(v:List By)(h:(trim v).length<=8192):fC (trim v)=(trim v).all fB:=by
 rw[Fp,GL,decide_eq_true h,decide_eq_true rfl,Bool.true_and,Bool.true_and]
def fb(w:List By):Nat:=(w.takeWhile fun c=>!bl c).length
theorem OE(w:List By):fb w<=w.length:=(List.takeWhile_sublist _).length_le
theorem JN:∀ (w:List By) {k:Nat},k<fb w->bl (w.getD k 0)=false
 | [],k,h=>by simp[fb] at h
 | c::r,k,h=>by
   cases hc:bl c with
   | true=>simp[fb,hc] at h
   | false=>
     have e:fb (c::r)=fb r+1:=by simp[fb,hc]
     cases k with
     | zero=>exact hc
     | succ k=>exact JN r Y609
theorem OF:∀ (w:List By),fb w<w.length->bl (w.getD (fb w) 0)=true
 | [],h=>by simp[fb] at h
 | c::r,h=>by
   cases hc:bl c with
   | true=>
     have e:fb (c::r)=0:=by simp[fb,hc]
     rw[e];exact hc
   | false=>
     have e:fb (c::r)=fb r+1:=by simp[fb,hc]
     rw[e] at h⊢
     exact OF r Y616
theorem sC:∀ (u:List By),∃ p,u=p++aO u/\∀ c∈p,bl c=true
 | []=>⟨[],rfl,by simp⟩
 | c::r=>by
   cases hc:bl c with
   | true=>
     obtain⟨p,h1,h2⟩:=sC r
     refine⟨c::p,?_,?_⟩
     · have:aO (c::r)=aO r:=by simp[aO,hc]
       rw[this,List.cons_append,<- h1]
     · intro d hd
       rcases List.mem_cons.1 hd with rfl|hd
       · exact hc
       · exact h2 d hd
   | false=>exact⟨[],by simp[aO,hc],by simp⟩
theorem jK(u:List By):(aO u).length<=u.length:=(List.dropWhile_sublist _).length_le
def m8(s:List By):Nat:=s.length-(aO s).length+fb (aO s)
theorem MR{v:List By}{i e:Nat}(h1:i<=e)(h2:e<=v.length)(hn:∀ j,i<=j->j<e->¬ tn v j=true)(he:e<v.length->tn v e=true):scan v i=e:=by
 have hi:i<=v.length:=by omega
 have a1:=pM v i
 have a2:=yZ v i hi
 by_cases hlt:scan v i<e
 · exact absurd (EW v i hi Y609) (hn _ a2 hlt)
 · by_cases hgt:e<scan v i
   · exact absurd (he Y609) (EX v i hi e h1 hgt)
   · omega
theorem Dp{v:List By}{i:Nat}(hi:i<v.length):i+m8 (v.drop i)=scan v (i+1):=by
 obtain⟨p,h1,h2⟩:=sC (v.drop i)
 have hw0:aO (v.drop i)=[]\/bl ((aO (v.drop i)).getD 0 0)=false:=by
  have key:∀ u:List By,aO (aO u)=aO u:=fun u=>by
   rw[ie]
   unfold aO
   induction u with
   | nil=>exact .inl rfl
   | cons c r ih=>
     cases hc:bl c with
     | true=>simpa [List.dropWhile_cons,hc] using ih
     | false=>exact .inr (by simp[List.dropWhile_cons,hc])
  exact ie.1 (key _)
 have hlen:(v.drop i).length=v.length-i:=List.length_drop
 have e0:m8 (v.drop i)=p.length+fb (aO (v.drop i)):=by
  have:=congrArg List.length h1
  rw[List.length_append] at this
  unfold m8
  omega
 rw[e0]
 generalize hw:aO (v.drop i)=w at h1 hw0 e0⊢
 have hl:p.length+w.length=v.length-i:=by
  have:=congrArg List.length h1
  rw[List.length_append,hlen] at this
  omega
 have at1:∀ k,v.getD (i+k) 0=(p++w).getD k 0:=fun k=>by
  rw[<- h1,List.getD_eq_getElem?_getD,List.getD_eq_getElem?_getD,List.getElem?_drop]
 have atp:∀ k,k<p.length->bl (v.getD (i+k) 0)=true:=fun k hk=>by
  rw[at1,List.getD_eq_getElem?_getD,List.getElem?_append_left hk,List.getElem?_eq_getElem hk]
  exact h2 _ (List.getElem_mem hk)
 have atw:∀ k,v.getD (i+p.length+k) 0=w.getD k 0:=fun k=>by
  rw[Nat.add_assoc,at1,List.getD_eq_getElem?_getD,List.getD_eq_getElem?_getD,List.getElem?_append_right Y609]
  congr 2
  omega
 have hfl:=OE w
 have hf0:w≠[]->0<fb w:=by
  intro hne
  have hb:=hw0.resolve_left hne
  cases w with
  | nil=>exact absurd rfl hne
  | cons c r=>
    have hb:bl c=false:=hb
    simp[fb,hb]
 have hwl:w≠[]↔0<w.length:=List.length_pos_iff.symm
 symm
 refine MR (by
  by_cases hp:p.length=0
  · have:=hf0 (hwl.2 Y609);omega
  · omega) Y609 ?_ ?_
 · intro j hj1 hj2 ht
   have hb:=Ov ht
   simp only[tn,Bool.and_eq_true,Bool.not_eq_true'] at ht
   by_cases hj:j<=i+p.length
   · have:=atp (j-1-i) Y609
     rw[show i+(j-1-i)=j-1 by omega] at this
     rw[this] at ht
     exact absurd ht.2.2 Y610
   · have:=JN w (k:=j-i-p.length) Y609
     rw[<- atw,show i+p.length+(j-i-p.length)=j by omega] at this
     rw[this] at hb
     cases hb
 · intro hlt
   have hfw:fb w<w.length:=by omega
   have h0:0<fb w:=hf0 (hwl.2 Y609)
   have a:=OF w hfw
   have b:=JN w (k:=fb w-1) Y609
   rw[<- atw] at a b
   simp only[tn,Bool.and_eq_true,Bool.not_eq_true',decide_eq_true_eq]
   refine⟨by omega,?_,?_⟩
   · rw[show i+(p.length+fb w)=i+p.length+fb w by omega];exact a
   · rw[show i+(p.length+fb w)-1=i+p.length+(fb w-1) by omega];exact b
theorem JO(n v:List By)(i:Nat):∀ k,i+1+k<=v.length->(∀ j,i+1<=j->j<i+1+k->¬ tn v j=true)->
  st n v (i+1+k)=((st n v (i+1)).1++(v.take (i+1+k)).drop (i+1),(st n v (i+1)).2+k)
 | 0,h,_=>by
   rw[List.drop_of_length_le Y625]
   simp
 | k+1,h,hn=>by
   have ih:=JO n v i k Y609 (fun j h1 h2=>hn j h1 Y609)
   have ht:=hn (i+1+k) Y609 Y609
   have e:i+1+(k+1)=(i+1+k)+1:=by omega
   rw[e,st,if_neg (fun hh=>ht hh.1),ih,eD v Y609]
   rw[List.drop_append_of_le_length Y625]
   simp only[List.append_assoc]
   rfl
def Dq(n v:List By)(i:Nat):Bool:=tn v i&&decide (76<(st n v i).2+(scan v (i+1)-i))
theorem JP(n v:List By){i:Nat}(hi:i<v.length):st n v (scan v (i+1)) =
  (((st n v i).1++(if Dq n v i then [13,10] else []))++(v.take (scan v (i+1))).drop i,(if Dq n v i then 0 else(st n v i).2)+(scan v (i+1)-i)):=by
 have a1:=pM v (i+1)
 have a2:=yZ v (i+1) hi
 have a3:=EX v (i+1) hi
 generalize he:scan v (i+1)=e at a1 a2 a3⊢
 have h1:=JO n v i (e-(i+1)) Y609 (fun j h1 h2=>a3 j h1 Y609)
 rw[show i+1+(e-(i+1))=e by omega] at h1
 have e2:(v.take e).drop i=v.getD i 0::(v.take e).drop (i+1):=by
  rw[List.drop_eq_getElem_cons Y625,List.getElem_take,List.getD_eq_getElem?_getD,List.getElem?_eq_getElem hi]
  rfl
 rw[h1,e2]
 have hb:Dq n v i=true↔(tn v i=true/\76<(st n v i).2+scan v (i+1)-i):=by
  unfold Dq
  rw[he,Bool.and_eq_true,decide_eq_true_eq]
  constructor
  · rintro⟨p,q⟩;exact⟨p,by omega⟩
  · rintro⟨p,q⟩;exact⟨p,by omega⟩
 conv=>lhs;rw[st]
 by_cases h:tn v i=true/\76<(st n v i).2+scan v (i+1)-i
 · rw[if_pos h,if_pos (hb.2 h),if_pos (hb.2 h)]
   simp only[List.append_assoc,List.cons_append,List.nil_append,Prod.mk.injEq,true_and]
   omega
 · rw[if_neg h,if_neg (fun k=>h (hb.1 k)),if_neg (fun k=>h (hb.1 k))]
   simp only[List.append_assoc,List.cons_append,List.nil_append,List.append_nil,Prod.mk.injEq,true_and]
   omega
theorem JS(n v:List By):∀ i,n.length+2+i<=(st n v i).1.length
 | 0=>by simp[st]
 | i+1=>by
   have:=JS n v i
   unfold st
   split
   · simp only[List.length_append,List.length_cons,List.length_nil];omega
   · simp only[List.length_append,List.length_cons,List.length_nil];omega
theorem JT{b l r:List By}(h:cut b=some (l,r)):(bf b).length<b.length/\l=oF (bf b)/\r=b.drop ((bf b).length+1):=by
 unfold cut at h
 split at h
 · cases h;exact⟨by assumption,rfl,rfl⟩
 · cases h
theorem uP:∀ (b:List By),(bf b).length<b.length->b=bf b++10::b.drop ((bf b).length+1)
 | [],h=>by simp[bf] at h
 | c::r,h=>by
   by_cases hc:c=10
   · subst hc
     have:bf (10::r)=[]:=by simp[bf]
     rw[this];rfl
   · have e:bf (c::r)=c::bf r:=by
      unfold bf
      rw[List.takeWhile_cons,if_pos (bne_iff_ne.2 hc)]
     rw[e] at h⊢
     simp only[List.length_cons,List.drop_succ_cons,List.cons_append,List.cons.injEq,true_and] at h⊢
     exact uP r Y609
theorem Bd(b:List By):∀ c∈bf b,c≠10:=by
 intro c hc
 have:=(List.all_eq_true.1 (List.all_takeWhile (l:=b) (p:=(· != 10)))) c hc
 simpa using this
theorem Dr{b:List By}{m:Nat}(h:(bf b).length<m)(hb:(bf b).length<b.length):bf (b.take m)=bf b:=by
 have e:=uP b hb
 have h2:b.take m=bf b++(10::b.drop ((bf b).length+1)).take (m-(bf b).length):=by
  conv=>lhs;rw[e]
  rw[List.take_append,List.take_of_length_le Y609]
 rw[h2,nO (Bd b)]
 have h3:m-(bf b).length=(m-(bf b).length-1)+1:=by omega
 rw[h3,List.take_succ_cons]
 simp[bf]
theorem sD{b:List By}{m:Nat}(h:(bf (b.take m)).length<(b.take m).length):bf (b.take m)=bf b:=by
 have e:=uP _ h
 have h2:b=bf (b.take m)++(10::(b.take m).drop ((bf (b.take m)).length+1)++b.drop m):=by
  have:=List.take_append_drop m b
  conv=>lhs;rw[<- this]
  conv=>lhs;rw[e]
  rw[List.append_assoc]
 conv=>rhs;rw[h2]
 rw[nO (Bd _)]
 simp[bf]
theorem xN(m:Nat):∀ (n:Nat) (b:List By),b.length<=n->∀ k,(hend (b.take m)=some k↔(hend b=some k/\k<=m)):=by
 intro n
 induction n generalizing m with
 | zero=>
   intro b hb k
   obtain rfl:b=[]:=List.eq_nil_of_length_eq_zero Y609
   have:hend []=none:=kX (by simp[cut,bf])
   rw[List.take_nil,this]
   simp
 | succ n ih=>
   intro b hb k
   by_cases hc:(bf b).length<b.length
   · by_cases hm:(bf b).length<m
     · have e1:=Dr hm hc
       have c1:cut b=some (oF (bf b),b.drop ((bf b).length+1)):=by unfold cut;rw[if_pos hc]
       have c2:cut (b.take m)=some (oF (bf b),(b.drop ((bf b).length+1)).take (m-((bf b).length+1))):=by
        unfold cut
        rw[e1,if_pos Y625,List.drop_take]
       have l1:b.length-(b.drop ((bf b).length+1)).length=(bf b).length+1:=by rw[List.length_drop];omega
       have l2:(b.take m).length-((b.drop ((bf b).length+1)).take (m-((bf b).length+1))).length=(bf b).length+1:=by
        rw[List.length_take,List.length_take,List.length_drop];omega
       generalize hp:oF (bf b)=p at c1 c2
       by_cases hp0:p=[]
       · subst hp0
         rw[mU c1,mU c2,l1,l2]
         constructor
         · intro h;cases h;exact⟨rfl,hm⟩
         · rintro⟨h,_⟩;exact h
       · rw[nQ c1 hp0,nQ c2 hp0,l1,l2]
         have:=ih (m-((bf b).length+1)) (b.drop ((bf b).length+1)) Y632
         constructor
         · intro h
           obtain⟨a,h1,h2⟩:=Option.map_eq_some_iff.1 h
           obtain⟨h3,h4⟩:=(this a).1 h1
           rw[h3]
           subst h2
           exact⟨rfl,by omega⟩
         · rintro⟨h,h4⟩
           obtain⟨a,h1,h2⟩:=Option.map_eq_some_iff.1 h
           subst h2
           rw[(this a).2 ⟨h1,by omega⟩]
           rfl
     ·
       have n2:cut (b.take m)=none:=by
        unfold cut
        rw[if_neg]
        intro h
        have:=sD h
        rw[this,List.length_take] at h
        omega
       rw[kX n2]
       constructor
       · intro h;cases h
       · rintro⟨h,h4⟩
         exfalso
         have c1:cut b=some (oF (bf b),b.drop ((bf b).length+1)):=by unfold cut;rw[if_pos hc]
         have l1:b.length-(b.drop ((bf b).length+1)).length=(bf b).length+1:=by rw[List.length_drop];omega
         generalize oF (bf b)=p at c1
         by_cases hp0:p=[]
         · subst hp0
           rw[mU c1,l1] at h
           cases h;omega
         · rw[nQ c1 hp0,l1] at h
           obtain⟨a,_,h2⟩:=Option.map_eq_some_iff.1 h
           omega
   · have n1:cut b=none:=by unfold cut;rw[if_neg hc]
     have n2:cut (b.take m)=none:=by
      unfold cut
      rw[if_neg]
      intro h
      have:=sD h
      rw[this,List.length_take] at h
      omega
     rw[kX n1,kX n2]
     simp
def Be(b:List By):Bool:=decide (65536<b.length)&&(hend (b.take 65536)).isNone
theorem MS:∀ (n:Nat) (b:List By),b.length<=n->∀ k,hend b=some k->k<=b.length:=by
 intro n b _ k h
 have:=(xN b.length n b (by assumption) k).1 (by rw[List.take_length];exact h)
 exact this.2
theorem MT(b:List By):(65536<(hend b).getD b.length)↔Be b=true:=by
 unfold Be
 rw[Bool.and_eq_true,decide_eq_true_eq]
 have ht:=xN 65536 b.length b (Nat.le_refl _)
 cases h:hend b with
 | none=>
   have:hend (b.take 65536)=none:=by
    cases h2:hend (b.take 65536) with
    | none=>rfl
    | some k=>rw[((ht k).1 h2).1] at h;cases h
   rw[this]
   simp
 | some k=>
   have hk:=MS b.length b (Nat.le_refl _) k h
   simp only[Option.getD_some]
   constructor
   · intro hlt
     refine⟨by omega,?_⟩
     cases h2:hend (b.take 65536) with
     | none=>rfl
     | some k'=>
       obtain⟨h3,h4⟩:=(ht k').1 h2
       rw[h] at h3
       cases h3;omega
   · rintro⟨_,hn⟩
     by_cases hlt:65536<k
     · exact hlt
     · rw[(ht k).2 ⟨h,by omega⟩] at hn
       cases hn
end aq
namespace aq
def dD(l:List By):List UInt8:=l.map UInt8.ofBitVec
theorem fI(l:List By):(bP l).data.toList=dD l:=rfl
theorem zC(l:List By):(⟨(dD l).toArray⟩:ByteArray)=bP l:=rfl
theorem Bf(p:UInt8->Bool):∀ l:List By,(dD l).dropWhile p=dD (l.dropWhile fun c=>p (UInt8.ofBitVec c))
 | []=>rfl
 | c::l=>by
   show(UInt8.ofBitVec c::dD l).dropWhile p=_
   rw[List.dropWhile_cons,List.dropWhile_cons]
   cases h:p (UInt8.ofBitVec c) with
   | true=>exact Bf p l
   | false=>rfl
theorem Fq(l:List By):(dD l).reverse=dD l.reverse:=by unfold dD;rw[List.map_reverse]
theorem Bg(c:By):(dD [32,9]).contains (UInt8.ofBitVec c)=bl c:=by
 have h:∀ c:Fin 256,(dD [32,9]).contains (UInt8.ofBitVec (BitVec.ofNat 8 c.val))=bl (BitVec.ofNat 8 c.val):=by decide +kernel
 simpa using h ⟨c.toNat,c.isLt⟩
theorem uQ(l:List By):Go.Lib.trimLeftS (dD l) (dD [32,9])=dD (aO l):=by
 unfold Go.Lib.trimLeftS
 rw[Bf]
 congr 1
 unfold aO
 congr 1
 funext c
 exact Bg c
def sE(v:List By):List By:=(aO v.reverse).reverse
theorem uR(c:By)(r:List By):sE (c::r)=if sE r=[]/\bl c=true then [] else c::sE r:=by
 unfold sE aO
 rw[List.reverse_cons,List.dropWhile_append]
 by_cases h:(r.reverse.dropWhile bl)=[]
 · rw[h]
   cases hc:bl c <;> simp[hc]
 · have h2:(r.reverse.dropWhile bl).isEmpty=false:=by simpa using h
   rw[h2,if_neg Y610,if_neg (by rintro⟨k,_⟩;exact h (by simpa using k)),List.reverse_append]
   rfl
theorem xO:∀ v:List By,aO (sE v)=sE (aO v)
 | []=>rfl
 | c::r=>by
   have ih:=xO r
   rw[uR]
   cases hc:bl c with
   | true=>
     have e:aO (c::r)=aO r:=by simp[aO,hc]
     rw[e,<- ih]
     by_cases h:sE r=[]
     · rw[if_pos ⟨h,rfl⟩,h]
     · rw[if_neg (fun k=>h k.1)]
       simp[aO,hc]
   | false=>
     have e:aO (c::r)=c::r:=by simp[aO,hc]
     rw[if_neg Y620,e,uR,if_neg (by rintro⟨_,k⟩;rw[hc] at k;cases k)]
     simp[aO,hc]
theorem MU(l:List By):Go.Lib.trimS (dD l) (dD [32,9])=dD (trim l):=by
 have h1:Go.Lib.trimRightS (dD l) (dD [32,9])=dD (sE l):=by
  unfold Go.Lib.trimRightS
  rw[Fq]
  have:=uQ l.reverse
  unfold Go.Lib.trimLeftS at this
  rw[this,Fq]
  rfl
 unfold Go.Lib.trimS
 rw[h1,uQ,xO]
 rfl
theorem Bh(v:List By):(trim v).length<=v.length:=by
 unfold trim
 rw[List.length_reverse]
 have h1:=jK (aO v).reverse
 have h2:=jK v
 rw[List.length_reverse] at h1
 omega
def RG(w:List By):Int:=if fb w<w.length then(fb w:Int) else -1
theorem MV(c:By)(r:List By):fb (c::r)=if bl c then 0 else fb r+1:=by
 unfold fb
 rw[List.takeWhile_cons]
 cases bl c <;> simp
theorem sF:∀ w:List By,Go.Lib.indexAny (dD w) (dD [32,9])=RG w
 | []=>rfl
 | c::r=>by
   show(if (dD [32,9]).contains (UInt8.ofBitVec c) then 0 else if Go.Lib.indexAny (dD r) (dD [32,9]) == -1 then -1 else Go.Lib.indexAny (dD r) (dD [32,9])+1:Int)=_
   rw[Bg,sF r]
   unfold RG
   rw[MV]
   cases hc:bl c with
   | true=>simp
   | false=>
     simp only[Bool.false_eq_true,if_false,List.length_cons,Nat.add_lt_add_iff_right]
     by_cases h:fb r<r.length
     · simp only[h,if_true]
       rw[if_neg Y633]
       omega
     · simp only[h,if_false]
       rfl
def fi(c:By)(s:List By):Nat:=(s.takeWhile (· != c)).length
theorem uS(c:By)(s:List By):fi c s<=s.length:=(List.takeWhile_sublist _).length_le
theorem jA(c d:By)(r:List By):fi c (d::r)=if d=c then 0 else fi c r+1:=by
 unfold fi
 rw[List.takeWhile_cons]
 by_cases h:d=c
 · simp[h]
 · simp[h]
theorem JU:∀ (c:By) (s:List By),fi c s<s.length->s.getD (fi c s) 0=c
 | c,[],h=>by simp[fi] at h
 | c,d::r,h=>by
   rw[jA] at h⊢
   by_cases hd:d=c
   · rw[if_pos hd];exact hd
   · rw[if_neg hd] at h⊢
     exact JU c r Y616
theorem ry:∀ (c:By) (s:List By) {j:Nat},j<fi c s->¬ s.getD j 0=c
 | c,[],j,h=>by simp[fi] at h
 | c,d::r,j,h=>by
   rw[jA] at h
   by_cases hd:d=c
   · rw[if_pos hd] at h;omega
   · rw[if_neg hd] at h
     cases j with
     | zero=>exact hd
     | succ j=>exact ry c r Y609
theorem RH(c:By)(s:List By):fi c s<s.length↔c∈s:=by
 induction s with
 | nil=>simp[fi]
 | cons d r ih=>
   rw[jA]
   by_cases h:d=c
   · simp[h]
   · have h':¬ c=d:=fun e=>h e.symm
     rw[if_neg h,List.length_cons,List.mem_cons]
     constructor
     · intro k;exact .inr (ih.1 Y609)
     · rintro(k|k)
       · exact absurd k h'
       · have:=ih.2 k;omega
def kO(c:By)(s:List By):Int:=if fi c s<s.length then(fi c s:Int) else -1
theorem MW(s:List By){i:Nat}(h:i<s.length):(bP s)[i]! = UInt8.ofBitVec (s.getD i 0):=by
 have hs:i<(bP s).size:=by rw[cj];exact h
 rw[getElem!_pos (bP s) i hs]
 show(bP s).data[i]'_=_
 show((dD s).toArray)[i]'_=_
 simp[dD,List.getD_eq_getElem?_getD,List.getElem?_eq_getElem h]
theorem JV(s:List By)(c:By):firstIdx (bP s) ((c.toNat:Int)).toNat.toUInt8=kO c s:=by
 have hc:((c.toNat:Int)).toNat.toUInt8=UInt8.ofBitVec c:=by
  rw[Int.toNat_natCast]
  apply UInt8.toBitVec_inj.1
  apply BitVec.eq_of_toNat_eq
  simp[Nat.toUInt8,UInt8.ofNat]
 rw[hc]
 unfold firstIdx
 rw[cj]
 have hp:∀ i,i<s.length->((bP s)[i]! ==UInt8.ofBitVec c)=decide (s.getD i 0=c):=by
  intro i hi
  rw[MW s hi]
  by_cases h:s.getD i 0=c
  · rw[h];simp
  · rw[decide_eq_false h]
    refine beq_eq_false_iff_ne.2 fun k=>h ?_
    have:=congrArg UInt8.toBitVec k
    exact this
 unfold kO
 by_cases h:fi c s<s.length
 · rw[if_pos h]
   have hf:(List.range s.length).find? (fun i=>(bP s)[i]! ==UInt8.ofBitVec c)=some (fi c s):=by
    rw[List.find?_range_eq_some]
    refine⟨?_,by simpa using h,?_⟩
    · rw[hp _ h,decide_eq_true (JU c s h)]
    · intro j hj
      rw[hp j Y609,decide_eq_false (ry c s hj)]
      rfl
   rw[hf]
 · rw[if_neg h]
   have hf:(List.range s.length).find? (fun i=>(bP s)[i]! ==UInt8.ofBitVec c)=none:=by
    rw[List.find?_range_eq_none]
    intro j hj
    have:=uS c s
    rw[hp j hj,decide_eq_false (ry c s Y609)]
    rfl
   rw[hf]
def la(c:By)(s:List By):Nat:=(s.reverse.takeWhile fun d=>!(d==c)).length
def GN(c:By)(s:List By):Int:=(s.length:Int)-1-la c s
theorem MX(c:By)(s:List By)(d:By):la c (s++[d])=if d=c then 0 else la c s+1:=by
 unfold la
 rw[List.reverse_append,List.reverse_singleton,List.singleton_append,List.takeWhile_cons]
 by_cases h:d=c
 · simp[h]
 · simp[h]
theorem RI(c:By)(s:List By):la c s<=s.length:=by
 unfold la
 have:=(List.takeWhile_sublist (fun d=>!(d==c)) (l:=s.reverse)).length_le
 simpa using this
theorem RJ(c:By)(s:List By):la c s<s.length↔c∈s:=by
 have h:=RH c s.reverse
 have e:fi c s.reverse=la c s:=by
  unfold fi la
  congr 1
 rw[e] at h
 simpa using h
end aq
end
section
open Sl
theorem pV.over{w0 w1 w2:World}{S:List Nat}(h1:Ext w0 w1)(h2:pV S w1 w2)(hS:∀ b∈S,w0.heap.size<=b):Ext w0 w2:=
 ⟨h2.os.trans h1.os,h2.tape.trans h1.tape,h2.output.trans h1.output,Nat.le_trans h1.size h2.size,
  fun k hk hk'=>(h2.block k (Nat.lt_of_lt_of_le hk h1.size) (fun h=>by have:=hS k h;omega)).trans (h1.block k hk hk')⟩
theorem JL.Bi{P:Program}{n:Nat}{w0:World}{S S':List Nat}{ops:Array Oper}{Q:Exit->Act->World->Prop}{l:List Oper}{E:Env}{M:List aL}{d:Nat}{ty:TypeId}{pos:String}{aft:Array Edge}{ι:Type}(vf:ι->Value)(F:ι->World->Prop)(M':List aL)
  {f:FuncId} {xs:List Operand} {ats:Array TypeId} {vs:List Value} (hg:aJ P f) (hx:pK E xs=some vs) (hd:Nat.blt d n=true)
  (hc:∀ w1,aa w0 S M w1->Calls P f vs.toArray w1 fun e w2=>∃ i,e=.returned (vf i)/\Ext w1 w2/\F i w2)
  (hM:aj M' M) (hS:∀ e∈M',e.wr=true->e.b∈S')
  (k:∀ i w1,aa w0 S M w1->F i w1->JL P n w1 S' ops Q l ((d,vf i)::E) M'):JL P n w0 S ops Q (⟨some d,.call ⟨.value (.func f),xs.toArray,ats⟩,ty,pos,aft,none⟩::l) E M:=
 ⟨fun a w ha hw=>wpList_plain rfl fun K hK=>by
  unfold Oper.wp
  rw[lu hg ha hx w]
  exact(hc w hw).mono fun e w' ⟨i,h1,h2,h3⟩=>by
   subst h1
   have hw':=hw.ext h2
   have hm:=hw'.weak hM
   exact hK _ _ ((k i w' hw' h3).go _ _ (ha.put d _ hd) ⟨pV.refl _ _,hm.nodup,fun e he=>⟨(hm.all e he).1,fun hr=>.inl (hS e he hr)⟩⟩)⟩
def bh(rs:List ay):List aL:=rs.flatMap ay.an
theorem aS{A B:List aL}(C:List aL)(h:aj A B):aj A (C++B):=by
 induction C with
 | nil=>exact h
 | cons e C ih=>exact .drop _ _ _ ih
theorem Bj{x:ay}:∀ {rs:List ay},x∈rs->aj x.an (bh rs)
 | y::rs,h=>by
   rcases List.mem_cons.1 h with rfl|h
   · exact bO _ _
   · exact aS y.an (Bj h)
theorem p8{rs:List ay}{w0 w:World}{S:List Nat}{A:List aL}(hw:aa w0 S (A++bh rs) w)(h0:∀ x∈rs,x.ad=none->x.l=[]):∀ x∈rs,x.ok w:=fun x hx=>
 ay.bU (M:=[]) (by rw[List.append_nil];exact hw.weak (aS A (Bj hx))) (h0 x hx)
theorem bI{B B':List aL}(h:aj B' B):∀ A:List aL,aj (A++B') (A++B)
 | []=>h
 | ⟨_,_,_⟩::A=>.keep _ _ _ _ _ _ (fun _ h=>h) (bI h A)
theorem JE.perm{n:Nat}{w0:World}{S:List Nat}{Q:Exit->Act->World->Prop}{e:Exit}{E:Env}{M M':List aL}(hp:M.Perm M')(h:JE n w0 S Q e E M'):JE n w0 S Q e E M:=
 ⟨fun a w ha hw=>h.go a w ha ⟨hw.aH,(hp.map aL.b).nodup_iff.1 hw.nodup,fun e he=>hw.all e (hp.mem_iff.2 he)⟩⟩
structure tK where
 ad:Option Addr
 cap:Nat
 rs:List ay
def tK.v(s:tK):Value:=.slice s.ad s.rs.length s.cap
def tK.ls(s:tK):List (List Bt):=s.rs.map ay.l
structure tK.ok (w:World) (s:tK):Prop where
 len:s.rs.length<=s.cap
 reads:Reads w s.ad (s.rs.map ay.v)
 all:∀ y∈s.rs,y.ok w
theorem MY{w0 w:World}{S:List Nat}{A:List aL}{b cap:Nat}{e:TypeId}{rs:List ay}{wr:Bool}(hw:aa w0 S (A++bh rs) w)(hM:Has (A++bh rs) b (Sl.Own e 1 rs.length cap (rs.map ay.v)) wr)(h0:∀ x∈rs,x.ad=none->x.l=[]):tK.ok w ⟨some ⟨b,0,none⟩,cap,rs⟩:=by
 obtain⟨o,ho,hA⟩:=hw.get hM
 have hh:=Sl.Own.cells _ hA
 obtain⟨sp,rfl,h2,h3,h4⟩:=hA
 exact⟨h4,Reads.block ho hh,p8 hw h0⟩
theorem jf{e:TypeId}{k cap b:Nat}{l:List Bt}(h:l.length=k):aj (ay.an ⟨some ⟨b,0,none⟩,cap,l⟩) [⟨b,Sl.Own e 1 k cap (l.map U8),true⟩]:=by
 refine .keep _ _ _ _ _ _ (fun o ho=>?_) (.nil _)
 obtain⟨sp,rfl,h1,h2,h3⟩:=ho
 refine⟨⟨_,_,_,rfl,fun i hi=>?_⟩,?_,rfl⟩
 · have hi:i<l.length:=by simpa using hi
   simp[List.getElem?_append_left,hi]
 · show l.length<=cap
   omega
theorem Sl.aa.base{w0 w1 w2:World}{M:List aL}(h1:Ext w0 w1)(h:aa w1 [] M w2):aa w0 [] M w2:=
 ⟨pV.over h1 h.aH Y614,h.nodup,fun e he=>⟨(h.all e he).1,fun hr=>.inr (((h.all e he).2 hr).elim (fun h=>by simp at h) (fun h=>Nat.le_trans h1.size h))⟩⟩
theorem sG(l:List Bt):∀ v∈l.map U8,v.oneCell'=true:=by
 intro v hv
 obtain⟨x,_,rfl⟩:=List.mem_map.1 hv
 rfl
theorem JE.eJ{P:Program}{fn:Func}{R:Ending->World->Prop}{n:Nat}{w0:World}{S:List Nat}{E:Env}{M:List aL}{r1 r2 r3:ResultVar}{v1 v2 v3:Value}(hr:fn.results=#[r1,r2,r3])(h1:RV P n w0 S E M r1 v1)(h2:RV P n w0 S E M r2 v2)(h3:RV P n w0 S E M r3 v3)(hR:∀ w,aa w0 S M w->R (.returned (.tuple #[v1,v2,v3])) w):JE n w0 S (bodyPost P fn R) .ret E M:=by
 refine⟨fun a w ha hw=>?_⟩
 refine⟨ha.defers,.tuple #[v1,v2,v3],?_,hR w hw⟩
 have e1:=h1 a w ha hw
 have e2:=h2 a w ha hw
 have e3:=h3 a w ha hw
 rw[ia,hr]
 simp[Sem.run_bind,e1,e2,e3]
theorem tK.ok.holds{w0 w:World}{S:List Nat}{M:List aL}{s:tK}(h:s.ok w0)(hw:aa w0 S M w)(hS:S=[]):s.ok w:=⟨h.len,hw.reads h.reads (fun _ a _=>by rw[hS];simp),fun y hy=>(h.all y hy).holds hw hS⟩
section
variable {P:Program} {n:Nat} {E:Env} {C:World->Prop} {dst:Option Tmp} {ty t t':TypeId} {pos:String} {aft:Array Edge} {g:Option (Nat × Bool)} {x y:Operand}
theorem OQ.Th{a c:Int}(hx:ev E x=some (.int .i64 a))(hy:ev E y=some (.int .i64 c)):OQ P n E C ⟨dst,.call ⟨.builtin .max,#[x,y],#[t,t']⟩,ty,pos,aft,g⟩ (.int .i64 (max a c)):=
 OQ.run fun ac ha w _=>by
  have h1:=ha.eval hx
  have h2:=ha.eval hy
  have h3:(if a<c then c else a)=max a c:=by split <;> omega
  simp[execOp,h1,h2,resolve,invoke,builtin,Builtin.max_,Builtin.max2,Sem.run_bind,h3]
end
end
section
namespace Sl
section
variable {P:Program} {t tx e:TypeId}
theorem iG(l:List Bt):Go.byteCells (bP l)=l.map U8:=by
 unfold Go.byteCells bP
 simp[U8,Function.comp_def]
theorem rz(w:World)(ty:TypeId)(i:TypeInfo)(ht:P.underlying t=some (.slice e))(hi:P.info? e=some i)
  (g sLen sCap:Nat) (x:Value) (m:Nat) (news:List Value) (hs:Src P i.size tx x m news w) (cur:Array Value) (hg:w.heap[g]?=some (.cells cur e (0,0)))
  (hroom:sLen+m<=sCap) (hfit:sLen*i.size+news.length<=cur.size) :
  (Builtin.append_ #[t,tx] ty #[.slice (some ⟨g,0,none⟩) sLen sCap,x]).run P w =
    .ok (.slice (some ⟨g,0,none⟩) (sLen+m) sCap) (w.setRow g (cur.toList.take (sLen*i.size)++news++cur.toList.drop (sLen*i.size+news.length)).toArray):=by
 have hst:=run_storeCells_at P g (sLen*i.size) e news 0 cur w hg (by simpa using hfit) hs.one
 simp only[Nat.add_zero] at hst
 rcases hs.kind with⟨e',hk⟩|hk <;> simp[Builtin.append_,run_underlying ht,run_underlying hk,sizeOf,typeInfo,hi,hs.len,hroom,hs.cells,Addr.add_lit] at hst⊢ <;> simp[hst]
variable {n:Nat} {w0:World} {S:List Nat} {ops:Array Oper} {Q:Exit->Act->World->Prop} {l:List Oper} {E:Env} {M:List aL} {d b:Nat} {ty:TypeId} {pos:String} {aft:Array Edge} {x y:Operand}
theorem JL.tL{k cap:Nat}{xs:List Value}{r:List Bt}(M':Nat->Nat->List aL)(hu:P.underlying t=some (.slice e))(hk:P.underlying tx=some .string)(hi:EI P e (.int .u8 0) 1 1)(hx:ev E x=some (.slice (some ⟨b,0,none⟩) k cap))(hy:ev E y=some (Z r))
  (hup:∀ b' cap',aR M b (Sl.Own e 1 k cap xs) b' (Sl.Own e 1 (k+r.length) cap' (xs++r.map U8)) (M' b' cap'))
  (hsm:(k+r.length)<=140737488355328) (hd:Nat.blt d n=true)
  (kk:∀ b' cap',JL P n w0 S ops Q l ((d,.slice (some ⟨b',0,none⟩) (k+r.length) cap')::E) (M' b' cap')):JL P n w0 S ops Q (⟨some d,.call ⟨.builtin .append,#[x,y],#[t,tx]⟩,ty,pos,aft,none⟩::l) E M:=
 ⟨fun a w ha hw=>wpList_plain rfl fun K hK=>by
  obtain⟨i,hi1,hi2,hi3,hi4⟩:=hi.get
  obtain⟨o,ho,sp,rfl,hc1,hc2,hc3⟩:=hw.get (hup 0 0).has
  have hsrc:Src P i.size tx (Z r) r.length (r.map U8) w:=by
   have:=Src.ofString (P:=P) w hk (bP r)
   rw[iG,cj] at this
   rw[hi3];exact this
  unfold Oper.wp
  simp only[execOp,resolve,invoke,builtin,Sem.run_bind,Sem.run_pure,Result.andThen_ok,List.map_toArray,List.map_cons,List.map_nil,ha.eval hx,ha.eval hy]
  by_cases hroom:k+r.length<=cap
  · have hfit:k*i.size+(r.map U8).length<=(xs++sp).toArray.size:=by
     rw[List.size_toArray,hc1,hi3,List.length_map];omega
    rw[rz w ty i hu hi1 b k cap (Z r) r.length (r.map U8) hsrc (xs++sp).toArray ho hroom hfit]
    refine hK _ _ ((kk b cap).go _ _ (ha.put d _ hd) (hw.write (hup b cap).Rz (o':=.cells ((xs++sp).take (k*i.size)++r.map U8++(xs++sp).drop (k*i.size+(r.map U8).length)).toArray e (0,0)) ?_ (setRow_heap w b _ _ e _ ho) Y614 (fun q hq=>setRow_other w b q _ hq) rfl rfl rfl))
    rw[hi3,<- hc2,List.take_left]
    refine⟨(xs++sp).drop (xs.length+(r.map U8).length),rfl,?_,by rw[List.length_append,hc2,List.length_map,Nat.add_mul,Nat.mul_one r.length],hroom⟩
    simp only[List.size_toArray] at hfit
    simp only[List.length_append,List.length_drop,List.length_map] at hfit hc1⊢
    rw[hi3] at hfit
    omega
  · have hold:∀ u v,xs[u]?=some v->w.cell? ((⟨b,0,none⟩:Addr).add u)=some v:=fun u v hv=>by
     rw[dH]
     have hu':u<xs.length:=(List.getElem?_eq_some_iff.1 hv).1
     exact Y238
    have hfit:=growslice_fits (need:=k+r.length) (old:=cap) (bytes:=1) Y609 Y609
    have hfo:=run_firstCells_some (P:=P) w.drew i.size k ⟨b,0,none⟩ k cap xs (by rw[hc2,hi3]) (by simpa using hold)
    rw[run_append_grow_src w t tx ty e i (.int .u8 0) hu hi1 hi2 (some ⟨b,0,none⟩) k cap xs hfo (Z r) r.length (r.map U8) hsrc Y609 Y609 Y628]
    have hge:=grownCap_ge w (k+r.length) cap e
    generalize grownCap w (k+r.length) cap e=nc at hge
    refine hK _ _ ((kk w.heap.size nc).go _ _ (ha.put d _ hd) (hw.renew (.cells ((xs++r.map U8).toArray++Builtin.zeroCells (Value.int .u8 0).cells (nc-(k+r.length))) e) (hup _ _) ?_ rfl rfl rfl rfl))
    have h8:(Builtin.zeroCells (Value.int .u8 0).cells (nc-(k+r.length))).size=(nc-(k+r.length)):=by
     rw[show(Value.int .u8 0).cells=#[Value.int .u8 0] from rfl];simp[Builtin.zeroCells]
    refine⟨(Builtin.zeroCells (Value.int .u8 0).cells (nc-(k+r.length))).toList,by simp,?_,by rw[List.length_append,hc2,List.length_map,Nat.add_mul,Nat.mul_one r.length],hge⟩
    simp only[List.length_append,Array.length_toList,h8,hc2,List.length_map]
    omega⟩
end
end Sl
end
section
namespace Sl
section
variable {P:Program} {n:Nat} {E:Env} {C:World->Prop} {dst:Option Tmp} {t t' ty:TypeId} {pos:String} {aft:Array Edge} {g:Option (Nat × Bool)} {x y:Operand} {c:Bool}
theorem OQ.fV{k:IntKind}{a b:Int}(hx:ev E x=some (.int k a))(hy:ev E y=some (.int k b))(h:decide (a<b)=c):OQ P n E C ⟨dst,.binOp .lss t x y t',ty,pos,aft,g⟩ (.bool c):=OQ.bin hx hy rfl fun _=>by cases k <;> exact lX h
theorem OQ.fA{k:IntKind}{a b:Int}(hx:ev E x=some (.int k a))(hy:ev E y=some (.int k b))(h:decide (a<=b)=c):OQ P n E C ⟨dst,.binOp .leq t x y t',ty,pos,aft,g⟩ (.bool c):=OQ.bin hx hy rfl fun _=>by cases k <;> exact lX h
theorem OQ.cZ{k:IntKind}{a b:Int}(hx:ev E x=some (.int k a))(hy:ev E y=some (.int k b))(h:decide (b<a)=c):OQ P n E C ⟨dst,.binOp .gtr t x y t',ty,pos,aft,g⟩ (.bool c):=OQ.bin hx hy rfl fun _=>by cases k <;> exact lX h
theorem OQ.dn{k:IntKind}{a b:Int}(hx:ev E x=some (.int k a))(hy:ev E y=some (.int k b))(h:decide (b<=a)=c):OQ P n E C ⟨dst,.binOp .geq t x y t',ty,pos,aft,g⟩ (.bool c):=OQ.bin hx hy rfl fun _=>by cases k <;> exact lX h
theorem OQ.ep{k:IntKind}{a b:Int}(hx:ev E x=some (.int k a))(hy:ev E y=some (.int k b))(h:decide (a=b)=c):OQ P n E C ⟨dst,.binOp .eql t x y t',ty,pos,aft,g⟩ (.bool c):=h▸OQ.SK hx hy
theorem OQ.fh{k:IntKind}{a b:Int}(hx:ev E x=some (.int k a))(hy:ev E y=some (.int k b))(h:decide (a=b)=c):OQ P n E C ⟨dst,.binOp .neq t x y t',ty,pos,aft,g⟩ (.bool (!c)):=by
 have:=OQ.S5 (P:=P) (n:=n) (C:=C) (dst:=dst) (ty:=ty) (t:=t) (t':=t') (pos:=pos) (aft:=aft) (g:=g) hx hy
 rw[h] at this
 exact this
theorem OQ.JW{a b:BitVec 8}(hx:ev E x=some (U8 a))(hy:ev E y=some (U8 b))(h:decide (a=b)=c):OQ P n E C ⟨dst,.binOp .neq t x y t',ty,pos,aft,g⟩ (.bool (!c)):=by
 have:=OQ.TR (P:=P) (n:=n) (C:=C) (dst:=dst) (ty:=ty) (t:=t) (t':=t') (pos:=pos) (aft:=aft) (g:=g) hx hy
 rw[h] at this
 exact this
theorem OQ.dB{w0:World}{S:List Nat}{M:List aL}{f:FuncId}{xs:List Operand}{ats:Array TypeId}{vs:List Value}{b:Bool}(hg:aJ P f)(hx:pK E xs=some vs)(hc:∀ w,Calls P f vs.toArray w fun e w'=>e=.returned (.bool b)/\Ext w w')(h:b=c) :
  OQ P n E (aa w0 S M) ⟨dst,.call ⟨.value (.func f),xs.toArray,ats⟩,ty,pos,aft,g⟩ (.bool c):=h▸OQ.ai hg hx fun w _=>hc w
end
theorem JC.p9{P:Program}{n:Nat}{w0:World}{S:List Nat}{Q Q':Exit->Act->World->Prop}{E:Env}{M:List aL}{ι:Type}{id:Nat}(Ei:ι->Env)(Mi:ι->List aL)(I:ι->Prop){p q:Code}(h:JC P n w0 S (Exit.inBlock id (Exit.then (fun a' w'=>∃ i,I i/\bF n (Ei i) a'/\aa w0 S (Mi i) w') Q)) p E M)
  (k:∀ i,I i->JC P n w0 S Q' q (Ei i) (Mi i)):JC P n w0 S (Exit.inBlock id (Exit.then (q.wp P Q') Q)) p E M:=
 ⟨fun a w ha hw=>wp_mono (h.go a w ha hw) fun e a' w' he=>by
  cases e with
  | normal=>obtain⟨i,hi,h1,h2⟩:=he;exact(k i hi).go a' w' h1 h2
  | exit id'=>
    by_cases hid:id'=id
    · subst hid
      have he:(if id'=id' then(Exit.then (fun a' w'=>∃ i,I i/\bF n (Ei i) a'/\aa w0 S (Mi i) w') Q) .normal a' w' else _):=he
      rw[if_pos rfl] at he
      obtain⟨i,hi,h1,h2⟩:=he
      show(if id'=id' then _ else _)
      rw[if_pos rfl]
      exact(k i hi).go a' w' h1 h2
    · have he:(if id'=id then _ else(Exit.then _ Q) (.exit id') a' w'):=he
      rw[if_neg hid] at he
      show(if id'=id then _ else _)
      rw[if_neg hid]
      exact he
  | goto _=>exact he
  | ret=>exact he
  | panic _=>exact he
  | outgrown=>exact he⟩
def ro(M:List aL):List aL:=M.map fun e=>⟨e.b,e.A,false⟩
theorem JX{w0 w:World}{S:List Nat}{M:List aL}(h:aa w0 S M w):aa w [] (ro M) w:=by
 refine⟨pV.refl _ _,?_,fun e he=>?_⟩
 · have e:(ro M).map aL.b=M.map aL.b:=by simp[ro,Function.comp_def]
   rw[e];exact h.nodup
 · obtain⟨e',he',rfl⟩:=List.mem_map.1 he
   exact⟨(h.all e' he').1,fun h=>by cases h⟩
theorem JL.RL{P:Program}{n:Nat}{w0:World}{S:List Nat}{ops:Array Oper}{Q:Exit->Act->World->Prop}{l:List Oper}{E:Env}{M:List aL}{d:Nat}{ty:TypeId}{pos:String}{aft:Array Edge}{ι:Type}(vf:ι->Value)(F:ι->World->Prop)
  {f:FuncId} {xs:List Operand} {ats:Array TypeId} {vs:List Value} (hg:aJ P f) (hx:pK E xs=some vs) (hd:Nat.blt d n=true)
  (hc:∀ w1,aa w0 S M w1->Calls P f vs.toArray w1 fun e w2=>∃ i,e=.returned (vf i)/\Ext w1 w2/\F i w2)
  (k:∀ i w1,aa w0 S M w1->F i w1->JL P n w1 [] ops Q l ((d,vf i)::E) (ro M)):JL P n w0 S ops Q (⟨some d,.call ⟨.value (.func f),xs.toArray,ats⟩,ty,pos,aft,none⟩::l) E M:=
 ⟨fun a w ha hw=>wpList_plain rfl fun K hK=>by
  unfold Oper.wp
  rw[lu hg ha hx w]
  exact(hc w hw).mono fun e w' ⟨i,h1,h2,h3⟩=>by
   subst h1
   exact hK _ _ ((k i w' (hw.ext h2) h3).go _ _ (ha.put d _ hd) (JX (hw.ext h2)))⟩
theorem eK{α:Type}(p:α->Bool)(l:List α)(d:α){i:Nat}(h:i<l.length):(l.take (i+1)).all p=((l.take i).all p&&p (l.getD i d)):=by
 rw[List.take_add_one,List.getD_eq_getElem?_getD,List.getElem?_eq_getElem h,List.all_append]
 simp only[Option.toList_some,Option.getD_some,List.all_cons,List.all_nil,Bool.and_true]
theorem gY{α:Type}(p:α->Bool)(l:List α)(d:α){i:Nat}(h:i<l.length)(hb:p (l.getD i d)=false):l.all p=false:=by
 rw[List.all_eq_false]
 refine⟨l.getD i d,?_,by rw[hb];decide⟩
 rw[List.getD_eq_getElem?_getD,List.getElem?_eq_getElem h]
 exact List.getElem_mem h
end Sl
end
section
namespace Sl
theorem l9(l:List Bt)(i j:Nat):(bP l).extract i j=bP ((l.take j).drop i):=by
 apply ByteArray.ext
 rw[ByteArray.data_extract]
 show(l.map UInt8.ofBitVec).toArray.extract i j=(((l.take j).drop i).map UInt8.ofBitVec).toArray
 rw[List.extract_toArray,List.extract_eq_drop_take',List.map_drop,List.map_take]
section
variable {P:Program} {n:Nat} {E:Env} {C:World->Prop} {dst:Option Tmp} {t ty:TypeId} {pos:String} {aft:Array Edge} {g:Option (Nat × Bool)} {x y z:Operand} {l:List Bt}
theorem OQ.eV{i:Nat}(hu:P.underlying t=some .string)(hx:ev E x=some (Z l))(hy:ev E y=some (N i))(h:i<=l.length):OQ P n E C ⟨dst,.slice t x (some y) none none,ty,pos,aft,g⟩ (Z (l.drop i)):=
 OQ.run fun a ha w _=>by
  have h1:=ha.eval hx
  have h2:=ha.eval hy
  have h3:(underlying t).run P w=.ok .string w:=run_underlying hu w
  have h4:=run_slice_string_l w t (bP l) hu .i64 (i:Int) Y609 Y634
  rw[cj,l9,List.take_length,Int.toNat_natCast] at h4
  simp[execOp,h1,h2,Instr.sliceAt,Sem.run_bind,h3,h4]
theorem OQ.gu{j:Nat}(hu:P.underlying t=some .string)(hx:ev E x=some (Z l))(hy:ev E y=some (N j))(h:j<=l.length):OQ P n E C ⟨dst,.slice t x none (some y) none,ty,pos,aft,g⟩ (Z (l.take j)):=
 OQ.run fun a ha w _=>by
  have h1:=ha.eval hx
  have h2:=ha.eval hy
  have h3:(underlying t).run P w=.ok .string w:=run_underlying hu w
  have h4:=run_slice_string_h w t (bP l) hu .i64 (j:Int) Y609 Y634
  rw[l9,List.drop_zero,Int.toNat_natCast] at h4
  simp[execOp,h1,h2,Instr.sliceAt,Sem.run_bind,h3,h4]
theorem OQ.RM{i j:Nat}(hu:P.underlying t=some .string)(hx:ev E x=some (Z l))(hy:ev E y=some (N i))(hz:ev E z=some (N j))(h:i<=j)(h':j<=l.length):OQ P n E C ⟨dst,.slice t x (some y) (some z) none,ty,pos,aft,g⟩ (Z ((l.take j).drop i)):=
 OQ.run fun a ha w _=>by
  have h1:=ha.eval hx
  have h2:=ha.eval hy
  have h5:=ha.eval hz
  have h3:(underlying t).run P w=.ok .string w:=run_underlying hu w
  have h4:=run_slice_string w t (bP l) .i64 .i64 (i:Int) (j:Int) hu Y609 Y609 Y634
  rw[l9,Int.toNat_natCast,Int.toNat_natCast] at h4
  simp[execOp,h1,h2,h5,Instr.sliceAt,Sem.run_bind,h3,h4]
end
end Sl
end
section
namespace Sl
def kP(P:Program)(w0:World)(fv:Value)(p:Bt->Bool):Prop:=
 ∃ (f:FuncId) (caps:List Value),fv=.func (.func f) #[] caps.toArray/\aJ P f/\∀ (c:Bt) (w:World),Ext w0 w->Calls P f (U8 c::caps).toArray w fun e w'=>e=.returned (.bool (p c))/\Ext w w'
theorem kP.ext{P:Program}{w0 w1:World}{fv:Value}{p:Bt->Bool}(h:kP P w0 fv p)(hx:Ext w0 w1):kP P w1 fv p:=by
 obtain⟨f,caps,h1,h2,h3⟩:=h
 exact⟨f,caps,h1,h2,fun c w hw=>h3 c w (hx.trans hw)⟩
theorem kP.holds{P:Program}{w0 w1:World}{M:List aL}{fv:Value}{p:Bt->Bool}(h:kP P w0 fv p)(hw:aa w0 [] M w1):kP P w1 fv p:=h.ext hw.aH
section
variable {P:Program} {n:Nat} {w0:World} {S:List Nat} {Q Q':Exit->Act->World->Prop} {E E':Env} {M M':List aL}
variable {dst:Option Tmp} {ty:TypeId} {pos:String} {aft:Array Edge} {g:Option (Nat × Bool)} {x y:Operand} {ats:Array TypeId}
theorem oK{f:FuncId}{caps:List Value}{xs:List Operand}{vs:List Value}{a:Act}(hg:aJ P f)(hk:bF n E a)(hf:ev E x=some (.func (.func f) #[] caps.toArray))(hx:pK E xs=some vs)(w:World) :
  (execOp a.eval ⟨dst,.call ⟨.value x,xs.toArray,ats⟩,ty,pos,aft,g⟩).run P w=.ok (.enter f (vs++caps).toArray) w:=by
 obtain⟨fn,h1,h2,h3⟩:=hg
 have hm:xs.toArray.map a.eval=vs.toArray:=by simp[tH hk hx]
 have h2':¬ fn.body=none:=fun h=>by rw[h] at h2;cases h2
 have h3':¬ fn.name = "runtime.NumGoroutine" := by simpa using h3
 have hf':=hk.eval hf
 simp[execOp,resolve,Sem.run_bind,hm,hf',Deferred.ofValue,invoke,callFunc,program,Sem.run,h1,h2',h3']
theorem OQ.uT{fv:Value}{p:Bt->Bool}{c:Bt}{b:Bool}(hF:kP P w0 fv p)(hx:ev E x=some fv)(hy:ev E y=some (U8 c))(h:p c=b):OQ P n E (aa w0 [] M) ⟨dst,.call ⟨.value x,#[y],ats⟩,ty,pos,aft,g⟩ (.bool b):=by
 obtain⟨f,caps,h1,h2,h3⟩:=hF
 subst h1
 refine⟨fun a hk w hw=>?_⟩
 have hy':pK E [y]=some [U8 c]:=by simp[pK,hy]
 unfold Oper.quietAt
 rw[show(#[y]:Array Operand)=[y].toArray from rfl,oK (xs:=[y]) h2 hk hx hy' w]
 refine⟨rfl,(h3 c w hw.aH).mono fun e w' ⟨k1,k2⟩=>⟨?_,hw.ext k2⟩⟩
 rw[k1,h]
theorem OQ.SM{f:FuncId}{xs:Array Operand}{caps:List Value}(hx:pK E xs.toList=some caps):OQ P n E (aa w0 S M) ⟨dst,.makeFunc (.func f) #[] xs,ty,pos,aft,g⟩ (.func (.func f) #[] caps.toArray):=by
 refine OQ.run fun a hk w _=>?_
 have hm:xs.map a.eval=caps.toArray:=by
  have h1:=tH hk hx
  rw[<- h1]
  apply Array.ext'
  simp
 simp[execOp,Instr.makeFunc,Sem.run_bind,hm]
theorem JC.mono{c:Code}(h:JC P n w0 S Q c E M)(hq:∀ e a w,Q e a w->Q' e a w):JC P n w0 S Q' c E M:=
 ⟨fun a w ha hw b k cs=>let ⟨e,a',w',h1,h2⟩:=h.go a w ha hw b k cs;⟨e,a',w',hq e a' w' h1,h2⟩⟩
theorem OQ.lD{C:World->Prop}{t t':TypeId}{l r:List Bt}{c:Bool}(hx:ev E x=some (Z l))(hy:ev E y=some (Z r))(h:decide (l=r)=c):OQ P n E C ⟨dst,.binOp .neq t x y t',ty,pos,aft,g⟩ (.bool (!c)):=h▸OQ.TU hx hy
theorem OQ.fR{C:World->Prop}{t t':TypeId}{l r:List Bt}{c:Bool}(hx:ev E x=some (Z l))(hy:ev E y=some (Z r))(h:decide (l=r)=c):OQ P n E C ⟨dst,.binOp .eql t x y t',ty,pos,aft,g⟩ (.bool c):=h▸OQ.TT hx hy
abbrev Q5(n:Nat)(w0:World)(S:List Nat){ι:Type}(Ei:ι->Env)(Mi:ι->List aL)(p:ι->Prop):Act->World->Prop:=fun a w=>∃ j,p j/\bF n (Ei j) a/\aa w0 S (Mi j) w
theorem JC.scope{ι:Type}(l:Nat)(Ei:ι->Env)(Mi:ι->List aL)(μ:ι->Nat)(I:ι->Prop){c rest:Code}(hf:findLabel c l=some rest)
  (first:JC P n w0 S (Exit.jump l (Q5 n w0 S Ei Mi I) Q) c E M)
  (pass:∀ i,I i->JC P n w0 S (Exit.jump l (Q5 n w0 S Ei Mi fun j=>I j/\μ j<μ i) Q) rest (Ei i) (Mi i)):JC P n w0 S Q (.scope c) E M:=by
 refine⟨fun a0 w0' ha0 hw0 b k cs=>?_⟩
 have hg:gotoIn l (.inScope c::k)=some (.code rest::.inScope c::k):=by simp[gotoIn,hf]
 have key:∀ m i,μ i=m->I i->∀ a w,bF n (Ei i) a->aa w0 S (Mi i) w->∃ e a' w',Q e a' w'/\Arrives P (lone (b.at a (.code rest::.inScope c::k)) cs w) b k cs e a' w':=by
  intro m
  induction m using Nat.strongRecOn with
  | _ m ih=>
    intro i hm hI a w ha hw
    obtain⟨e,a₁,w₁,hq,harr⟩:=(pass i hI).go a w ha hw b (.inScope c::k) cs
    cases e with
    | normal=>exact⟨.normal,a₁,w₁,hq,Steps.trans harr (.one step_inScope)⟩
    | exit id=>exact⟨.exit id,a₁,w₁,hq,fun k' hk=>harr k' Y635⟩
    | goto l'=>
      obtain⟨rfl,j,⟨hJ,hlt⟩,ha₁,hw₁⟩:=hq
      obtain⟨e₂,a₂,w₂,hq₂,harr₂⟩:=ih (μ j) Y609 j rfl hJ a₁ w₁ ha₁ hw₁
      exact⟨e₂,a₂,w₂,hq₂,.of_steps (harr _ hg) harr₂⟩
    | ret=>exact⟨_,a₁,w₁,hq,harr⟩
    | panic ch=>exact⟨_,a₁,w₁,hq,harr⟩
    | outgrown=>exact⟨_,a₁,w₁,hq,harr⟩
 obtain⟨e,a₁,w₁,hq,harr⟩:=first.go a0 w0' ha0 hw0 b (.inScope c::k) cs
 cases e with
 | normal=>exact⟨.normal,a₁,w₁,hq,.head step_scope (Steps.trans harr (.one step_inScope))⟩
 | exit id=>exact⟨.exit id,a₁,w₁,hq,fun k' hk=>.head step_scope (harr k' Y635)⟩
 | goto l'=>
   obtain⟨rfl,j,hJ,ha₁,hw₁⟩:=hq
   obtain⟨e₂,a₂,w₂,hq₂,harr₂⟩:=key _ j rfl hJ a₁ w₁ ha₁ hw₁
   exact⟨e₂,a₂,w₂,hq₂,.of_steps (.head step_scope (harr _ hg)) harr₂⟩
 | ret=>exact⟨_,a₁,w₁,hq,.of_steps (.one step_scope) harr⟩
 | panic ch=>exact⟨_,a₁,w₁,hq,.of_steps (.one step_scope) harr⟩
 | outgrown=>exact⟨_,a₁,w₁,hq,.of_steps (.one step_scope) harr⟩
theorem JC.goto{l:Nat}(h:JE n w0 S Q (.goto l) E M):JC P n w0 S Q (.goto l) E M:=⟨fun a w ha hw=>wp_goto (h.go a w ha hw)⟩
theorem JE.tM{ι:Type}{l:Nat}{Ei:ι->Env}{Mi:ι->List aL}{p:ι->Prop}(j:ι)(hp:p j)(hE:af E (Ei j))(hM:aj (Mi j) M):JE n w0 S (Exit.jump l (Q5 n w0 S Ei Mi p) Q) (.goto l) E M:=
 ⟨fun _ _ ha hw=>⟨rfl,j,hp,ha.sub hE,hw.weak hM⟩⟩
theorem JE.uU{l:Nat}{J:Act->World->Prop}(h:JE n w0 S Q .ret E M):JE n w0 S (Exit.jump l J Q) .ret E M:=⟨h.go⟩
theorem JE.fJ{K:Act->World->Prop}{l:Nat}(h:JE n w0 S Q (.goto l) E M):JE n w0 S (Exit.then K Q) (.goto l) E M:=⟨h.go⟩
end
end Sl
end
section
open Sl
theorem oL:Tryz.prog.follows .mixedOrders=true:=by kernel_rfl
theorem dD:gX Tryz.prog 5=some 1:=by kernel_rfl
theorem mM:gD Tryz.prog 5=true:=by kernel_rfl
theorem dV:EI Tryz.prog 5 (.int .u8 0) 1 1:=by unfold EI;kernel_rfl
end
section
open Sl aq Go.Shelf
theorem nV{w w':World}(h:RowKit.Below w.heap.size w w'):Ext w w':=⟨h.os,h.tape,h.output,h.size,fun k hk _=>h.block k hk⟩
theorem uV:(Tryz.prog.info? 183).map (fun i=>(i.zero,i.size))=some (some (.agg (Array.replicate 256 (.bool false))),256):=by kernel_rfl
theorem oM:∀ (j:Nat) b,(bP [32,9]).data.toList[j]?=some b->b.toNat<128:=ascii_of_all Y610
def Bk:Ren:=⟨fun|160=>116|232=>166|231=>165|227=>167|234=>169|233=>168|236=>171|235=>170|228=>212|271=>220|151=>219|197=>218|120=>246|152=>210|260=>245|137=>82|119=>240|224=>215|225=>241|217=>127|266=>184|n=>n,
 fun|9=>9|4=>4|3=>3|5=>5|117=>184|116=>183|0=>0|124=>187|21=>21|105=>223|46=>211|119=>254|139=>257|138=>256|n=>n,
 fun|3=>4|4=>5|n=>n⟩
theorem JY:Lays.n160 Tryz.prog Bk:={
 mixed:=by kernel_rfl
 f119:=Tryz.func240.trans (congrArg some Y636)
 f120:=Tryz.func246.trans (congrArg some Y636)
 f137:=Tryz.func82.trans (congrArg some Y636)
 f151:=Tryz.func219.trans (congrArg some Y636)
 f152:=Tryz.func210.trans (congrArg some Y636)
 f160:=Tryz.func116.trans (congrArg some Y636)
 f197:=Tryz.func218.trans (congrArg some Y636)
 f217:=Tryz.func127.trans (congrArg some Y636)
 f224:=Tryz.func215.trans (congrArg some Y636)
 f225:=Tryz.func241.trans (congrArg some Y636)
 f227:=Tryz.func167.trans (congrArg some Y636)
 f228:=Tryz.func212.trans (congrArg some Y636)
 f231:=Tryz.func165.trans (congrArg some Y636)
 f232:=Tryz.func166.trans (congrArg some Y636)
 f233:=Tryz.func168.trans (congrArg some Y636)
 f234:=Tryz.func169.trans (congrArg some Y636)
 f235:=Tryz.func170.trans (congrArg some Y636)
 f236:=Tryz.func171.trans (congrArg some Y636)
 f260:=Tryz.func245.trans (congrArg some Y636)
 f266:=Tryz.func184.trans (congrArg some Y636)
 f271:=Tryz.func220.trans (congrArg some Y636)
 t0:=Tryz.underlying0
 a0:=Tryz.isAgg0
 z0:=Tryz.sizeOf0
 v0:=Tryz.zeroValue0
 t3:=Tryz.underlying3
 a3:=Tryz.isAgg3
 z3:=Tryz.sizeOf3
 v3:=Tryz.zeroValue3
 t4:=Tryz.underlying4
 a4:=Tryz.isAgg4
 z4:=Tryz.sizeOf4
 v4:=Tryz.zeroValue4
 t5:=Tryz.underlying5
 a5:=Tryz.isAgg5
 z5:=Tryz.sizeOf5
 v5:=Tryz.zeroValue5
 t9:=Tryz.underlying9
 a9:=Tryz.isAgg9
 z9:=Tryz.sizeOf9
 v9:=Tryz.zeroValue9
 t21:=Tryz.underlying21
 a21:=Tryz.isAgg21
 z21:=Tryz.sizeOf21
 v21:=Tryz.zeroValue21
 t46:=Tryz.underlying211
 a46:=Tryz.isAgg211
 z46:=Tryz.sizeOf211
 v46:=Tryz.zeroValue211
 t105:=Tryz.underlying223
 a105:=Tryz.isAgg223
 z105:=Tryz.sizeOf223
 v105:=Tryz.zeroValue223
 t116:=Tryz.underlying183
 a116:=Tryz.isAgg183
 z116:=Tryz.sizeOf183
 t117:=Tryz.underlying184
 a117:=Tryz.isAgg184
 z117:=Tryz.sizeOf184
 v117:=Tryz.zeroValue184
 t119:=Tryz.underlying254
 a119:=Tryz.isAgg254
 z119:=Tryz.sizeOf254
 t124:=Tryz.underlying187
 a124:=Tryz.isAgg187
 z124:=Tryz.sizeOf187
 v124:=Tryz.zeroValue187
 t138:=Tryz.underlying256
 a138:=Tryz.isAgg256
 z138:=Tryz.sizeOf256
 v138:=Tryz.zeroValue256
 t139:=Tryz.underlying257
 a139:=Tryz.isAgg257
 z139:=Tryz.sizeOf257
 v139:=Tryz.zeroValue257
 g3:=by kernel_rfl
 g4:=by kernel_rfl }
theorem ig:aJ Tryz.prog 116:=⟨_,Tryz.func116,rfl,by kernel_rfl⟩
theorem lE(s:List Bt)(w:World)(hl:s.length<9223372036854775808):Calls Tryz.prog 116 [Z s,Z [32,9]].toArray w fun e w'=>e=.returned (Z (trim s))/\Ext w w':=
 (Any.strings_Trim_laid JY uV (bP s) (bP [32,9]) w Y634 Y610 oM).mono fun e w' ⟨h1,h2⟩=>⟨by
   rw[h1,fI,fI,MU,zC],nV h2⟩
def zD:Ren:=⟨fun|161=>147|231=>165|227=>167|233=>168|235=>170|228=>212|197=>218|151=>219|260=>245|152=>210|137=>82|119=>240|224=>215|225=>241|217=>127|266=>184|n=>n,
 fun|9=>9|4=>4|3=>3|5=>5|117=>184|116=>183|0=>0|124=>187|105=>223|21=>21|119=>254|46=>211|139=>257|138=>256|n=>n,
 fun|3=>4|4=>5|n=>n⟩
theorem GO:Lays.n161 Tryz.prog zD:={
 mixed:=by kernel_rfl
 f119:=Tryz.func240.trans (congrArg some Y636)
 f137:=Tryz.func82.trans (congrArg some Y636)
 f151:=Tryz.func219.trans (congrArg some Y636)
 f152:=Tryz.func210.trans (congrArg some Y636)
 f161:=Tryz.func147.trans (congrArg some Y636)
 f197:=Tryz.func218.trans (congrArg some Y636)
 f217:=Tryz.func127.trans (congrArg some Y636)
 f224:=Tryz.func215.trans (congrArg some Y636)
 f225:=Tryz.func241.trans (congrArg some Y636)
 f227:=Tryz.func167.trans (congrArg some Y636)
 f228:=Tryz.func212.trans (congrArg some Y636)
 f231:=Tryz.func165.trans (congrArg some Y636)
 f233:=Tryz.func168.trans (congrArg some Y636)
 f235:=Tryz.func170.trans (congrArg some Y636)
 f260:=Tryz.func245.trans (congrArg some Y636)
 f266:=Tryz.func184.trans (congrArg some Y636)
 t0:=Tryz.underlying0
 a0:=Tryz.isAgg0
 z0:=Tryz.sizeOf0
 v0:=Tryz.zeroValue0
 t3:=Tryz.underlying3
 a3:=Tryz.isAgg3
 z3:=Tryz.sizeOf3
 v3:=Tryz.zeroValue3
 t4:=Tryz.underlying4
 a4:=Tryz.isAgg4
 z4:=Tryz.sizeOf4
 v4:=Tryz.zeroValue4
 t5:=Tryz.underlying5
 a5:=Tryz.isAgg5
 z5:=Tryz.sizeOf5
 v5:=Tryz.zeroValue5
 t9:=Tryz.underlying9
 a9:=Tryz.isAgg9
 z9:=Tryz.sizeOf9
 v9:=Tryz.zeroValue9
 t21:=Tryz.underlying21
 a21:=Tryz.isAgg21
 z21:=Tryz.sizeOf21
 v21:=Tryz.zeroValue21
 t46:=Tryz.underlying211
 a46:=Tryz.isAgg211
 z46:=Tryz.sizeOf211
 v46:=Tryz.zeroValue211
 t105:=Tryz.underlying223
 a105:=Tryz.isAgg223
 z105:=Tryz.sizeOf223
 v105:=Tryz.zeroValue223
 t116:=Tryz.underlying183
 a116:=Tryz.isAgg183
 z116:=Tryz.sizeOf183
 t117:=Tryz.underlying184
 a117:=Tryz.isAgg184
 z117:=Tryz.sizeOf184
 v117:=Tryz.zeroValue184
 t119:=Tryz.underlying254
 a119:=Tryz.isAgg254
 z119:=Tryz.sizeOf254
 t124:=Tryz.underlying187
 a124:=Tryz.isAgg187
 z124:=Tryz.sizeOf187
 v124:=Tryz.zeroValue187
 t138:=Tryz.underlying256
 a138:=Tryz.isAgg256
 z138:=Tryz.sizeOf256
 v138:=Tryz.zeroValue256
 t139:=Tryz.underlying257
 a139:=Tryz.isAgg257
 z139:=Tryz.sizeOf257
 v139:=Tryz.zeroValue257
 g3:=by kernel_rfl
 g4:=by kernel_rfl }
theorem ij:aJ Tryz.prog 147:=⟨_,Tryz.func147,rfl,by kernel_rfl⟩
theorem jM(s:List Bt)(w:World):Calls Tryz.prog 147 [Z s,Z [32,9]].toArray w fun e w'=>e=.returned (Z (aO s))/\Ext w w':=
 (Any.strings_TrimLeft_laid GO uV (bP s) (bP [32,9]) w Y610 oM).mono fun e w' ⟨h1,h2⟩=>⟨by
   rw[h1,fI,fI,uQ,zC],nV h2⟩
def zE:Ren:=⟨fun|153=>159|152=>210|226=>211|227=>167|228=>212|137=>82|119=>240|224=>215|225=>241|217=>127|266=>184|n=>n,
 fun|9=>9|3=>3|4=>4|5=>5|21=>21|117=>184|116=>183|0=>0|46=>211|124=>187|n=>n,
 fun n=>n⟩
theorem GP:Lays.n153 Tryz.prog zE:={
 mixed:=by kernel_rfl
 f119:=Tryz.func240.trans (congrArg some Y636)
 f137:=Tryz.func82.trans (congrArg some Y636)
 f152:=Tryz.func210.trans (congrArg some Y636)
 f153:=Tryz.func159.trans (congrArg some Y636)
 f217:=Tryz.func127.trans (congrArg some Y636)
 f224:=Tryz.func215.trans (congrArg some Y636)
 f225:=Tryz.func241.trans (congrArg some Y636)
 f226:=Tryz.func211.trans (congrArg some Y636)
 f227:=Tryz.func167.trans (congrArg some Y636)
 f228:=Tryz.func212.trans (congrArg some Y636)
 f266:=Tryz.func184.trans (congrArg some Y636)
 t0:=Tryz.underlying0
 a0:=Tryz.isAgg0
 z0:=Tryz.sizeOf0
 v0:=Tryz.zeroValue0
 t3:=Tryz.underlying3
 a3:=Tryz.isAgg3
 z3:=Tryz.sizeOf3
 v3:=Tryz.zeroValue3
 t4:=Tryz.underlying4
 a4:=Tryz.isAgg4
 z4:=Tryz.sizeOf4
 v4:=Tryz.zeroValue4
 t5:=Tryz.underlying5
 a5:=Tryz.isAgg5
 z5:=Tryz.sizeOf5
 v5:=Tryz.zeroValue5
 t9:=Tryz.underlying9
 a9:=Tryz.isAgg9
 z9:=Tryz.sizeOf9
 v9:=Tryz.zeroValue9
 t21:=Tryz.underlying21
 a21:=Tryz.isAgg21
 z21:=Tryz.sizeOf21
 v21:=Tryz.zeroValue21
 t46:=Tryz.underlying211
 a46:=Tryz.isAgg211
 z46:=Tryz.sizeOf211
 v46:=Tryz.zeroValue211
 t116:=Tryz.underlying183
 a116:=Tryz.isAgg183
 z116:=Tryz.sizeOf183
 t117:=Tryz.underlying184
 a117:=Tryz.isAgg184
 z117:=Tryz.sizeOf184
 v117:=Tryz.zeroValue184
 t124:=Tryz.underlying187
 a124:=Tryz.isAgg187
 z124:=Tryz.sizeOf187
 v124:=Tryz.zeroValue187 }
theorem uW:aJ Tryz.prog 159:=⟨_,Tryz.func159,rfl,by kernel_rfl⟩
theorem GQ(s:List Bt)(w:World)(hl:s.length<4294967281)(hs:∀ c∈s,c.toNat<128):Calls Tryz.prog 159 [Z s,Z [32,9]].toArray w fun e w'=>e=.returned (I (RG s))/\Ext w w':=
 (Any.strings_IndexAny_laid GP uV (bP s) (bP [32,9]) w (by rw[cj];exact hl) Y610 (fun j b hb=>by
   rw[fI] at hb
   obtain⟨c,hc,rfl⟩:=List.mem_map.1 (List.mem_of_getElem? hb)
   exact hs c hc) oM).mono fun e w' ⟨h1,h2⟩=>⟨by
   rw[h1,fI,fI,sF],nV h2⟩
structure zF (P:Program) (f:FuncId):Prop where
 go:∃ fn,P.funcs[f]?=some fn/\(fn.name=="runtime.NumGoroutine")=false/\fn.body.isNone=true/\Extern.findNext fn=none/\Extern.find fn=some Extern.BytealgIndexByte.indexByte
theorem OQ.idxs{P:Program}{n:Nat}{E:Env}{C:World->Prop}{dst:Option Tmp}{ty:TypeId}{pos:String}{aft:Array Edge}{g:Option (Nat × Bool)}{f:FuncId}{ats:Array TypeId}{x y:Operand}{s:List Bt}{c:Bt}(hf:zF P f)(hx:ev E x=some (Z s))(hy:ev E y=some (U8 c)) :
  OQ P n E C ⟨dst,.call ⟨.value (.func f),#[x,y],ats⟩,ty,pos,aft,g⟩ (I (kO c s)):=by
 refine⟨fun ac hk w hw=>?_⟩
 obtain⟨fn,h1,h2,h3,h4,h5⟩:=hf.go
 have r:=run_callFunc_extern h1 h2 h3 h4 h5 #[Z s,U8 c] w
 rw[run_indexByte_string,JV] at r
 unfold Oper.quietAt
 have r':(execOp ac.eval ⟨dst,.call ⟨.value (.func f),#[x,y],ats⟩,ty,pos,aft,g⟩).run P w=.ok (.value (I (kO c s))) w:=by
  simp only[Result.andThen] at r
  have k1:=hk.eval hx
  have k2:=hk.eval hy
  have e:(.ok (.value (I (kO c s))) w:Result Next)=(callFunc f #[Z s,U8 c]).run P w:=r.symm
  rw[e]
  simp[execOp,resolve,Sem.run_bind,Act.eval,Deferred.ofValue,invoke,k1,k2]
  simp[Act.eval] at k1 k2
  simp[k1,k2]
 rw[r']
 exact⟨rfl,rfl⟩
theorem MZ:zF Tryz.prog 184:=⟨_,Tryz.func184,rfl,rfl,by kernel_rfl,by kernel_rfl⟩
theorem xP:aJ Tryz.prog 127:=⟨_,Tryz.func127,rfl,by kernel_rfl⟩
theorem nW:aJ Tryz.prog 82:=⟨_,Tryz.func82,rfl,by kernel_rfl⟩
theorem Bl(s:List Bt)(c:Bt)(w:World):Calls Tryz.prog 127 [Z s,U8 c].toArray w fun e w'=>e=.returned (I (kO c s))/\Ext w w':=by
 refine enter (n:=8) Tryz.func127 rfl rfl rfl (aa.start w []) ?_
 repeat(first|refine JL.q (by(apply OQ.idxs;exact MZ;rfl;rfl)) rfl ?_|refine Y0 ?_)
 exact Y244
theorem qa(s:List Bt)(c:Bt)(w:World):Calls Tryz.prog 82 [Z s,U8 c].toArray w fun e w'=>e=.returned (I (kO c s))/\Ext w w':=by
 refine enter (n:=8) Tryz.func82 rfl rfl rfl (aa.start w []) ?_
 repeat(first|refine JL.q (by(apply OQ.ai;exact xP;rfl;exact(fun w' _=>Bl s c w'))) rfl ?_|refine Y0 ?_)
 exact Y244
theorem sH:aJ Tryz.prog 217:=⟨_,Tryz.func217,rfl,by kernel_rfl⟩
theorem xQ:aJ Tryz.prog 163:=⟨_,Tryz.func163,rfl,by kernel_rfl⟩
theorem eC:aJ Tryz.prog 114:=⟨_,Tryz.func114,rfl,by kernel_rfl⟩
theorem M1(c:Bt):kO c [c]=0:=by simp[kO,fi]
theorem uX(s:List Bt)(c:Bt)(w:World):Calls Tryz.prog 217 [Z s,Z [c]].toArray w fun e w'=>e=.returned (I (kO c s))/\Ext w w':=by
 refine enter (n:=143) Tryz.func217 rfl rfl rfl (aa.start w []) ?_
 cases h:decide ([c]=s)
 · repeat(first|refine JL.q Y637 rfl ?_|refine JL.bG rfl rfl ?_|refine Y1 ?_)
   refine Y245 ?_
   repeat(first|refine JL.q Y638 rfl ?_|refine Y0 ?_)
   refine Y246 ?_
   repeat(first|refine JL.q (by first|(apply OQ.ru (l:=[c]) (i:=0);exact Tryz.underlying9;rfl;rfl;exact(Nat.zero_lt_succ 0))|(apply OQ.ai (vs:=[Z s,U8 c]);exact xP;rfl;exact(fun w' _=>Bl s c w'))) rfl ?_|refine Y0 ?_)
   refine Y247 ?_
   refine Y2 ?_
   exact Y248
 · obtain rfl:=of_decide_eq_true h
   rw[M1]
   repeat(first|refine JL.q Y637 rfl ?_|refine JL.bG rfl rfl ?_|refine Y1 ?_)
   refine Y246 ?_
   refine Y3 ?_
   refine Y247 ?_
   refine Y2 ?_
   exact Y248
def zG(c:Bt)(s:List Bt):Value:=if fi c s<s.length then .tuple #[Z (s.take (fi c s)),Z (s.drop (fi c s+1)),.bool true] else .tuple #[Z s,Z [],.bool false]
theorem JZ(s:List Bt)(c:Bt)(w:World)(hl:s.length<9223372036854775807):Calls Tryz.prog 163 [Z s,Z [c]].toArray w fun e w'=>e=.returned (zG c s)/\Ext w w':=by
 refine enter (n:=23) Tryz.func163 rfl rfl rfl (aa.start w []) ?_
 by_cases h:fi c s<s.length
 · have e1:kO c s=(fi c s:Nat):=if_pos h
   have hq:∀ w',Calls Tryz.prog 217 [Z s,Z [c]].toArray w' fun e w2=>e=.returned (N (fi c s))/\Ext w' w2:=fun w'=>by
    have:=uX s c w'
    rw[e1] at this
    exact this
   have hle:fi c s<=s.length:=by omega
   have hle1:fi c s+1<=s.length:=h
   rw[show zG c s=_ from if_pos h]
   generalize fi c s=k at hq hle hle1
   repeat(first|refine JL.q (by exact Y320) rfl ?_|refine Y0 ?_)
   refine Y4 ?_
   refine Y249 ?_
   refine JC.seq (JC.quiet oL Y636 ?_)
   repeat(refine JQ.q (by first|exact Y321|exact Y322|(apply OQ.aY (b:=1);rfl;rfl;exact Y609)|(apply OQ.eV;exact Tryz.underlying9;rfl;rfl;exact hle1)|exact Y323|exact Y324) rfl ?_)
   refine JQ.nil (JE.next ?_)
   refine Y247 ?_
   refine Y250 ?_
   exact Y251
 · have e1:kO c s=-1:=if_neg h
   have hq:∀ w',Calls Tryz.prog 217 [Z s,Z [c]].toArray w' fun e w2=>e=.returned (I (-1))/\Ext w' w2:=fun w'=>by
    have:=uX s c w'
    rw[e1] at this
    exact this
   rw[show zG c s=_ from if_neg h]
   repeat(first|refine JL.q (by exact Y320) rfl ?_|refine Y0 ?_)
   repeat(first|refine JL.q (by exact Y325) rfl ?_|refine JL.nil ?_|refine JE.next ?_)
   refine Y252 ?_
   refine Y5 ?_
   refine Y247 ?_
   skip
   exact Y251
theorem qc(s:List Bt)(c:Bt)(w:World)(hl:s.length<9223372036854775807):Calls Tryz.prog 114 [Z s,Z [c]].toArray w fun e w'=>e=.returned (zG c s)/\Ext w w':=by
 refine enter (n:=13) Tryz.func114 rfl rfl rfl (aa.start w []) ?_
 have hq:=fun w'=>JZ s c w' hl
 unfold zG at hq⊢
 by_cases h:fi c s<s.length
 · simp only[h,if_true] at hq⊢
   repeat(first|refine JL.q (by exact Y326) rfl ?_|refine Y6 ?_)
   exact Y253
 · simp only[h,if_false] at hq⊢
   repeat(first|refine JL.q (by exact Y326) rfl ?_|refine Y6 ?_)
   exact Y253
end
section
open Sl
abbrev Acc:=Option (Nat × Nat)
def aD(q:Acc)(k:Nat):Value:=match q with
 | none=>.slice none 0 0
 | some p=>.slice (some ⟨p.1,0,none⟩) k p.2
def bw(e:TypeId)(q:Acc)(xs:List Value):List aL:=match q with
 | none=>[]
 | some p=>[⟨p.1,Sl.Own e 1 xs.length p.2 xs,true⟩]
def eO(q:Acc)(l:List Bt):ay:=match q with
 | none=>aB
 | some p=>⟨some ⟨p.1,0,none⟩,p.2,l⟩
theorem iV(q:Acc)(l:List Bt):(eO q l).v=aD q l.length:=by cases q <;> rfl
theorem mb{q:Acc}{l:List Bt}(h:q=none->l=[]):(eO q l).l=l:=by
 cases q with
 | none=>exact(h rfl).symm
 | some p=>rfl
theorem jN{q:Acc}{l:List Bt}:(eO q l).ad=none->(eO q l).l=[]:=by
 cases q with
 | none=>intro _;rfl
 | some p=>intro h;cases h
theorem iW{e:TypeId}(q:Acc)(l:List Bt):aj (eO q l).an (bw e q (l.map U8)):=by
 cases q with
 | none=>exact .nil _
 | some p=>
   show aj (ay.an ⟨some ⟨p.1,0,none⟩,p.2,l⟩) [⟨p.1,Sl.Own e 1 (l.map U8).length p.2 (l.map U8),true⟩]
   rw[List.length_map]
   exact jf rfl
theorem m9{w0 w:World}{S:List Nat}{M:List aL}{e:TypeId}{q:Acc}{l:List Bt}(hw:aa w0 S (bw e q (l.map U8)++M) w):(eO q l).ok w:=by
 cases q with
 | none=>exact dN w
 | some p=>
   have hw:aa w0 S (⟨p.1,Sl.Own e 1 (l.map U8).length p.2 (l.map U8),true⟩::M) w:=hw
   rw[List.length_map] at hw
   exact ku hw .here
theorem kz(e:TypeId)(q:Acc)(xs:List Value):∀ x∈bw e q xs,x.wr=true:=by
 intro x hx
 cases q with
 | none=>cases hx
 | some p=>rw[List.mem_singleton.1 hx]
section
variable {P:Program} {n:Nat} {w0:World} {S:List Nat} {ops:Array Oper} {Q:Exit->Act->World->Prop} {l:List Oper} {E:Env} {M:List aL} {d:Nat} {t tx e ty:TypeId} {pos:String} {aft:Array Edge} {x y:Operand}
theorem JL.J0{i:TypeInfo}{ad:Option Addr}{sc:Nat}(hu:P.underlying t=some (.slice e))(hi:P.info? e=some i)(hx:ev E x=some (.slice none 0 0))(hy:ev E y=some (.slice ad 0 sc))(hd:Nat.blt d n=true)
  (kk:JL P n w0 S ops Q l ((d,.slice none 0 0)::E) M):JL P n w0 S ops Q (⟨some d,.call ⟨.builtin .append,#[x,y],#[t,t]⟩,ty,pos,aft,none⟩::l) E M:=
 ⟨fun a w ha hw=>wpList_plain rfl fun K hK=>by
  unfold Oper.wp
  simp only[execOp,resolve,invoke,builtin,Sem.run_bind,Sem.run_pure,Result.andThen_ok,List.map_toArray,List.map_cons,List.map_nil,ha.eval hx,ha.eval hy]
  rw[sB (_t':=t) hu hi (Nat.le_refl 0)]
  exact hK _ _ (kk.go _ _ (ha.put d _ hd) hw)⟩
theorem JL.je{z:Value}{by' m sc:Nat}{ad:Option Addr}{xs cs:List Value}(q:Acc)(hu:P.underlying t=some (.slice e))(hi:EI P e z 1 by')(hq:q=none->xs=[])(hx:ev E x=some (aD q xs.length))(hy:ev E y=some (.slice ad m sc))
  (hl:cs.length=m) (hr:∀ w,aa w0 S (bw e q xs++M) w->Reads w ad cs) (h1:∀ v∈cs,v.oneCell'=true)
  (hzz:z.cells.size=1) (hsm:(xs.length+m)*by'<=140737488355328) (hsm2:xs.length+m<9223372036854775808) (hd:Nat.blt d n=true)
  (kk:∀ q':Acc,(q'=none->xs++cs=[])->JL P n w0 S ops Q l ((d,aD q' (xs++cs).length)::E) (bw e q' (xs++cs)++M)):JL P n w0 S ops Q (⟨some d,.call ⟨.builtin .append,#[x,y],#[t,t]⟩,ty,pos,aft,none⟩::l) E (bw e q xs++M):=by
 subst hl
 cases q with
 | none=>
   obtain rfl:=hq rfl
   cases cs with
   | nil=>
     obtain⟨i,hi1,_⟩:=hi.get
     exact JL.J0 hu hi1 hx hy hd (kk none fun _=>rfl)
   | cons c cs=>
     refine JL.append_nil (cs:=c::cs) hu hi hx hy (by rw[Nat.mul_one]) hr Y614 hzz Y610 Y639 (by simpa using hsm2) hd fun b' cap' _=>?_
     exact kk (some (b',cap')) (fun h=>by cases h)
 | some p=>
   have e1:(xs++cs).length=xs.length+cs.length:=List.length_append
   refine JL.append (cs:=cs) (b:=p.1) (cap:=p.2) (xs:=xs) (fun b' cap'=>bw e (some (b',cap')) (xs++cs)++M) hu hi hx hy (fun b' cap'=>?_) (by rw[Nat.mul_one]) hr h1 hzz Y610 hsm hsm2 hd fun b' cap'=>?_
   · show aR (⟨p.1,Sl.Own e 1 xs.length p.2 xs,true⟩::M) _ _ _ _ (⟨b',Sl.Own e 1 (xs++cs).length cap' (xs++cs),true⟩::M)
     rw[e1]
     exact .here
   · have:=kk (some (b',cap')) (fun h=>by cases h)
     show JL P n w0 S ops Q l ((d,.slice (some ⟨b',0,none⟩) (xs.length+cs.length) cap')::E) _
     rw[<- e1]
     exact this
theorem JL.jB{r:List Bt}{xs:List Value}(q:Acc)(hu:P.underlying t=some (.slice e))(hk:P.underlying tx=some .string)(hi:EI P e (.int .u8 0) 1 1)(hq:q=none->xs=[])(hx:ev E x=some (aD q xs.length))(hy:ev E y=some (Z r))(h0:r≠[])
  (hsm:(xs.length+r.length)<=140737488355328) (hd:Nat.blt d n=true)
  (kk:∀ p:Nat × Nat,JL P n w0 S ops Q l ((d,aD (some p) (xs++r.map U8).length)::E) (bw e (some p) (xs++r.map U8)++M)):JL P n w0 S ops Q (⟨some d,.call ⟨.builtin .append,#[x,y],#[t,tx]⟩,ty,pos,aft,none⟩::l) E (bw e q xs++M):=by
 cases q with
 | none=>
   obtain rfl:=hq rfl
   refine⟨fun a w ha hw=>wpList_plain rfl fun K hK=>?_⟩
   obtain⟨i,hi1,hi2,hi3,hi4⟩:=hi.get
   have hpos:0<r.length:=List.length_pos_iff.2 h0
   have hsrc:Src P i.size tx (Z r) r.length (r.map U8) w:=by
    have:=Src.ofString (P:=P) w hk (bP r)
    rw[iG,cj] at this
    rw[hi3];exact this
   simp only[List.length_nil,Nat.zero_add] at hsm
   have hx':a.eval x=.slice none 0 0:=ha.eval hx
   unfold Oper.wp
   simp only[execOp,resolve,invoke,builtin,Sem.run_bind,Sem.run_pure,Result.andThen_ok,List.map_toArray,List.map_cons,List.map_nil,hx',ha.eval hy]
   have hfit:=growslice_fits (need:=r.length) (old:=0) (bytes:=1) Y609 Y609
   have hfo:(Builtin.firstCells i.size 0 (.slice none 0 0)).run P w.drew=.ok ([]:List Value).toArray w.drew:=by simp[Builtin.firstCells]
   have hrun:=run_append_grow_src (P:=P) w t tx ty e i (.int .u8 0) hu hi1 hi2 none 0 0 [] hfo (Z r) r.length (r.map U8) hsrc Y609 Y609 (by rw[hi4,Nat.zero_add];exact hfit)
   rw[hrun]
   simp only[Nat.zero_add]
   have hge:=grownCap_ge w r.length 0 e
   generalize grownCap w r.length 0 e=nc at hge
   refine hK _ _ ?_
   have k:=kk (w.heap.size,nc)
   have e1:([]++r.map U8:List Value).length=r.length:=by simp
   refine JL.go (E:=(d,aD (some (w.heap.size,nc)) r.length)::E) ?_ _ _ (ha.put d _ hd) (aa.push hw (.cells (([]++r.map U8:List Value).toArray++Builtin.zeroCells (Value.int .u8 0).cells (nc-r.length)) e) (A:=Sl.Own e 1 r.length nc (r.map U8)) ?_ ?_ rfl rfl rfl)
   · rw[e1] at k
     have k2:bw e (some (w.heap.size,nc)) ([]++r.map U8)++M=⟨w.heap.size,Sl.Own e 1 r.length nc (r.map U8),true⟩::M:=by
      show⟨w.heap.size,Sl.Own e 1 ([]++r.map U8:List Value).length nc ([]++r.map U8),true⟩::M=_
      rw[e1,List.nil_append]
     rw[k2] at k
     exact k
   · have h8:(Builtin.zeroCells (Value.int .u8 0).cells (nc-r.length)).size=nc-r.length:=by
      rw[show(Value.int .u8 0).cells=#[Value.int .u8 0] from rfl];simp[Builtin.zeroCells]
     refine⟨(Builtin.zeroCells (Value.int .u8 0).cells (nc-r.length)).toList,by simp,?_,by simp,hge⟩
     simp only[List.length_append,Array.length_toList,h8,List.length_map]
     omega
   · rfl
 | some p=>
   have e1:(xs++r.map U8).length=xs.length+r.length:=by simp
   refine JL.tL (b:=p.1) (cap:=p.2) (k:=xs.length) (xs:=xs) (fun b' cap'=>bw e (some (b',cap')) (xs++r.map U8)++M) hu hk hi hx hy (fun b' cap'=>?_) hsm hd fun b' cap'=>?_
   · show aR (⟨p.1,Sl.Own e 1 xs.length p.2 xs,true⟩::M) _ _ _ _ (⟨b',Sl.Own e 1 (xs++r.map U8).length cap' (xs++r.map U8),true⟩::M)
     rw[e1]
     exact .here
   · have:=kk (b',cap')
     rw[e1] at this
     exact this
end
theorem JC.Ti{P:Program}{n:Nat}{w0:World}{S:List Nat}{Q:Exit->Act->World->Prop}{E:Env}{M:List aL}{ι:Type}(Ei:ι->Env)(Mi:ι->List aL)(I:ι->Prop){p q r:Code}
  (h:JC P n w0 S (Exit.then (q.wp P (Exit.then (fun a' w'=>∃ i,I i/\bF n (Ei i) a'/\aa w0 S (Mi i) w') Q)) (Exit.then (fun a' w'=>∃ i,I i/\bF n (Ei i) a'/\aa w0 S (Mi i) w') Q)) p E M)
  (k:∀ i,I i->JC P n w0 S Q r (Ei i) (Mi i)):JC P n w0 S Q (.seq p (.seq q r)) E M:=
 ⟨fun a w ha hw=>wp_seq (wp_mono (h.go a w ha hw) fun e a' w' he=>by
  cases e with
  | normal=>exact wp_seq (wp_mono he fun e a' w' he=>by
     cases e with
     | normal=>obtain⟨i,hi,h1,h2⟩:=he;exact(k i hi).go a' w' h1 h2
     | exit _=>exact he
     | goto _=>exact he
     | ret=>exact he
     | panic _=>exact he
     | outgrown=>exact he)
  | exit _=>exact he
  | goto _=>exact he
  | ret=>exact he
  | panic _=>exact he
  | outgrown=>exact he)⟩
end
section
namespace Tok
open aq
def dY:List aq.By->Nat->Nat->Except Nat Nat
 | [],_,_=>.error 3
 | c::r,d,k=>
   if c=40 then(if 8<d then .error 5 else dY r (d+1) (k+1))
   else if c=41 then(if d-1=0 then .ok (k+1) else dY r (d-1) (k+1))
   else if c=92 then
    match r with
    | []=>.error 3
    | _::r'=>dY r' d (k+2)
   else dY r d (k+1)
theorem nX(r:List aq.By)(d k:Nat):dY (40::r) d k=if 8<d then .error 5 else dY r (d+1) (k+1):=by
 rw[dY.eq_def];rfl
theorem tN(r:List aq.By)(d k:Nat):dY (41::r) d k=if d-1=0 then .ok (k+1) else dY r (d-1) (k+1):=by
 rw[dY.eq_def];rfl
theorem uY(d k:Nat):dY [92] d k=.error 3:=by rw[dY.eq_def];rfl
theorem zH(c:aq.By)(r:List aq.By)(d k:Nat):dY (92::c::r) d k=dY r d (k+2):=by
 conv=>lhs;rw[dY.eq_def]
 rfl
theorem Ds{c:aq.By}(h1:¬ c=40)(h2:¬ c=41)(h3:¬ c=92)(r:List aq.By)(d k:Nat):dY (c::r) d k=dY r d (k+1):=by
 conv=>lhs;rw[dY.eq_def]
 dsimp only
 rw[if_neg h1,if_neg h2,if_neg h3]
theorem rA(d k:Nat):dY [] d k=.error 3:=by rw[dY.eq_def]
theorem xR:∀ (n:Nat) (r:List aq.By) (d k:Nat) (o:List aq.By),r.length<=n->0<d->
  (∀ e,dY r d k=.error e->aU r d false o=([],e))/\(∀ m,dY r d k=.ok m->k<m/\m<=k+r.length/\aU r d false o=aU (r.drop (m-k)) 0 false (o++[32])):=by
 intro n
 induction n with
 | zero=>
   intro r d k o h hd
   obtain rfl:r=[]:=List.eq_nil_of_length_eq_zero Y609
   rw[rA,gW]
   refine⟨fun e he=>?_,fun m hm=>by cases hm⟩
   cases he
   rw[decide_eq_true Y609,Bool.true_or,if_pos rfl]
 | succ n ih=>
   intro r d k o h hd
   match r,h with
   | [],_=>
     rw[rA,gW]
     refine⟨fun e he=>?_,fun m hm=>by cases hm⟩
     cases he
     rw[decide_eq_true Y609,Bool.true_or,if_pos rfl]
   | c::r,h=>
     simp only[List.length_cons] at h⊢
     have step:∀ (r':List aq.By) (j d':Nat) (o':List aq.By),r'.length<=n->0<d'->(∀ x,(c::r).drop (j+x)=r'.drop x)->j+r'.length=r.length+1->0<j->o'=o->aU (c::r) d false o=aU r' d' false o'->
       dY (c::r) d k=dY r' d' (k+j)->
       (∀ e,dY (c::r) d k=.error e->aU (c::r) d false o=([],e))/\(∀ m,dY (c::r) d k=.ok m->k<m/\m<=k+(r.length+1)/\aU (c::r) d false o=aU ((c::r).drop (m-k)) 0 false (o++[32])):=by
      intro r' j d' o' hl hd' hdr hjl hj ho hb hc
      subst ho
      obtain⟨i1,i2⟩:=ih r' d' (k+j) o' hl hd'
      rw[hb,hc]
      refine⟨i1,fun m hm=>?_⟩
      obtain⟨a1,a2,a3⟩:=i2 m hm
      refine⟨by omega,by omega,?_⟩
      rw[a3,show m-k=j+(m-(k+j)) by omega,hdr]
     by_cases h40:c=40
     · subst h40
       by_cases h8:8<d
       · rw[nX,if_pos h8]
         refine⟨fun e he=>?_,fun m hm=>by cases hm⟩
         cases he
         rw[ko,if_pos Y609]
       · exact step r 1 (d+1) o Y609 Y609 (fun x=>by rw[Nat.add_comm];rfl) Y609 Y609 rfl (by rw[ko,if_neg Y609]) (by rw[nX,if_neg h8])
     · by_cases h41:c=41
       · subst h41
         by_cases h1:d-1=0
         · rw[tN,if_pos h1]
           refine⟨fun e he=>by(cases he),fun m hm=>?_⟩
           cases hm
           refine⟨by omega,by omega,?_⟩
           rw[lQ,if_neg Y609,if_pos h1,h1,show k+1-k=1 by omega]
           rfl
         · exact step r 1 (d-1) o Y609 Y609 (fun x=>by rw[Nat.add_comm];rfl) Y609 Y609 rfl (by rw[lQ,if_neg Y609,if_neg h1]) (by rw[tN,if_neg h1])
       · by_cases h92:c=92
         · subst h92
           match r,h with
           | [],_=>
             rw[uY,qX hd]
             exact⟨fun e he=>by cases he;rfl,fun m hm=>by cases hm⟩
           | c2::r,h=>
             simp only[List.length_cons] at h
             exact step r 2 d o Y609 hd (fun x=>by rw[Nat.add_comm];rfl) (by simp only[List.length_cons];omega) Y609 rfl (um hd c2 r o) (zH c2 r d k)
         · exact step r 1 d o Y609 hd (fun x=>by rw[Nat.add_comm];rfl) Y609 Y609 rfl (mR h92 h40 h41 Y609 r o) (Ds h40 h41 h92 r d k)
def bZ:List aq.By->Nat->Nat
 | [],_=>0
 | c::r,k=>
   if c=92 then
    match r with
    | []=>0
    | _::r'=>bZ r' (k+2)
   else if c=34 then k+1 else bZ r (k+1)
theorem oN(k:Nat):bZ [] k=0:=by rw[bZ.eq_def]
theorem zI(r:List aq.By)(k:Nat):bZ (34::r) k=k+1:=by rw[bZ.eq_def];rfl
theorem uZ(k:Nat):bZ [92] k=0:=by rw[bZ.eq_def];rfl
theorem tO(c:aq.By)(r:List aq.By)(k:Nat):bZ (92::c::r) k=bZ r (k+2):=by
 conv=>lhs;rw[bZ.eq_def]
 rfl
theorem zJ{c:aq.By}(h1:¬ c=34)(h2:¬ c=92)(r:List aq.By)(k:Nat):bZ (c::r) k=bZ r (k+1):=by
 conv=>lhs;rw[bZ.eq_def]
 dsimp only
 rw[if_neg h2,if_neg h1]
theorem xS:∀ (n:Nat) (r:List aq.By) (k:Nat) (o:List aq.By),r.length<=n->
  (bZ r k=0->aU r 0 true o=([],3))/\(bZ r k≠0->k<bZ r k/\bZ r k<=k+r.length/\aU r 0 true o=aU (r.drop (bZ r k-k)) 0 false (o++r.take (bZ r k-k))):=by
 intro n
 induction n with
 | zero=>
   intro r k o h
   obtain rfl:r=[]:=List.eq_nil_of_length_eq_zero Y609
   rw[oN,gW]
   exact Y254
 | succ n ih=>
   intro r k o h
   match r,h with
   | [],_=>
     rw[oN,gW]
     exact Y254
   | c::r,h=>
     simp only[List.length_cons] at h⊢
     by_cases h92:c=92
     · subst h92
       match r,h with
       | [],_=>
         rw[uZ,qV]
         exact Y254
       | c2::r,h=>
         simp only[List.length_cons] at h⊢
         obtain⟨i1,i2⟩:=ih r (k+2) (o++[92]++[c2]) Y609
         rw[tO,pO]
         refine⟨i1,fun hn=>?_⟩
         obtain⟨a1,a2,a3⟩:=i2 hn
         refine⟨by omega,by omega,?_⟩
         rw[a3,show bZ r (k+2)-k=(bZ r (k+2)-(k+2))+1+1 by omega,List.drop_succ_cons,List.drop_succ_cons,List.take_succ_cons,List.take_succ_cons]
         simp
     · by_cases h34:c=34
       · subst h34
         rw[zI]
         refine⟨fun h=>absurd h Y609,fun _=>⟨by omega,by omega,?_⟩⟩
         rw[qW Y610,show k+1-k=0+1 by omega,List.drop_succ_cons,List.take_succ_cons]
         rfl
       · obtain⟨i1,i2⟩:=ih r (k+1) (o++[c]) Y609
         rw[zJ h34 h92,qW h92]
         have hb:(!(c==34))=true:=by
          rw[Bool.not_eq_true',beq_eq_false_iff_ne]
          exact h34
         rw[hb]
         refine⟨i1,fun hn=>?_⟩
         obtain⟨a1,a2,a3⟩:=i2 hn
         refine⟨by omega,by omega,?_⟩
         rw[a3,show bZ r (k+1)-k=(bZ r (k+1)-(k+1))+1 by omega,List.drop_succ_cons,List.take_succ_cons]
         simp
theorem GR{r:List aq.By}{e:Nat}(o:List aq.By)(h:dY (40::r) 0 0=.error e):aU (40::r) 0 false o=([],e):=by
 rw[nX,if_neg Y609] at h
 rw[ko,if_neg Y609]
 exact(xR r.length r 1 1 o (Nat.le_refl _) Y609).1 e h
theorem zK{r:List aq.By}{m:Nat}(o:List aq.By)(h:dY (40::r) 0 0=.ok m):0<m/\m<=r.length+1/\aU (40::r) 0 false o=aU ((40::r).drop m) 0 false (o++[32]):=by
 rw[nX,if_neg Y609] at h
 rw[ko,if_neg Y609]
 obtain⟨h1,h2,h3⟩:=(xR r.length r 1 1 o (Nat.le_refl _) Y609).2 m h
 refine⟨by omega,by omega,?_⟩
 rw[h3]
 obtain⟨m',rfl⟩:∃ m',m=m'+1:=⟨m-1,by omega⟩
 rfl
theorem GU{r:List aq.By}(o:List aq.By)(h:bZ r 1=0):aU (34::r) 0 false o=([],3):=by
 rw[lR Y610 Y610]
 exact(xS r.length r 1 _ (Nat.le_refl _)).1 h
theorem zL{r:List aq.By}(o:List aq.By)(h:bZ r 1≠0):1<bZ r 1/\bZ r 1<=r.length+1/\aU (34::r) 0 false o=aU ((34::r).drop (bZ r 1)) 0 false (o++(34::r).take (bZ r 1)):=by
 rw[lR Y610 Y610]
 obtain⟨h1,h2,h3⟩:=(xS r.length r 1 (o++[34]) (Nat.le_refl _)).2 h
 refine⟨h1,by omega,?_⟩
 show aU r 0 true (o++[34])=_
 rw[h3]
 generalize bZ r 1=m at h1⊢
 obtain⟨m',rfl⟩:∃ m',m=m'+1:=⟨m-1,by omega⟩
 simp
def iN(p:aq.By->Bool)(s:List aq.By):Nat:=(s.takeWhile p).length
theorem Fs(p:aq.By->Bool)(s:List aq.By):iN p s<=s.length:=(List.takeWhile_sublist _).length_le
theorem nY(p:aq.By->Bool)(c:aq.By)(s:List aq.By):iN p (c::s)=if p c then iN p s+1 else 0:=by
 unfold iN
 rw[List.takeWhile_cons]
 cases p c <;> simp
theorem rB(p:aq.By->Bool):∀ s:List aq.By,s.take (iN p s)=s.takeWhile p
 | []=>rfl
 | c::s=>by
   rw[nY,List.takeWhile_cons]
   cases p c with
   | true=>simp[rB p s]
   | false=>simp
theorem rC(p:aq.By->Bool):∀ s:List aq.By,s.drop (iN p s)=s.dropWhile p
 | []=>rfl
 | c::s=>by
   rw[nY,List.dropWhile_cons]
   cases p c with
   | true=>simp[rC p s]
   | false=>simp
theorem qd(p:aq.By->Bool):∀ s:List aq.By,(iN p s=s.length)↔s.all p=true
 | []=>by simp[iN]
 | c::s=>by
   rw[nY,List.all_cons,List.length_cons]
   have ih:=qd p s
   cases p c with
   | true=>simpa using ih
   | false=>simp
theorem J1(s:List aq.By):dh s=(decide (s≠[])&&decide (iN aW s=s.length)):=by
 unfold dh
 rw[Bool.eq_iff_iff,Bool.and_eq_true,Bool.and_eq_true,decide_eq_true_eq,decide_eq_true_eq,decide_eq_true_eq,qd,List.length_pos_iff]
 exact and_comm
theorem Dt(s:List aq.By):cY s=(decide (s≠[])&&decide (iN ck s=s.length)):=by
 unfold cY
 rw[Bool.eq_iff_iff,Bool.and_eq_true,Bool.and_eq_true,decide_eq_true_eq,decide_eq_true_eq,decide_eq_true_eq,qd,List.length_pos_iff]
 exact and_comm
def tP(c:aq.By):Bool:=decide (33<=c.toNat)&&(decide (c.toNat<=126)&&(!(c==60)&&!(c==62)))
theorem J2(c:aq.By)(r:List aq.By)(o:List (List aq.By)):iC (c::r) o none=if bl c then iC r o none else if c=60 then iC r o (some []) else([],3):=by rw[iC.eq_def]
theorem zM(c:aq.By)(r:List aq.By)(o:List (List aq.By))(x:List aq.By):iC (c::r) o (some x)=if c=62 then(if x.length=0 then([],3) else iC r (o++[x]) none)
  else if c.toNat<33\/126<c.toNat\/c=60 then([],3) else iC r o (some (x++[c])):=by rw[iC.eq_def]
theorem rD:∀ (t:List aq.By) (o:List (List aq.By)),iC t o none=iC (aO t) o none
 | [],_=>rfl
 | c::r,o=>by
   cases hc:bl c with
   | true=>
     have e:aO (c::r)=aO r:=by simp[aO,hc]
     rw[e,J2,if_pos hc]
     exact rD r o
   | false=>
     have e:aO (c::r)=c::r:=by simp[aO,hc]
     rw[e]
theorem Bm:∀ (r:List aq.By) (o:List (List aq.By)) (x:List aq.By),
  iC r o (some x)=iC (r.dropWhile tP) o (some (x++r.takeWhile tP))
 | [],o,x=>by simp
 | c::r,o,x=>by
   cases hc:tP c with
   | true=>
     have h:33<=c.toNat/\c.toNat<=126/\¬ c=60/\¬ c=62:=by simpa [tP] using hc
     rw[zM,if_neg h.2.2.2,if_neg (by rintro(h1|h1|h1);omega;omega;exact h.2.2.1 h1),Bm r o (x++[c])]
     simp[hc]
   | false=>simp[hc]
theorem J3{c:aq.By}{r:List aq.By}(hc:tP c=false)(h62:¬ c=62)(o:List (List aq.By))(x:List aq.By):iC (c::r) o (some x)=([],3):=by
 rw[zM,if_neg h62,if_pos]
 simp only[tP,Bool.and_eq_false_imp,decide_eq_true_eq,Bool.not_eq_true',beq_eq_false_iff_ne] at hc
 by_cases h1:c.toNat<33
 · exact .inl h1
 · by_cases h2:126<c.toNat
   · exact .inr (.inl h2)
   · refine .inr (.inr ?_)
     have:=hc Y609 Y609
     by_cases h3:c=60
     · exact h3
     · have h5:=this h3
       simp at h5
       exact absurd h5 h62
theorem GV(t:List aq.By)(ht:t≠[])(hb:∀ c∈t.head?,bl c=false)(o:List (List aq.By)) :
  iC t o none=if t.head?=some 60/\iN tP t.tail≠0/\(t.tail.drop (iN tP t.tail)).head?=some 62 then
   iC (aO (t.tail.drop (iN tP t.tail)).tail) (o++[t.tail.take (iN tP t.tail)]) none else([],3):=by
 match t,ht with
 | c::r,_=>
   have hcb:=hb c rfl
   rw[J2,if_neg (by rw[hcb];decide)]
   by_cases hc:c=60
   · subst hc
     rw[if_pos rfl,List.tail_cons,Bm,List.nil_append,rC,rB]
     have hl:iN tP r=(r.takeWhile tP).length:=rfl
     cases hd:r.dropWhile tP with
     | nil=>
       rw[if_neg (by rintro⟨_,_,h⟩;simp at h)]
       rfl
     | cons d r'=>
       have hdq:tP d=false:=by
        have:=List.head?_dropWhile_not tP r
        rw[hd] at this
        simpa using this
       by_cases h62:d=62
       · subst h62
         by_cases h0:(r.takeWhile tP).length=0
         · rw[if_neg (by rintro⟨_,h,_⟩;exact h (hl.trans h0)),zM,if_pos rfl,if_pos h0]
         · rw[if_pos ⟨rfl,fun h=>h0 (hl▸h),rfl⟩,zM,if_pos rfl,if_neg h0,List.tail_cons,<- rD]
       · rw[if_neg (by rintro⟨_,_,h⟩;exact h62 Y616),J3 hdq h62]
   · rw[if_neg hc,if_neg (by rintro⟨h,_⟩;exact hc Y616)]
end Tok
end
section
open Sl aq Tok
theorem Bn:aJ Tryz.prog 160:=⟨_,Tryz.func160,rfl,by kernel_rfl⟩
theorem ng:aJ Tryz.prog 111:=⟨_,Tryz.func111,rfl,by kernel_rfl⟩
theorem Bo:aJ Tryz.prog 144:=⟨_,Tryz.func144,rfl,by kernel_rfl⟩
theorem oO:aJ Tryz.prog 89:=⟨_,Tryz.func89,rfl,by kernel_rfl⟩
theorem qe:aJ Tryz.prog 92:=⟨_,Tryz.func92,rfl,by kernel_rfl⟩
theorem w6:aJ Tryz.prog 90:=⟨_,Tryz.func90,rfl,by kernel_rfl⟩
theorem nh:aJ Tryz.prog 65:=⟨_,Tryz.func65,rfl,by kernel_rfl⟩
theorem dI{s:List aq.By}{i:Nat}(h:i<s.length){n:Nat}{E:Env}{C:World->Prop}{dst:Option Tmp}{ty:TypeId}{pos:String}{aft:Array Edge}{g:Option (Nat × Bool)}{x y:Operand}(hx:ev E x=some (Z s))(hy:ev E y=some (N i)):OQ Tryz.prog n E C ⟨dst,.index 9 x y,ty,pos,aft,g⟩ (U8 (s.getD i 0)):=OQ.ru Tryz.underlying9 hx hy h
theorem J4:∀ c:aq.By,fB c=!(!decide ((c.toNat:Int)=9)&&(decide ((c.toNat:Int)<32)||decide (126<(c.toNat:Int)))):=by
 have h:∀ c:Fin 256,fB (BitVec.ofNat 8 c.val)=!(!decide (((BitVec.ofNat 8 c.val).toNat:Int)=9)&&(decide (((BitVec.ofNat 8 c.val).toNat:Int)<32)||decide (126<((BitVec.ofNat 8 c.val).toNat:Int)))):=by decide +kernel
 intro c
 simpa using h ⟨c.toNat,c.isLt⟩
theorem rE(c d:aq.By):decide ((d.toNat:Int)=(c.toNat:Int))=(d==c):=by
 by_cases h:d=c
 · subst h;simp
 · rw[decide_eq_false (Bc h)];simp[h]
theorem Ft(c:aq.By)(s:List aq.By)(w:World)(hl:s.length<9223372036854775808):Calls Tryz.prog 160 [U8 c,Z s].toArray w fun e w'=>e=.returned (.bool (Pa c s))/\Ext w w':=by
 refine enter (n:=17) Tryz.func160 rfl rfl rfl (aa.start w []) ?_
 refine Y7 ?_
 refine JC.loop (fun i:Nat=>[(0,U8 c),(1,Z s),(5,N i)]) (fun _=>[]) (fun i=>s.length-i) (fun i=>i<=s.length/\Pa c s=(s.drop i).any fun d=>d==c) 0 ⟨Nat.zero_le _,rfl⟩ Y640 (aj.refl _) ?_
 rintro i ⟨hi,ha⟩
 refine Y8 ?_
 refine JC.cond rfl (fun h=>?_) (fun h=>?_)
 · have hi':i<s.length:=of_decide_eq_true h
   clear h hi
   have hd:(s.drop i).any (fun d=>d==c)=((s.getD i 0==c)||(s.drop (i+1)).any fun d=>d==c):=by
    rw[List.drop_eq_getElem_cons hi',List.any_cons,List.getD_eq_getElem?_getD,List.getElem?_eq_getElem hi']
    rfl
   have hidx:=fun {n:Nat} {E:Env} {C:World->Prop} {dst:Option Tmp} {ty:TypeId} {pos:String} {aft:Array Edge} {g:Option (Nat × Bool)} {x y:Operand}=>dI hi' (n:=n) (E:=E) (C:=C) (dst:=dst) (ty:=ty) (pos:=pos) (aft:=aft) (g:=g) (x:=x) (y:=y)
   have he:=rE c (s.getD i 0)
   generalize s.getD i 0=d at hidx hd he
   cases h1:decide ((d.toNat:Int)=(c.toNat:Int))
   all_goals (rw[h1] at he;rw[hd,<- he] at ha;repeat(first|refine JL.q (by first|(apply hidx;rfl;rfl)|(apply OQ.ep;rfl;rfl;exact h1)) rfl ?_|refine Y9 ?_))
   all_goals refine JC.cond rfl (fun h=>?_) (fun h=>?_)
   all_goals first|(exfalso;revert h;decide)|skip
   all_goals (clear h)
   · refine Y10 ?_
     exact JE.again (i:=i) (i+1) ⟨hi',by rw[ha,Bool.false_or]⟩ Y609 Y640 (aj.refl _)
   · rw[ha,Bool.true_or]
     refine Y3 ?_
     refine Y247 ?_
     refine Y2 ?_
     exact Y248
 · have hi':¬ i<s.length:=of_decide_eq_false h
   obtain rfl:i=s.length:=by omega
   rw[List.drop_length] at ha
   rw[ha]
   refine Y11 ?_
   refine Y247 ?_
   exact Y248
theorem Tj(c:aq.By):aW c=(decide (33<=(c.toNat:Int))&&decide ((c.toNat:Int)<=126)&&!Pa c spec):=by
 unfold aW
 congr 1
 congr 1
 · exact Y255
 · exact Y255
theorem oP(c:aq.By)(w:World):Calls Tryz.prog 111 [U8 c].toArray w fun e w'=>e=.returned (.bool (aW c))/\Ext w w':=by
 refine enter (n:=14) Tryz.func111 rfl rfl rfl (aa.start w []) ?_
 have cI:=fun w'=>Ft c spec w' Y610
 rw[Tj]
 generalize Pa c spec=x at cI⊢
 cases h1:decide ((33:Int)<=(c.toNat:Int)) <;> cases h2:decide ((c.toNat:Int)<=126) <;> cases h3:x
 all_goals subst h3
 all_goals (repeat(first|refine JL.q (by first|(apply OQ.dB (vs:=[U8 c,Z spec]);exact Bn;rfl;exact cI;rfl)|exact Y327|exact Y328|exact Y329|exact Y330|exact Y331|exact Y323|exact Y324) rfl ?_|refine JC.seq ?_|refine JC.region ?_|refine JL.nil ?_|refine JE.next ?_|refine JL.bG rfl rfl ?_|refine JL.aM rfl rfl rfl rfl ?_))
 all_goals exact JC.ret (JE.aK rfl (RV.tmp rfl) fun w' hw=>⟨rfl,hw.aH⟩)
theorem Du(c:aq.By)(w:World):Calls Tryz.prog 144 [U8 c].toArray w fun e w'=>e=.returned (.bool (ck c))/\Ext w w':=by
 refine enter (n:=9) Tryz.func144 rfl rfl rfl (aa.start w []) ?_
 have cI:=fun w'=>Ft c [46,47,58,63] w' Y610
 have cP:=fun w'=>oP c w'
 unfold ck
 generalize Pa c [46,47,58,63]=x at cI⊢
 generalize aW c=y at cP⊢
 cases h1:y <;> cases h3:x
 all_goals subst h3 h1
 all_goals (repeat(first|refine JL.q (by first|(apply OQ.dB (vs:=[U8 c,Z [46,47,58,63]]);exact Bn;rfl;exact cI;rfl)|exact Y332) rfl ?_|refine JL.bG rfl rfl ?_|refine JL.aM rfl rfl rfl rfl ?_|refine Y12 ?_))
 all_goals exact JC.ret (JE.aK rfl (RV.tmp rfl) fun w' hw=>⟨rfl,hw.aH⟩)
theorem rF(s:List aq.By)(w:World)(hl:s.length<9223372036854775808):Calls Tryz.prog 89 [Z s].toArray w fun e w'=>e=.returned (.bool (dh s))/\Ext w w':=by
 refine enter (n:=18) Tryz.func89 rfl rfl rfl (aa.start w []) ?_
 refine Y7 ?_
 refine JC.loop (fun i:Nat=>[(0,Z s),(3,N i)]) (fun _=>[]) (fun i=>s.length-i) (fun i=>i<=s.length/\(s.take i).all aW=true) 0 ⟨Nat.zero_le _,rfl⟩ Y640 (aj.refl _) ?_
 rintro i ⟨hi,ha⟩
 refine Y8 ?_
 refine JC.cond rfl (fun h=>?_) (fun h=>?_)
 · have hi':i<s.length:=of_decide_eq_true h
   clear h hi
   have hx:=eK aW s 0 hi'
   have hbad:=gY aW s 0 hi'
   rw[ha,Bool.true_and] at hx
   have hidx:=fun {n:Nat} {E:Env} {C:World->Prop} {dst:Option Tmp} {ty:TypeId} {pos:String} {aft:Array Edge} {g:Option (Nat × Bool)} {x y:Operand}=>dI hi' (n:=n) (E:=E) (C:=C) (dst:=dst) (ty:=ty) (pos:=pos) (aft:=aft) (g:=g) (x:=x) (y:=y)
   have cP:=fun w'=>oP (s.getD i 0) w'
   generalize s.getD i 0=c at hx hbad hidx cP
   generalize aW c=x at hx hbad cP
   cases h1:x
   all_goals subst h1
   all_goals (repeat(first|refine JL.q (by first|(apply hidx;rfl;rfl)|exact Y332) rfl ?_|refine Y13 ?_))
   all_goals refine JC.cond rfl (fun h=>?_) (fun h=>?_)
   all_goals first|(exfalso;revert h;decide)|skip
   all_goals (clear h)
   · have e:dh s=false:=by rw[dh,hbad rfl];rfl
     rw[e]
     refine Y3 ?_
     refine Y247 ?_
     refine Y2 ?_
     exact Y248
   · refine Y10 ?_
     exact Y256
 · have hi':¬ i<s.length:=of_decide_eq_false h
   obtain rfl:i=s.length:=by omega
   clear h hi hi'
   rw[List.take_length] at ha
   have e:dh s=decide ((0:Int)<(s.length:Int)):=by
    rw[dh,ha,Bool.true_and]
    exact Y255
   rw[e]
   cases h1:decide ((0:Int)<(s.length:Int))
   all_goals (repeat(first|refine JL.q (by exact Y333) rfl ?_|refine Y14 ?_))
   all_goals refine JC.ret ?_
   all_goals exact JE.aK rfl (RV.tmp rfl) fun w' hw=>⟨rfl,hw.aH⟩
theorem Bp(s:List aq.By)(w:World)(hl:s.length<9223372036854775808):Calls Tryz.prog 92 [Z s].toArray w fun e w'=>e=.returned (.bool (cY s))/\Ext w w':=by
 refine enter (n:=18) Tryz.func92 rfl rfl rfl (aa.start w []) ?_
 refine Y7 ?_
 refine JC.loop (fun i:Nat=>[(0,Z s),(3,N i)]) (fun _=>[]) (fun i=>s.length-i) (fun i=>i<=s.length/\(s.take i).all ck=true) 0 ⟨Nat.zero_le _,rfl⟩ Y640 (aj.refl _) ?_
 rintro i ⟨hi,ha⟩
 refine Y8 ?_
 refine JC.cond rfl (fun h=>?_) (fun h=>?_)
 · have hi':i<s.length:=of_decide_eq_true h
   clear h hi
   have hx:=eK ck s 0 hi'
   have hbad:=gY ck s 0 hi'
   rw[ha,Bool.true_and] at hx
   have hidx:=fun {n:Nat} {E:Env} {C:World->Prop} {dst:Option Tmp} {ty:TypeId} {pos:String} {aft:Array Edge} {g:Option (Nat × Bool)} {x y:Operand}=>dI hi' (n:=n) (E:=E) (C:=C) (dst:=dst) (ty:=ty) (pos:=pos) (aft:=aft) (g:=g) (x:=x) (y:=y)
   have cP:=fun w'=>Du (s.getD i 0) w'
   generalize s.getD i 0=c at hx hbad hidx cP
   generalize ck c=x at hx hbad cP
   cases h1:x
   all_goals subst h1
   all_goals (repeat(first|refine JL.q (by first|(apply hidx;rfl;rfl)|(apply OQ.dB (vs:=[U8 c]);exact Bo;rfl;exact cP;rfl)) rfl ?_|refine Y13 ?_))
   all_goals refine JC.cond rfl (fun h=>?_) (fun h=>?_)
   all_goals first|(exfalso;revert h;decide)|skip
   all_goals (clear h)
   · have e:cY s=false:=by rw[cY,hbad rfl];rfl
     rw[e]
     refine Y3 ?_
     refine Y247 ?_
     refine Y2 ?_
     exact Y248
   · refine Y10 ?_
     exact Y256
 · have hi':¬ i<s.length:=of_decide_eq_false h
   obtain rfl:i=s.length:=by omega
   clear h hi hi'
   rw[List.take_length] at ha
   have e:cY s=decide ((0:Int)<(s.length:Int)):=by
    rw[cY,ha,Bool.true_and]
    exact Y255
   rw[e]
   cases h1:decide ((0:Int)<(s.length:Int))
   all_goals (repeat(first|refine JL.q (by exact Y333) rfl ?_|refine Y14 ?_))
   all_goals refine JC.ret ?_
   all_goals exact JE.aK rfl (RV.tmp rfl) fun w' hw=>⟨rfl,hw.aH⟩
theorem zN(s:List aq.By)(w:World)(hl:s.length<9223372036854775808):Calls Tryz.prog 90 [Z s].toArray w fun e w'=>e=.returned (.bool (s.all fB))/\Ext w w':=by
 refine enter (n:=26) Tryz.func90 rfl rfl rfl (aa.start w []) ?_
 refine Y7 ?_
 refine JC.loop (fun i:Nat=>[(0,Z s),(3,N i)]) (fun _=>[]) (fun i=>s.length-i) (fun i=>i<=s.length/\(s.take i).all fB=true) 0 ⟨Nat.zero_le _,rfl⟩ Y640 (aj.refl _) ?_
 rintro i ⟨hi,ha⟩
 refine Y8 ?_
 refine JC.cond rfl (fun h=>?_) (fun h=>?_)
 · have hi':i<s.length:=of_decide_eq_true h
   clear h hi
   have hx:=eK fB s 0 hi'
   have hbad:=gY fB s 0 hi'
   have hix:=J4 (s.getD i 0)
   rw[ha,Bool.true_and] at hx
   have hidx:=fun {n:Nat} {E:Env} {C:World->Prop} {dst:Option Tmp} {ty:TypeId} {pos:String} {aft:Array Edge} {g:Option (Nat × Bool)} {x y:Operand}=>dI hi' (n:=n) (E:=E) (C:=C) (dst:=dst) (ty:=ty) (pos:=pos) (aft:=aft) (g:=g) (x:=x) (y:=y)
   generalize s.getD i 0=c at hx hbad hix hidx
   cases h1:decide ((c.toNat:Int)=9) <;> cases h2:decide ((c.toNat:Int)<32) <;> cases h3:decide (126<(c.toNat:Int))
   all_goals (repeat(first|refine JL.q Y641 rfl ?_|refine JL.bG rfl rfl ?_|refine JL.aM rfl rfl rfl rfl ?_|refine JL.ic rfl rfl rfl rfl ?_|refine Y15 ?_))
   all_goals refine JC.cond rfl (fun h=>?_) (fun h=>?_)
   all_goals first|(exfalso;revert h;decide)|skip
   all_goals (clear h)
   all_goals first
    | (have hnb:fB c=false:=by rw[hix,h1,h2,h3];rfl
       rw[hbad hnb]
       (refine Y3 ?_)
       refine Y247 ?_
       (refine Y2 ?_)
       exact JE.aK rfl (RV.tmp rfl) fun w' hw=>⟨rfl,hw.aH⟩)
    | (have hnb:fB c=true:=by rw[hix,h1,h2,h3];rfl
       (refine Y10 ?_)
       exact JE.again (i:=i) (i+1) ⟨hi',by rw[hx,hnb]⟩ Y609 Y640 (aj.refl _))
 · have hi':¬ i<s.length:=of_decide_eq_false h
   obtain rfl:i=s.length:=by omega
   clear h hi hi'
   rw[List.take_length] at ha
   rw[ha]
   refine Y11 ?_
   refine Y247 ?_
   exact Y248
theorem oQ(s:List aq.By)(w:World)(hl:s.length<140737488351233):Calls Tryz.prog 65 [Z s].toArray w fun e w'=>e=.returned (Z (s.map small))/\Ext w w':=by
 refine enter (n:=30) Tryz.func65 rfl rfl rfl (aa.start w []) ?_
 refine Y3 ?_
 refine JL.lB Tryz.underlying22 dV rfl fun b0 _=>?_
 refine Y7 ?_
 refine JC.loop (fun q:Nat × Nat × Nat=>[(0,Z s),(3,.slice (some ⟨q.2.1,0,none⟩) q.1 q.2.2),(4,N q.1)]) (fun q=>[⟨q.2.1,Sl.Own 5 1 q.1 q.2.2 (((s.take q.1).map small).map U8),true⟩]) (fun q=>s.length-q.1) (fun q=>q.1<=s.length) (0,b0,0) (Nat.zero_le _) Y640 (aj.refl _) ?_
 rintro⟨i,b,cap⟩ hi
 simp only at hi
 dsimp only
 refine Y8 ?_
 refine JC.cond rfl (fun h=>?_) (fun h=>?_)
 · have hi':i<s.length:=of_decide_eq_true h
   clear h hi
   have hx:=eD s hi'
   have hlen:((s.take i).map small).length=i:=by rw[List.length_map,List.length_take];omega
   have hidx:=fun {n:Nat} {E:Env} {C:World->Prop} {dst:Option Tmp} {ty:TypeId} {pos:String} {aft:Array Edge} {g:Option (Nat × Bool)} {x y:Operand}=>dI hi' (n:=n) (E:=E) (C:=C) (dst:=dst) (ty:=ty) (pos:=pos) (aft:=aft) (g:=g) (x:=x) (y:=y)
   generalize s.getD i 0=c at hx hidx
   have hs:small c=if decide ((65:Int)<=(c.toNat:Int))&&decide ((c.toNat:Int)<=90) then c+32 else c:=by
    unfold small
    by_cases h:65<=c.toNat/\c.toNat<=90
    · rw[if_pos h,if_pos Y624]
    · rw[if_neg h,if_neg Y624]
   generalize hT:(s.take i).map small=T at hlen⊢
   have hT2:(s.take (i+1)).map small=T++[small c]:=by rw[hx,List.map_append,hT];rfl
   generalize small c=d at hs hT2
   cases h1:decide ((65:Int)<=(c.toNat:Int)) <;> cases h2:decide ((c.toNat:Int)<=90)
   all_goals (
    rw[h1,h2] at hs
    (repeat(first|refine JL.q (by first|(apply hidx;rfl;rfl)|exact Y334|exact Y335) rfl ?_|refine JL.bG rfl rfl ?_|refine JL.aM rfl rfl rfl rfl ?_|refine Y16 ?_))
    refine JC.join (ι:=Unit) (fun _=>[(0,Z s),(3,.slice (some ⟨b,0,none⟩) i cap),(4,N i),(5,U8 d)]) (fun _=>[⟨b,Sl.Own 5 1 i cap (T.map U8),true⟩]) (fun _=>True) ?_ ?_
    · subst hs
      refine JC.cond rfl (fun h=>?_) (fun h=>?_)
      all_goals first|(exfalso;revert h;decide)|skip
      all_goals (clear h;repeat(first|refine JL.q (by first|(apply OQ.RF (b:=32#8);rfl;rfl)|exact Y323|exact Y324) rfl ?_|refine JC.region ?_|refine JC.skip ?_|refine JL.nil ?_))
      all_goals exact JE.mid () trivial Y640 (aj.refl _)
    · rintro⟨⟩ _
      (refine Y17 ?_)
      refine JL.gi (xs:=T.map U8) (fun b' cap'=>[⟨b',Sl.Own 5 1 (i+1) cap' (T.map U8++[U8 d]),true⟩]) Tryz.underlying22 dV rfl rfl rfl rfl (fun _=>rfl) Y642 Y609 Y609 rfl rfl fun bl b' cap'=>?_
      (refine Y18 ?_)
      refine JE.again (i:=(i,b,cap)) (i+1,b',cap') hi' Y643 Y640 (.keep _ _ _ _ _ _ (fun o h=>?_) (.nil _))
      dsimp only
      rw[hT2,List.map_append]
      exact h)
 · have hi':¬ i<s.length:=of_decide_eq_false h
   obtain rfl:i=s.length:=by omega
   clear h hi hi'
   rw[List.take_length]
   have hY:s.length=(s.map small).length:=(List.length_map _).symm
   generalize s.map small=Y at hY⊢
   rw[hY]
   repeat(first|refine JL.q (by(apply OQ.wU (s:=⟨some ⟨b,0,none⟩,cap,Y⟩);exact Tryz.underlying22;exact Tryz.underlying5;exact Tryz.underlying9;rfl;exact(fun w' hw'=>ku hw' .here))) rfl ?_|refine Y19 ?_)
   refine Y247 ?_
   skip
   exact Y248
theorem OQ.gj{P:Program}{n:Nat}{E:Env}{C:World->Prop}{dst:Option Tmp}{t t' ty:TypeId}{pos:String}{aft:Array Edge}{g:Option (Nat × Bool)}{x y:Operand}{a b:BitVec 8}{c:Bool}(hx:ev E x=some (U8 a))(hy:ev E y=some (U8 b))(h:decide (a=b)=c):OQ P n E C ⟨dst,.binOp .eql t x y t',ty,pos,aft,g⟩ (.bool c):=h▸OQ.Pq hx hy
theorem ni:gD Tryz.prog 9=true:=by kernel_rfl
def C6(but:List aq.By)(c:aq.By):Bool:=(decide ((33:Int)<=(c.toNat:Int))&&decide ((c.toNat:Int)<=126))&&decide (kO c but<0)
def cD:List aq.By:=[40,41,60,62,64,44,59,92,34,91,93,61,47,58,63,46]
def fW:List aq.By:=[40,41,60,62,64,44,59,92,34,91,93,61]
theorem u0:C6 cD=aW:=by
 funext c
 have h:∀ c:Fin 256,C6 cD (BitVec.ofNat 8 c.val)=aW (BitVec.ofNat 8 c.val):=by decide +kernel
 simpa using h ⟨c.toNat,c.isLt⟩
theorem Bq:C6 fW=ck:=by
 funext c
 have h:∀ c:Fin 256,C6 fW (BitVec.ofNat 8 c.val)=ck (BitVec.ofNat 8 c.val):=by decide +kernel
 simpa using h ⟨c.toNat,c.isLt⟩
theorem Pv:C6 [60,62]=tP:=by
 funext c
 have h:∀ c:Fin 256,C6 [60,62] (BitVec.ofNat 8 c.val)=tP (BitVec.ofNat 8 c.val):=by decide +kernel
 simpa using h ⟨c.toNat,c.isLt⟩
theorem dO:aJ Tryz.prog 150:=⟨_,Tryz.func150,rfl,by kernel_rfl⟩
theorem w7:aJ Tryz.prog 201:=⟨_,Tryz.func201,rfl,by kernel_rfl⟩
theorem jg:aJ Tryz.prog 149:=⟨_,Tryz.func149,rfl,by kernel_rfl⟩
theorem rG:aJ Tryz.prog 186:=⟨_,Tryz.func186,rfl,by kernel_rfl⟩
theorem gF:aJ Tryz.prog 130:=⟨_,Tryz.func130,rfl,by kernel_rfl⟩
theorem qg:aJ Tryz.prog 173:=⟨_,Tryz.func173,rfl,by kernel_rfl⟩
theorem jh:aJ Tryz.prog 174:=⟨_,Tryz.func174,rfl,by kernel_rfl⟩
theorem iX:aJ Tryz.prog 121:=⟨_,Tryz.func121,rfl,by kernel_rfl⟩
theorem zO(but:List aq.By)(b:Nat)(c:Bt)(w:World)(hc:w.cell? ⟨b,0,none⟩=some (Z but)):Calls Tryz.prog 201 [U8 c,Pt b 0].toArray w fun e w'=>e=.returned (.bool (C6 but c))/\Ext w w':=by
 refine enter (n:=16) Tryz.func201 rfl rfl rfl (aa.start w []) ?_
 unfold C6
 cases h1:decide ((33:Int)<=(c.toNat:Int)) <;> cases h2:decide ((c.toNat:Int)<=126) <;> cases h3:decide (kO c but<0)
 all_goals (repeat(first|refine JL.q (by first|exact Y327|exact Y328|(apply OQ.aI;exact ni;rfl;exact(block_lt_of_cell hc);exact Y614;exact hc)|(apply OQ.ai (vs:=[Z but,U8 c]);exact nW;rfl;exact(fun w' _=>qa but c w'))|(apply OQ.fV (b:=0);rfl;rfl;exact h3)) rfl ?_|refine JL.bG rfl rfl ?_|refine JL.aM rfl rfl rfl rfl ?_|refine Y12 ?_))
 all_goals exact JC.ret (JE.aK rfl (RV.tmp rfl) fun w' hw=>⟨rfl,hw.aH⟩)
@[reducible] def kQ (b:Nat):Value:=.func (.func 201) #[] [Pt b 0].toArray
theorem iw{w0 w:World}{S:List Nat}{M:List aL}{b:Nat}{but:List aq.By}{wr:Bool}(hw:aa w0 S M w)(hM:Has M b (Row 9 [Z but]) wr):kP Tryz.prog w (kQ b) (C6 but):=by
 refine⟨_,[Pt b 0],rfl,w7,fun c w' hx=>zO but b c w' ?_⟩
 obtain⟨o,ho,hA⟩:=hw.get hM
 have hlt:b<w.heap.size:=hw.lt hM.mem
 exact cell_of ((hx.block b hlt Y614).trans ho) (Row.cell rfl o hA)
theorem dZ(but:List aq.By)(w:World):Calls Tryz.prog 150 [Z but].toArray w fun e w'=>∃ b,e=.returned (kQ b)/\aa w [] [⟨b,Row 9 [Z but],true⟩] w':=by
 refine enter (n:=4) Tryz.func150 rfl rfl rfl (aa.start w []) ?_
 refine JC.seq (JC.region (JL.box (r:=[Z but]) rfl rfl rfl fun b _=>?_))
 repeat(first|refine JL.q (by(apply OQ.SM (caps:=[Pt b 0]);rfl)) rfl ?_|refine Y20 ?_)
 exact JC.ret (JE.aK rfl (RV.tmp rfl) fun w' hw=>⟨b,rfl,hw⟩)
theorem qh(s:List Bt)(fv:Value)(p:Bt->Bool)(w:World)(hF:kP Tryz.prog w fv p)(hl:s.length<9223372036854775808):Calls Tryz.prog 149 [Z s,fv].toArray w fun e w'=>e=.returned (N (iN p s))/\Ext w w':=by
 refine enter (n:=21) Tryz.func149 rfl rfl rfl (aa.start w []) ?_
 refine Y21 ?_
 refine JC.loop (fun i:Nat=>[(0,Z s),(1,fv),(7,N s.length),(8,N i)]) (fun _=>[]) (fun i=>s.length-i) (fun i=>i<=s.length/\iN p s=i+iN p (s.drop i)) 0 ⟨Nat.zero_le _,by simp⟩ Y640 (aj.refl _) ?_
 rintro i ⟨hi,ha⟩
 refine Y22 ?_
 refine JC.cond rfl (fun h=>?_) (fun h=>?_)
 · have hi':i<s.length:=of_decide_eq_true h
   clear h hi
   have hd:s.drop i=s.getD i 0::s.drop (i+1):=by rw[List.drop_eq_getElem_cons hi',List.getD_eq_getElem?_getD,List.getElem?_eq_getElem hi'];rfl
   rw[hd,nY] at ha
   have i0:=fun {n:Nat} {E:Env} {C:World->Prop} {dst:Option Tmp} {ty:TypeId} {pos:String} {aft:Array Edge} {g:Option (Nat × Bool)} {x y:Operand}=>dI hi' (n:=n) (E:=E) (C:=C) (dst:=dst) (ty:=ty) (pos:=pos) (aft:=aft) (g:=g) (x:=x) (y:=y)
   generalize s.getD i 0=c at ha i0
   cases h1:p c
   · rw[h1,if_neg Y610,Nat.add_zero] at ha
     rw[ha]
     refine Y23 ?_
     refine Y246 ?_
     refine Y24 ?_
     refine Y247 ?_
     refine Y2 ?_
     exact Y248
   · rw[h1,if_pos rfl] at ha
     refine Y23 ?_
     refine Y245 ?_
     refine Y25 ?_
     exact Y257
 · have hi':¬ i<s.length:=of_decide_eq_false h
   obtain rfl:i=s.length:=by omega
   clear h hi hi'
   rw[List.drop_length] at ha
   have:iN p s=s.length:=ha
   rw[this]
   repeat refine Y14 ?_
   refine Y247 ?_
   exact Y248
def xT(p:aq.By->Bool)(s:List aq.By):Bool:=!decide (s=[])&&decide ((iN p s:Int)=(s.length:Int))
theorem Br(s:List Bt)(fv:Value)(p:Bt->Bool)(w:World)(hF:kP Tryz.prog w fv p)(hl:s.length<9223372036854775808):Calls Tryz.prog 186 [Z s,fv].toArray w fun e w'=>e=.returned (.bool (xT p s))/\Ext w w':=by
 refine enter (n:=15) Tryz.func186 rfl rfl rfl (aa.start w []) ?_
 unfold xT
 cases h1:decide (s=[]) <;> cases h2:decide ((iN p s:Int)=(s.length:Int))
 all_goals (repeat(first|refine JL.q (by first|(apply OQ.lD (r:=[]);rfl;rfl;exact h1)|(apply OQ.ai (vs:=[Z s,fv]);exact jg;rfl;exact(fun w' hw'=>qh s fv p w' (hF.holds hw') hl))|(apply OQ.ep;rfl;rfl;exact h2)) rfl ?_|refine JL.bG rfl rfl ?_|refine JL.aM rfl rfl rfl rfl ?_|refine Y26 ?_))
 all_goals exact JC.ret (JE.aK rfl (RV.tmp rfl) fun w' hw=>⟨rfl,hw.aH⟩)
theorem GW(s:List aq.By):xT (C6 cD) s=dh s:=by
 rw[J1,u0]
 unfold xT
 congr 1
 · cases s <;> simp
 · exact Y255
theorem GX(s:List aq.By):xT (C6 fW) s=cY s:=by
 rw[Dt,Bq]
 unfold xT
 congr 1
 · cases s <;> simp
 · exact Y255
theorem nZ(s:List Bt)(w:World)(hl:s.length<9223372036854775808):Calls Tryz.prog 130 [Z s].toArray w fun e w'=>e=.returned (.bool (dh s))/\Ext w w':=by
 refine enter (n:=6) Tryz.func130 rfl rfl rfl (aa.start w []) ?_
 rw[<- GW]
 refine Y24 ?_
 refine JL.bD (ι:=Nat) (vs:=[Z cD]) kQ (fun b=>[⟨b,Row 9 [Z cD],true⟩]) dO rfl rfl (fun b e he=>by rw[List.mem_singleton.1 he]) (fun w' _=>dZ cD w') fun b=>?_
 repeat(first|refine JL.q (by(apply OQ.ai (vs:=[Z s,kQ b]);exact rG;rfl;exact(fun w' hw'=>Br s (kQ b) (C6 cD) w' (iw hw' .here) hl))) rfl ?_|refine Y27 ?_)
 exact Y244
end
section
open Sl
abbrev Pr:=List Bt × List Bt
def pc(p:Pr):List Value:=[Z p.1,Z p.2]
structure gm where
 ad:Option Addr
 cap:Nat
 l:List Pr
def gm.cells(s:gm):List Value:=s.l.flatMap pc
def gm.v(s:gm):Value:=.slice s.ad s.l.length s.cap
structure gm.ok (w:World) (s:gm):Prop where
 len:s.l.length<=s.cap
 reads:Reads w s.ad s.cells
theorem gm.ok.holds{w0 w:World}{S:List Nat}{M:List aL}{s:gm}(h:s.ok w0)(hw:aa w0 S M w)(hS:S=[]):s.ok w:=⟨h.len,hw.reads h.reads (fun _ a _=>by rw[hS];simp)⟩
theorem gm.ok.ext{w w':World}{s:gm}(h:s.ok w)(hx:Ext w w'):s.ok w':=h.holds (⟨hx,by simp,by simp⟩:aa w [] [] w') rfl
def bV:gm:=⟨none,0,[]⟩
theorem zP(w:World):bV.ok w:=⟨by simp[bV],Reads.nil _ _⟩
theorem OG:∀ (l:List Pr) {i:Nat},i<l.length->(l.flatMap pc)[2*i]?=some (Z (l.getD i ([],[])).1)/\(l.flatMap pc)[2*i+1]?=some (Z (l.getD i ([],[])).2)
 | [],i,h=>by simp at h
 | p::l,0,_=>⟨rfl,rfl⟩
 | p::l,i+1,h=>by
   have:=OG l (i:=i) Y616
   simp only[List.flatMap_cons,List.getD_cons_succ]
   rw[show 2*(i+1)=2*i+2 by omega]
   exact this
theorem zQ(l:List Pr):(l.flatMap pc).length=2*l.length:=by
 induction l with
 | nil=>rfl
 | cons p l ih=>simp only[List.flatMap_cons,List.length_append,ih,List.length_cons];show 2+_=_;omega
theorem gm.ok.at{w:World}{s:gm}(h:s.ok w){i:Nat}(hi:i<s.l.length):∃ b j,s.ad=some ⟨b,j,none⟩/\b<w.heap.size/\w.cell? ⟨b,j+i*2,none⟩=some (Z (s.l.getD i ([],[])).1)/\w.cell? ⟨b,j+i*2+1,none⟩=some (Z (s.l.getD i ([],[])).2):=by
 obtain⟨h1,h2⟩:=OG s.l hi
 obtain⟨b,j,e1,c1⟩:=h.reads _ _ h1
 obtain⟨b',j',e2,c2⟩:=h.reads _ _ h2
 rw[e1] at e2
 cases e2
 exact⟨b,j,e1,block_lt_of_cell c1,by rw[Nat.mul_comm];exact c1,by rw[Nat.mul_comm,Nat.add_assoc];exact c2⟩
theorem pair_cells{w:World}{b j:Nat}{p:Pr}(h1:w.cell? ⟨b,j,none⟩=some (Z p.1))(h2:w.cell? ⟨b,j+1,none⟩=some (Z p.2)):∀ i u,(pc p)[i]?=some u->w.cell? ⟨b,j+i,none⟩=some u:=by
 intro i u hu
 match i with
 | 0=>cases hu;exact h1
 | 1=>cases hu;exact h2
 | i+2=>simp[pc] at hu
def Tk(P:Program)(t:TypeId):Prop:=P.eqGuardType P.depth t=false/\∀ (p q:Pr) (w:World),(Op.equalIn 10000 t (.agg (pc p).toArray) (.agg (pc q).toArray)).run P w=.ok (decide (p=q)) w
def OH(P:Program)(t str:TypeId):Bool:=match (P.fieldsOf t).toList with
 | [f0,f1]=>f0.type==str&&f1.type==str&&f0.offset==0&&f1.offset==1&&f0.name != "_"&&f1.name != "_"
 | _=>false
theorem Pw{P:Program}{t str:TypeId}(ht:P.underlying t=some (.struct (P.fieldsOf t)))(hp:P.stoodInHeld t=false)(hg:P.eqGuardType P.depth t=false)(hf:OH P t str=true)(hs:P.underlying str=some .string)(hc:gD P str=true):Tk P t:=by
 obtain⟨f0,f1,hf,h0,h1,o0,o1,b0,b1⟩:∃ f0 f1,(P.fieldsOf t).toList=[f0,f1]/\f0.type=str/\f1.type=str/\f0.offset=0/\f1.offset=1/\¬ f0.name = "_" /\ ¬ f1.name = "_" := by
  unfold OH at hf
  split at hf
  · next f0 f1 e=>
    simp only[Bool.and_eq_true,beq_iff_eq,bne_iff_ne,ne_eq] at hf
    exact⟨f0,f1,e,hf.1.1.1.1.1,hf.1.1.1.1.2,hf.1.1.1.2,hf.1.1.2,hf.1.2,hf.2⟩
  · cases hf
 refine⟨hg,fun p q w=>?_⟩
 rw[run_equalIn_struct w 9999 t _ _ ht hp,hf]
 have e1:∀ (a b:List Bt) (w:World),(Op.equalIn 9999 str (.string (bP a)) (.string (bP b))).run P w=.ok (decide (a=b)) w:=fun a b w=>by
  rw[show(9999:Nat)=9998+1 from rfl,run_equalIn_string w 9998 str (bP a) (bP b) hs,tJ]
 have pa:∀ (x y:Value) w,(part str #[x,y] 0).run P w=.ok x w:=fun x y w=>by simp[part,iT hc]
 have pb:∀ (x y:Value) w,(part str #[x,y] 1).run P w=.ok y w:=fun x y w=>by simp[part,iT hc]
 simp only[Op.eqFields,h0,h1,o0,o1,b0,b1,ne_eq,not_false_eq_true,if_true,pc,Sem.run_bind,pa,pb,Result.andThen_ok,e1]
 by_cases c1:p.1=q.1 <;> by_cases c2:p.2=q.2 <;> simp[c1,c2,Prod.ext_iff,pb,e1]
section
variable {P:Program} {n:Nat} {E:Env} {C:World->Prop} {dst:Option Tmp} {t t' ty:TypeId} {pos:String} {aft:Array Edge} {g:Option (Nat × Bool)} {x y:Operand} {p q:Pr}
theorem OQ.TV{c:Bool}(he:Tk P t)(hx:ev E x=some (.agg (pc p).toArray))(hy:ev E y=some (.agg (pc q).toArray))(h:decide (p=q)=c):OQ P n E C ⟨dst,.binOp .neq t x y t',ty,pos,aft,g⟩ (.bool (!c)):=
 OQ.run fun a ha w _=>by
  have h1:=ha.eval hx
  have h2:=ha.eval hy
  have h4:=fun w=>run_eqGuard_agg (P:=P) (w:=w) .neq t x y (pc p).toArray (pc q).toArray he.1
  have h5:=fun w=>run_neq_struct (P:=P) (w:=w) t (pc p).toArray (pc q).toArray
  simp only[execOp,h1,h2,Sem.run_bind,h4,Result.andThen_ok,h5,he.2,h]
  rfl
end
theorem bS:gD Tryz.prog 9=true:=by kernel_rfl
theorem w8:gX Tryz.prog 9=some 1:=by kernel_rfl
theorem M3{l r:List Pr}{i:Nat}(hl:i<l.length)(hr:i<r.length)(h:l.take i=r.take i)(k:l.getD i ([],[])=r.getD i ([],[])):l.take (i+1)=r.take (i+1):=by
 rw[List.take_add_one,List.take_add_one,h]
 rw[List.getD_eq_getElem?_getD,List.getD_eq_getElem?_getD,List.getElem?_eq_getElem hl,List.getElem?_eq_getElem hr] at k
 rw[List.getElem?_eq_getElem hl,List.getElem?_eq_getElem hr]
 simp only[Option.getD_some] at k
 rw[k]
def fX(a:gm):Prop:=∀ p∈a.l,p.1.length<9223372036854775808/\p.2.length<9223372036854775808
theorem lF{l:List Pr}{i:Nat}(h:i<l.length):l.getD i ([],[])∈l:=by
 rw[List.getD_eq_getElem?_getD,List.getElem?_eq_getElem h]
 exact List.getElem_mem h
end
end Go.Proofs.YtdabhneehconeaaGreatDoor
